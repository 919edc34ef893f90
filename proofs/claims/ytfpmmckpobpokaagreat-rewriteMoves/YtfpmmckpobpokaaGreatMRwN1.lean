/-
  The contract of the answer's moved at a cell and at a range (made by movedgen.py).
-/
import Derived.Test.YtfpmmckpobpokaaGreatMRwS2
import Derived.Test.YtfpmmckpobpokaaGreatMVMr
set_option maxRecDepth 100000
set_option maxHeartbeats 4000000
namespace Go.Proofs.YtfpmmckpobpokaaGreat
open Go.RowKit
theorem rordered_any (f t l g : Int) (w : World) : Calls Tryz.prog 98 #[.int .i64 f, .int .i64 t, .int .i64 l, .int .i64 g] w fun e w' => e = .returned (.tuple #[.int .i64 (if f ≤ t then l else g), .int .i64 (if f ≤ t then g else l)]) ∧ w' = w := by
 by_cases h : f ≤ t
 ·
  simp only [if_pos h]
  go_enter Tryz.func98, Tryz.ntmps98
  go_wp2
  exact bodyPost_ret (v := .tuple #[.int .i64 l, .int .i64 g]) (by simp [results, Tryz.results98, go_sem]) rfl ⟨rfl, rfl⟩
 ·
  simp only [if_neg h]
  go_enter Tryz.func98, Tryz.ntmps98
  go_wp2
  exact bodyPost_ret (v := .tuple #[.int .i64 g, .int .i64 l]) (by simp [results, Tryz.results98, go_sem]) rfl ⟨rfl, rfl⟩
theorem moved_cell_no (h : Hd) (a : Option Addr) (n cap : Nat) (ek ea en : Int) (w : World) (hk : h.kind = 2) (s1 s2 s3 s4 : Int) (hs : Pla.spotR ek ea en h.row h.col = (s1, s2, s3, s4)) (h0 : (s3 != 0) = true) :
  Calls Tryz.prog 67 #[.agg (hdC h (.slice a n cap)).toArray, .agg #[.int .i64 ek, .int .i64 ea, .int .i64 en]] w fun e w' => e = .returned (.agg (hdC lostH (.slice none 0 0)).toArray) ∧ Below w.heap.size w w' := by
 have HS : Hid (∀ W : World, Calls Tryz.prog 95 #[.agg #[.int .i64 ek, .int .i64 ea, .int .i64 en], .agg #[.int .i64 h.row, .int .i64 h.col]] W fun e w' => e = .returned (.tuple #[.agg #[.int .i64 s1, .int .i64 s2], .int .i64 s3, .int .i64 s4]) ∧ Below W.heap.size W w') := fun W => by
  have := Pla.rspot_any ek ea en h.row h.col W
  rw [hs] at this
  exact this
 have HL : Hid (∀ W : World, Calls Tryz.prog 73 #[] W fun e w' => e = .returned (.agg (hdC lostH (.slice none 0 0)).toArray) ∧ Below W.heap.size W w') := fun W => rlost_ans W
 have HX0 := hide (((Box.new w (hdC h (.slice a n cap))).alloc (.cells #[.int .i64 ek, .int .i64 ea, .int .i64 en] 36)).alloc (.cells #[.int .i64 0, .int .i64 0, .int .i64 0, .string ⟨#[]⟩, .bool false, .int .i64 0, .int .i64 0, .int .i64 0, .bool false, .bool false, .int .i64 0, .int .i64 0, .bool false, .bool false, .string ⟨#[]⟩, .slice none 0 0] 33))
 have HE0 : Hid (Pla.At3 (((w.alloc (.cells (hdC h (.slice a n cap)).toArray 33)).alloc (.cells #[.int .i64 ek, .int .i64 ea, .int .i64 en] 36)).alloc (.cells #[.int .i64 0, .int .i64 0, .int .i64 0, .string ⟨#[]⟩, .bool false, .int .i64 0, .int .i64 0, .int .i64 0, .bool false, .bool false, .int .i64 0, .int .i64 0, .bool false, .bool false, .string ⟨#[]⟩, .slice none 0 0] 33)) (w.heap.size + 1) ek ea en) := by
  have := (Pla.At3.new (w.alloc (.cells (hdC h (.slice a n cap)).toArray 33)) ek ea en 36).alloc (.cells #[.int .i64 0, .int .i64 0, .int .i64 0, .string ⟨#[]⟩, .bool false, .int .i64 0, .int .i64 0, .int .i64 0, .bool false, .bool false, .int .i64 0, .int .i64 0, .bool false, .bool false, .string ⟨#[]⟩, .slice none 0 0] 33)
  exact hide (by simpa using this)
 have HZ0 : Hid (Box (((w.alloc (.cells (hdC h (.slice a n cap)).toArray 33)).alloc (.cells #[.int .i64 ek, .int .i64 ea, .int .i64 en] 36)).alloc (.cells #[.int .i64 0, .int .i64 0, .int .i64 0, .string ⟨#[]⟩, .bool false, .int .i64 0, .int .i64 0, .int .i64 0, .bool false, .bool false, .int .i64 0, .int .i64 0, .bool false, .bool false, .string ⟨#[]⟩, .slice none 0 0] 33)) (w.heap.size + 2) (hdC zh (.slice none 0 0))) := by
  have := Box.new ((w.alloc (.cells (hdC h (.slice a n cap)).toArray 33)).alloc (.cells #[.int .i64 ek, .int .i64 ea, .int .i64 en] 36)) (hdC zh (.slice none 0 0))
  rw [World.size_alloc, World.size_alloc] at this
  exact hide this
 have HB0 : Hid (Below w.heap.size w (((w.alloc (.cells (hdC h (.slice a n cap)).toArray 33)).alloc (.cells #[.int .i64 ek, .int .i64 ea, .int .i64 en] 36)).alloc (.cells #[.int .i64 0, .int .i64 0, .int .i64 0, .string ⟨#[]⟩, .bool false, .int .i64 0, .int .i64 0, .int .i64 0, .bool false, .bool false, .int .i64 0, .int .i64 0, .bool false, .bool false, .string ⟨#[]⟩, .slice none 0 0] 33))) := hide ((((Below.refl _ w).alloc (Nat.le_refl _) _).alloc (by simp) _).alloc (by simp; omega) _)
 have p0 := HX0.out.cell 0 (.int .i64 h.kind) rfl
 rw [hk] at p0
 have p6 := HX0.out.cell 6 (.int .i64 h.row) rfl
 have p7 := HX0.out.cell 7 (.int .i64 h.col) rfl
 have ⟨y0, y1, y2, y3⟩ := HE0.out
 have HG0 : Hid (0 = 0) := hide rfl
 clear hs hk
 go_enter Tryz.func67, Tryz.ntmps67
 go_wp2_with (first | (have hneed := HG0; go_at_call 95; refine (HS.out _).mono ?_; rintro e w1 ⟨rfl, hb1⟩; have HX1 := hide ((HX0.out.below hb1).alloc (.cells #[.int .i64 s1, .int .i64 s2] 28)); have HZ1 := hide ((HZ0.out.below hb1).alloc (.cells #[.int .i64 s1, .int .i64 s2] 28)); have HB1 := hide ((HB0.out.trans (hb1.mono HB0.out.size)).alloc (HB0.out.trans (hb1.mono HB0.out.size)).size (.cells #[.int .i64 s1, .int .i64 s2] 28)); clear hb1 hneed p0 p6 p7 y0 y1 y2 y3 HX0 HZ0 HE0 HG0; have HG1 : Hid (0 = 0) := hide rfl) | (have hneed := HG1; go_at_call 73; refine (HL.out _).mono ?_; rintro e w3 ⟨rfl, hb3⟩; have HZ3 := hide (HZ1.out.below hb3); have HB3 := hide (HB1.out.trans (hb3.mono HB1.out.size)); clear hb3 hneed) | (with_reducible refine wpl_id ?_; refine wpl_store rfl _ _ rfl _ rfl rfl (by ((repeat' (first | with_reducible (first | exact Hid.out (by assumption) | apply Box.set | exact Box.new _ _ | apply Box.other | apply Box.alloc | apply Box.drew | apply Box.drewN) | omega)); done)) rfl ?_))
 have hsz := HB3.out.size
 exact bodyPost_ret (Box.ret rfl (HZ3.out.set _) rfl) rfl ⟨rfl, below_set HB3.out (by omega) _⟩
theorem moved_cell_ok (h : Hd) (a : Option Addr) (n cap : Nat) (ek ea en : Int) (w : World) (hk : h.kind = 2) (s1 s2 s4 : Int) (hs : Pla.spotR ek ea en h.row h.col = (s1, s2, 0, s4)) :
  Calls Tryz.prog 67 #[.agg (hdC h (.slice a n cap)).toArray, .agg #[.int .i64 ek, .int .i64 ea, .int .i64 en]] w fun e w' => e = .returned (.agg (hdC ⟨h.kind, h.vk, h.vn, h.vs, h.vb, h.vc, s1, s2, h.fr, h.fc, h.row2, h.col2, h.fr2, h.fc2, h.txt⟩ (.slice a n cap)).toArray) ∧ Below w.heap.size w w' := by
 have HS : Hid (∀ W : World, Calls Tryz.prog 95 #[.agg #[.int .i64 ek, .int .i64 ea, .int .i64 en], .agg #[.int .i64 h.row, .int .i64 h.col]] W fun e w' => e = .returned (.tuple #[.agg #[.int .i64 s1, .int .i64 s2], .int .i64 0, .int .i64 s4]) ∧ Below W.heap.size W w') := fun W => by
  have := Pla.rspot_any ek ea en h.row h.col W
  rw [hs] at this
  exact this
 have HL : Hid (∀ W : World, Calls Tryz.prog 73 #[] W fun e w' => e = .returned (.agg (hdC lostH (.slice none 0 0)).toArray) ∧ Below W.heap.size W w') := fun W => rlost_ans W
 have HX0 := hide (((Box.new w (hdC h (.slice a n cap))).alloc (.cells #[.int .i64 ek, .int .i64 ea, .int .i64 en] 36)).alloc (.cells #[.int .i64 0, .int .i64 0, .int .i64 0, .string ⟨#[]⟩, .bool false, .int .i64 0, .int .i64 0, .int .i64 0, .bool false, .bool false, .int .i64 0, .int .i64 0, .bool false, .bool false, .string ⟨#[]⟩, .slice none 0 0] 33))
 have HE0 : Hid (Pla.At3 (((w.alloc (.cells (hdC h (.slice a n cap)).toArray 33)).alloc (.cells #[.int .i64 ek, .int .i64 ea, .int .i64 en] 36)).alloc (.cells #[.int .i64 0, .int .i64 0, .int .i64 0, .string ⟨#[]⟩, .bool false, .int .i64 0, .int .i64 0, .int .i64 0, .bool false, .bool false, .int .i64 0, .int .i64 0, .bool false, .bool false, .string ⟨#[]⟩, .slice none 0 0] 33)) (w.heap.size + 1) ek ea en) := by
  have := (Pla.At3.new (w.alloc (.cells (hdC h (.slice a n cap)).toArray 33)) ek ea en 36).alloc (.cells #[.int .i64 0, .int .i64 0, .int .i64 0, .string ⟨#[]⟩, .bool false, .int .i64 0, .int .i64 0, .int .i64 0, .bool false, .bool false, .int .i64 0, .int .i64 0, .bool false, .bool false, .string ⟨#[]⟩, .slice none 0 0] 33)
  exact hide (by simpa using this)
 have HZ0 : Hid (Box (((w.alloc (.cells (hdC h (.slice a n cap)).toArray 33)).alloc (.cells #[.int .i64 ek, .int .i64 ea, .int .i64 en] 36)).alloc (.cells #[.int .i64 0, .int .i64 0, .int .i64 0, .string ⟨#[]⟩, .bool false, .int .i64 0, .int .i64 0, .int .i64 0, .bool false, .bool false, .int .i64 0, .int .i64 0, .bool false, .bool false, .string ⟨#[]⟩, .slice none 0 0] 33)) (w.heap.size + 2) (hdC zh (.slice none 0 0))) := by
  have := Box.new ((w.alloc (.cells (hdC h (.slice a n cap)).toArray 33)).alloc (.cells #[.int .i64 ek, .int .i64 ea, .int .i64 en] 36)) (hdC zh (.slice none 0 0))
  rw [World.size_alloc, World.size_alloc] at this
  exact hide this
 have HB0 : Hid (Below w.heap.size w (((w.alloc (.cells (hdC h (.slice a n cap)).toArray 33)).alloc (.cells #[.int .i64 ek, .int .i64 ea, .int .i64 en] 36)).alloc (.cells #[.int .i64 0, .int .i64 0, .int .i64 0, .string ⟨#[]⟩, .bool false, .int .i64 0, .int .i64 0, .int .i64 0, .bool false, .bool false, .int .i64 0, .int .i64 0, .bool false, .bool false, .string ⟨#[]⟩, .slice none 0 0] 33))) := hide ((((Below.refl _ w).alloc (Nat.le_refl _) _).alloc (by simp) _).alloc (by simp; omega) _)
 have p0 := HX0.out.cell 0 (.int .i64 h.kind) rfl
 rw [hk] at p0
 have p6 := HX0.out.cell 6 (.int .i64 h.row) rfl
 have p7 := HX0.out.cell 7 (.int .i64 h.col) rfl
 have ⟨y0, y1, y2, y3⟩ := HE0.out
 have HG0 : Hid (0 = 0) := hide rfl
 clear hs hk
 go_enter Tryz.func67, Tryz.ntmps67
 go_wp2_with (first | (have hneed := HG0; go_at_call 95; refine (HS.out _).mono ?_; rintro e w1 ⟨rfl, hb1⟩; have HX1 := hide ((HX0.out.below hb1).alloc (.cells #[.int .i64 s1, .int .i64 s2] 28)); have HZ1 := hide ((HZ0.out.below hb1).alloc (.cells #[.int .i64 s1, .int .i64 s2] 28)); have HB1 := hide ((HB0.out.trans (hb1.mono HB0.out.size)).alloc (HB0.out.trans (hb1.mono HB0.out.size)).size (.cells #[.int .i64 s1, .int .i64 s2] 28)); clear hb1 hneed p0 p6 p7 y0 y1 y2 y3 HX0 HZ0 HE0 HG0; have p6 := HX1.out.cell 6 (.int .i64 h.row) rfl; have p7 := HX1.out.cell 7 (.int .i64 h.col) rfl; have f6 := HX1.out.soft 6; have f7 := HX1.out.soft 7; have HX3 : Hid (Box (((w1.alloc (.cells #[.int .i64 s1, .int .i64 s2] 28)).setCell ⟨w.heap.size, 6, none⟩ (.int .i64 s1)).setCell ⟨w.heap.size, 7, none⟩ (.int .i64 s2)) w.heap.size (hdC ⟨h.kind, h.vk, h.vn, h.vs, h.vb, h.vc, s1, s2, h.fr, h.fc, h.row2, h.col2, h.fr2, h.fc2, h.txt⟩ (.slice a n cap))) := hide ((HX1.out.one 6 _).one 7 _); have HZ3 := hide ((HZ1.out.cellset (b' := w.heap.size) (by omega) 6 (.int .i64 s1)).cellset (b' := w.heap.size) (by omega) 7 (.int .i64 s2)); have HB3 := hide ((HB1.out.setCell (p := ⟨w.heap.size, 6, none⟩) (Nat.le_refl _) (.int .i64 s1)).setCell (p := ⟨w.heap.size, 7, none⟩) (Nat.le_refl _) (.int .i64 s2)); have HG1 : Hid (0 = 0) := hide rfl) | (with_reducible refine wpl_id ?_; refine wpl_load rfl _ rfl _ rfl (by ((repeat' (first | with_reducible (first | exact Hid.out (by assumption) | apply Box.set | exact Box.new _ _ | apply Box.other | apply Box.alloc | apply Box.drew | apply Box.drewN) | omega)); done)) ?_) | (with_reducible refine wpl_id ?_; refine wpl_store rfl _ _ rfl _ rfl rfl (by ((repeat' (first | with_reducible (first | exact Hid.out (by assumption) | apply Box.set | exact Box.new _ _ | apply Box.other | apply Box.alloc | apply Box.drew | apply Box.drewN) | omega)); done)) rfl ?_))
 have hsz := HB3.out.size
 exact bodyPost_ret (Box.ret rfl (HZ3.out.set _) rfl) rfl ⟨rfl, below_set HB3.out (by omega) _⟩
theorem moved_range_no (h : Hd) (a : Option Addr) (n cap : Nat) (ek ea en : Int) (w : World) (hk : h.kind = 3) (o1 o2 o3 o4 o5 q1 q2 q3 q4 q6 : Int) (ho : Pla.ofR h.row h.col h.row2 h.col2 = (o1, o2, o3, o4, o5)) (hq : Pla.rectR ek ea en o1 o2 o3 o4 = (q1, q2, q3, q4, false, q6)) :
  Calls Tryz.prog 67 #[.agg (hdC h (.slice a n cap)).toArray, .agg #[.int .i64 ek, .int .i64 ea, .int .i64 en]] w fun e w' => e = .returned (.agg (hdC lostH (.slice none 0 0)).toArray) ∧ Below w.heap.size w w' := by
 have HO : Hid (∀ W : World, Calls Tryz.prog 96 #[.agg #[.int .i64 h.row, .int .i64 h.col], .agg #[.int .i64 h.row2, .int .i64 h.col2]] W fun e w' => e = .returned (.tuple #[.agg #[.int .i64 o1, .int .i64 o2, .int .i64 o3, .int .i64 o4], .int .i64 o5]) ∧ Below W.heap.size W w') := fun W => by
  have := Pla.rof_any h.row h.col h.row2 h.col2 W
  rw [ho] at this
  exact this
 have HR : Hid (∀ W : World, Calls Tryz.prog 97 #[.agg #[.int .i64 ek, .int .i64 ea, .int .i64 en], .agg #[.int .i64 o1, .int .i64 o2, .int .i64 o3, .int .i64 o4]] W fun e w' => e = .returned (.tuple #[.agg #[.int .i64 q1, .int .i64 q2, .int .i64 q3, .int .i64 q4], .bool false, .int .i64 q6]) ∧ Below W.heap.size W w') := fun W => by
  have := Pla.rrect_any ek ea en o1 o2 o3 o4 W
  rw [hq] at this
  exact this
 have HL : Hid (∀ W : World, Calls Tryz.prog 73 #[] W fun e w' => e = .returned (.agg (hdC lostH (.slice none 0 0)).toArray) ∧ Below W.heap.size W w') := fun W => rlost_ans W
 have HX0 := hide (((Box.new w (hdC h (.slice a n cap))).alloc (.cells #[.int .i64 ek, .int .i64 ea, .int .i64 en] 36)).alloc (.cells #[.int .i64 0, .int .i64 0, .int .i64 0, .string ⟨#[]⟩, .bool false, .int .i64 0, .int .i64 0, .int .i64 0, .bool false, .bool false, .int .i64 0, .int .i64 0, .bool false, .bool false, .string ⟨#[]⟩, .slice none 0 0] 33))
 have HE0 : Hid (Pla.At3 (((w.alloc (.cells (hdC h (.slice a n cap)).toArray 33)).alloc (.cells #[.int .i64 ek, .int .i64 ea, .int .i64 en] 36)).alloc (.cells #[.int .i64 0, .int .i64 0, .int .i64 0, .string ⟨#[]⟩, .bool false, .int .i64 0, .int .i64 0, .int .i64 0, .bool false, .bool false, .int .i64 0, .int .i64 0, .bool false, .bool false, .string ⟨#[]⟩, .slice none 0 0] 33)) (w.heap.size + 1) ek ea en) := by
  have := (Pla.At3.new (w.alloc (.cells (hdC h (.slice a n cap)).toArray 33)) ek ea en 36).alloc (.cells #[.int .i64 0, .int .i64 0, .int .i64 0, .string ⟨#[]⟩, .bool false, .int .i64 0, .int .i64 0, .int .i64 0, .bool false, .bool false, .int .i64 0, .int .i64 0, .bool false, .bool false, .string ⟨#[]⟩, .slice none 0 0] 33)
  exact hide (by simpa using this)
 have HZ0 : Hid (Box (((w.alloc (.cells (hdC h (.slice a n cap)).toArray 33)).alloc (.cells #[.int .i64 ek, .int .i64 ea, .int .i64 en] 36)).alloc (.cells #[.int .i64 0, .int .i64 0, .int .i64 0, .string ⟨#[]⟩, .bool false, .int .i64 0, .int .i64 0, .int .i64 0, .bool false, .bool false, .int .i64 0, .int .i64 0, .bool false, .bool false, .string ⟨#[]⟩, .slice none 0 0] 33)) (w.heap.size + 2) (hdC zh (.slice none 0 0))) := by
  have := Box.new ((w.alloc (.cells (hdC h (.slice a n cap)).toArray 33)).alloc (.cells #[.int .i64 ek, .int .i64 ea, .int .i64 en] 36)) (hdC zh (.slice none 0 0))
  rw [World.size_alloc, World.size_alloc] at this
  exact hide this
 have HB0 : Hid (Below w.heap.size w (((w.alloc (.cells (hdC h (.slice a n cap)).toArray 33)).alloc (.cells #[.int .i64 ek, .int .i64 ea, .int .i64 en] 36)).alloc (.cells #[.int .i64 0, .int .i64 0, .int .i64 0, .string ⟨#[]⟩, .bool false, .int .i64 0, .int .i64 0, .int .i64 0, .bool false, .bool false, .int .i64 0, .int .i64 0, .bool false, .bool false, .string ⟨#[]⟩, .slice none 0 0] 33))) := hide ((((Below.refl _ w).alloc (Nat.le_refl _) _).alloc (by simp) _).alloc (by simp; omega) _)
 have p0 := HX0.out.cell 0 (.int .i64 h.kind) rfl
 rw [hk] at p0
 have p6 := HX0.out.cell 6 (.int .i64 h.row) rfl
 have p7 := HX0.out.cell 7 (.int .i64 h.col) rfl
 have ⟨y0, y1, y2, y3⟩ := HE0.out
 have p10 := HX0.out.cell 10 (.int .i64 h.row2) rfl
 have p11 := HX0.out.cell 11 (.int .i64 h.col2) rfl
 have HG0 : Hid (0 = 0) := hide rfl
 clear ho hq hk
 go_enter Tryz.func67, Tryz.ntmps67
 go_wp2_with (first | (have hneed := HG0; go_at_call 96; refine (HO.out _).mono ?_; rintro e w1 ⟨rfl, hb1⟩; have HX1 := hide ((HX0.out.below hb1).alloc (.cells #[.int .i64 o1, .int .i64 o2, .int .i64 o3, .int .i64 o4] 62)); have HZ1 := hide ((HZ0.out.below hb1).alloc (.cells #[.int .i64 o1, .int .i64 o2, .int .i64 o3, .int .i64 o4] 62)); have HE1 := hide ((HE0.out.below hb1).alloc (.cells #[.int .i64 o1, .int .i64 o2, .int .i64 o3, .int .i64 o4] 62)); have HB1 := hide ((HB0.out.trans (hb1.mono HB0.out.size)).alloc (HB0.out.trans (hb1.mono HB0.out.size)).size (.cells #[.int .i64 o1, .int .i64 o2, .int .i64 o3, .int .i64 o4] 62)); clear hb1 hneed p0 p6 p7 p10 p11 y0 y1 y2 y3 HX0 HZ0 HE0 HG0; have ⟨y0, y1, y2, y3⟩ := HE1.out; have HG1 : Hid (0 = 0) := hide rfl) | (have hneed := HG1; go_at_call 97; refine (HR.out _).mono ?_; rintro e w2 ⟨rfl, hb2⟩; have HX2 := hide ((HX1.out.below hb2).alloc (.cells #[.int .i64 q1, .int .i64 q2, .int .i64 q3, .int .i64 q4] 62)); have HZ2 := hide ((HZ1.out.below hb2).alloc (.cells #[.int .i64 q1, .int .i64 q2, .int .i64 q3, .int .i64 q4] 62)); have HB2 := hide ((HB1.out.trans (hb2.mono HB1.out.size)).alloc (HB1.out.trans (hb2.mono HB1.out.size)).size (.cells #[.int .i64 q1, .int .i64 q2, .int .i64 q3, .int .i64 q4] 62)); clear hb2 hneed y0 y1 y2 y3 HX1 HZ1 HE1 HG1; have HG2 : Hid (0 = 0) := hide rfl) | (have hneed := HG2; go_at_call 73; refine (HL.out _).mono ?_; rintro e w3 ⟨rfl, hb3⟩; have HZ3 := hide (HZ2.out.below hb3); have HB3 := hide (HB2.out.trans (hb3.mono HB2.out.size)); clear hb3 hneed) | (with_reducible refine wpl_id ?_; refine wpl_store rfl _ _ rfl _ rfl rfl (by ((repeat' (first | with_reducible (first | exact Hid.out (by assumption) | apply Box.set | exact Box.new _ _ | apply Box.other | apply Box.alloc | apply Box.drew | apply Box.drewN) | omega)); done)) rfl ?_))
 have hsz := HB3.out.size
 exact bodyPost_ret (Box.ret rfl (HZ3.out.set _) rfl) rfl ⟨rfl, below_set HB3.out (by omega) _⟩
theorem has2_other {w : World} {b c : Nat} {x y : Int} (h : Pla.Has2 w b x y) (hb : b ≠ c) (u v : Value) : Pla.Has2 ((w.setCell ⟨c, 0, none⟩ u).setCell ⟨c, 1, none⟩ v) b x y := by
 have q : ∀ (W : World) (i j : Nat) (u : Value), (W.setCell ⟨c, j, none⟩ u).cell? ⟨b, i, none⟩ = W.cell? ⟨b, i, none⟩ := fun W i j u => World.cell?_setCell_other _ _ _ _ (by intro e; have := congrArg Addr.block e; simp at this; omega)
 obtain ⟨⟨l, c0, d⟩, f, g⟩ := h
 exact ⟨⟨by simpa using l, by rw [q, q]; exact c0, by rw [q, q]; exact d⟩, by rw [World.frozen?_setCell, World.frozen?_setCell]; exact f, by rw [World.frozen?_setCell, World.frozen?_setCell]; exact g⟩
theorem moved_range_ok (h : Hd) (a : Option Addr) (n cap : Nat) (ek ea en : Int) (w : World) (hk : h.kind = 3) (o1 o2 o3 o4 o5 q1 q2 q3 q4 q6 : Int) (ho : Pla.ofR h.row h.col h.row2 h.col2 = (o1, o2, o3, o4, o5)) (hq : Pla.rectR ek ea en o1 o2 o3 o4 = (q1, q2, q3, q4, true, q6)) (u1 u2 u3 u4 : Int) (v1 : (if h.row ≤ h.row2 then q1 else q3) = u1) (v2 : (if h.row ≤ h.row2 then q3 else q1) = u2) (v3 : (if h.col ≤ h.col2 then q2 else q4) = u3) (v4 : (if h.col ≤ h.col2 then q4 else q2) = u4) :
  Calls Tryz.prog 67 #[.agg (hdC h (.slice a n cap)).toArray, .agg #[.int .i64 ek, .int .i64 ea, .int .i64 en]] w fun e w' => e = .returned (.agg (hdC ⟨h.kind, h.vk, h.vn, h.vs, h.vb, h.vc, u1, u3, h.fr, h.fc, u2, u4, h.fr2, h.fc2, h.txt⟩ (.slice a n cap)).toArray) ∧ Below w.heap.size w w' := by
 have HO : Hid (∀ W : World, Calls Tryz.prog 96 #[.agg #[.int .i64 h.row, .int .i64 h.col], .agg #[.int .i64 h.row2, .int .i64 h.col2]] W fun e w' => e = .returned (.tuple #[.agg #[.int .i64 o1, .int .i64 o2, .int .i64 o3, .int .i64 o4], .int .i64 o5]) ∧ Below W.heap.size W w') := fun W => by
  have := Pla.rof_any h.row h.col h.row2 h.col2 W
  rw [ho] at this
  exact this
 have HR : Hid (∀ W : World, Calls Tryz.prog 97 #[.agg #[.int .i64 ek, .int .i64 ea, .int .i64 en], .agg #[.int .i64 o1, .int .i64 o2, .int .i64 o3, .int .i64 o4]] W fun e w' => e = .returned (.tuple #[.agg #[.int .i64 q1, .int .i64 q2, .int .i64 q3, .int .i64 q4], .bool true, .int .i64 q6]) ∧ Below W.heap.size W w') := fun W => by
  have := Pla.rrect_any ek ea en o1 o2 o3 o4 W
  rw [hq] at this
  exact this
 have HL : Hid (∀ W : World, Calls Tryz.prog 73 #[] W fun e w' => e = .returned (.agg (hdC lostH (.slice none 0 0)).toArray) ∧ Below W.heap.size W w') := fun W => rlost_ans W
 have HX0 := hide (((Box.new w (hdC h (.slice a n cap))).alloc (.cells #[.int .i64 ek, .int .i64 ea, .int .i64 en] 36)).alloc (.cells #[.int .i64 0, .int .i64 0, .int .i64 0, .string ⟨#[]⟩, .bool false, .int .i64 0, .int .i64 0, .int .i64 0, .bool false, .bool false, .int .i64 0, .int .i64 0, .bool false, .bool false, .string ⟨#[]⟩, .slice none 0 0] 33))
 have HE0 : Hid (Pla.At3 (((w.alloc (.cells (hdC h (.slice a n cap)).toArray 33)).alloc (.cells #[.int .i64 ek, .int .i64 ea, .int .i64 en] 36)).alloc (.cells #[.int .i64 0, .int .i64 0, .int .i64 0, .string ⟨#[]⟩, .bool false, .int .i64 0, .int .i64 0, .int .i64 0, .bool false, .bool false, .int .i64 0, .int .i64 0, .bool false, .bool false, .string ⟨#[]⟩, .slice none 0 0] 33)) (w.heap.size + 1) ek ea en) := by
  have := (Pla.At3.new (w.alloc (.cells (hdC h (.slice a n cap)).toArray 33)) ek ea en 36).alloc (.cells #[.int .i64 0, .int .i64 0, .int .i64 0, .string ⟨#[]⟩, .bool false, .int .i64 0, .int .i64 0, .int .i64 0, .bool false, .bool false, .int .i64 0, .int .i64 0, .bool false, .bool false, .string ⟨#[]⟩, .slice none 0 0] 33)
  exact hide (by simpa using this)
 have HZ0 : Hid (Box (((w.alloc (.cells (hdC h (.slice a n cap)).toArray 33)).alloc (.cells #[.int .i64 ek, .int .i64 ea, .int .i64 en] 36)).alloc (.cells #[.int .i64 0, .int .i64 0, .int .i64 0, .string ⟨#[]⟩, .bool false, .int .i64 0, .int .i64 0, .int .i64 0, .bool false, .bool false, .int .i64 0, .int .i64 0, .bool false, .bool false, .string ⟨#[]⟩, .slice none 0 0] 33)) (w.heap.size + 2) (hdC zh (.slice none 0 0))) := by
  have := Box.new ((w.alloc (.cells (hdC h (.slice a n cap)).toArray 33)).alloc (.cells #[.int .i64 ek, .int .i64 ea, .int .i64 en] 36)) (hdC zh (.slice none 0 0))
  rw [World.size_alloc, World.size_alloc] at this
  exact hide this
 have HB0 : Hid (Below w.heap.size w (((w.alloc (.cells (hdC h (.slice a n cap)).toArray 33)).alloc (.cells #[.int .i64 ek, .int .i64 ea, .int .i64 en] 36)).alloc (.cells #[.int .i64 0, .int .i64 0, .int .i64 0, .string ⟨#[]⟩, .bool false, .int .i64 0, .int .i64 0, .int .i64 0, .bool false, .bool false, .int .i64 0, .int .i64 0, .bool false, .bool false, .string ⟨#[]⟩, .slice none 0 0] 33))) := hide ((((Below.refl _ w).alloc (Nat.le_refl _) _).alloc (by simp) _).alloc (by simp; omega) _)
 have p0 := HX0.out.cell 0 (.int .i64 h.kind) rfl
 rw [hk] at p0
 have p6 := HX0.out.cell 6 (.int .i64 h.row) rfl
 have p7 := HX0.out.cell 7 (.int .i64 h.col) rfl
 have ⟨y0, y1, y2, y3⟩ := HE0.out
 have p10 := HX0.out.cell 10 (.int .i64 h.row2) rfl
 have p11 := HX0.out.cell 11 (.int .i64 h.col2) rfl
 have HG0 : Hid (0 = 0) := hide rfl
 clear ho hq hk
 have H1 : Hid (∀ W : World, Calls Tryz.prog 98 #[.int .i64 h.row, .int .i64 h.row2, .int .i64 q1, .int .i64 q3] W fun e w' => e = .returned (.tuple #[.int .i64 u1, .int .i64 u2]) ∧ w' = W) := fun W => by
  have := rordered_any h.row h.row2 q1 q3 W
  rw [v1, v2] at this
  exact this
 have H2 : Hid (∀ W : World, Calls Tryz.prog 98 #[.int .i64 h.col, .int .i64 h.col2, .int .i64 q2, .int .i64 q4] W fun e w' => e = .returned (.tuple #[.int .i64 u3, .int .i64 u4]) ∧ w' = W) := fun W => by
  have := rordered_any h.col h.col2 q2 q4 W
  rw [v3, v4] at this
  exact this
 clear v1 v2 v3 v4
 go_enter Tryz.func67, Tryz.ntmps67
 go_wp2_with (first | (have hneed := HG0; go_at_call 96; refine (HO.out _).mono ?_; rintro e w1 ⟨rfl, hb1⟩; have HX1 := hide ((HX0.out.below hb1).alloc (.cells #[.int .i64 o1, .int .i64 o2, .int .i64 o3, .int .i64 o4] 62)); have HZ1 := hide ((HZ0.out.below hb1).alloc (.cells #[.int .i64 o1, .int .i64 o2, .int .i64 o3, .int .i64 o4] 62)); have HE1 := hide ((HE0.out.below hb1).alloc (.cells #[.int .i64 o1, .int .i64 o2, .int .i64 o3, .int .i64 o4] 62)); have HB1 := hide ((HB0.out.trans (hb1.mono HB0.out.size)).alloc (HB0.out.trans (hb1.mono HB0.out.size)).size (.cells #[.int .i64 o1, .int .i64 o2, .int .i64 o3, .int .i64 o4] 62)); clear hb1 hneed p0 p6 p7 p10 p11 y0 y1 y2 y3 HX0 HZ0 HE0 HG0; have ⟨y0, y1, y2, y3⟩ := HE1.out; have HG1 : Hid (0 = 0) := hide rfl) | (have hneed := HG1; go_at_call 97; refine (HR.out _).mono ?_; rintro e w2 ⟨rfl, hb2⟩; have HX2 := hide ((HX1.out.below hb2).alloc (.cells #[.int .i64 q1, .int .i64 q2, .int .i64 q3, .int .i64 q4] 62)); have HZ2 := hide ((HZ1.out.below hb2).alloc (.cells #[.int .i64 q1, .int .i64 q2, .int .i64 q3, .int .i64 q4] 62)); have HB2 := hide ((HB1.out.trans (hb2.mono HB1.out.size)).alloc (HB1.out.trans (hb2.mono HB1.out.size)).size (.cells #[.int .i64 q1, .int .i64 q2, .int .i64 q3, .int .i64 q4] 62)); clear hb2 hneed y0 y1 y2 y3 HX1 HZ1 HE1 HG1; have p6 := HX2.out.cell 6 (.int .i64 h.row) rfl; have p7 := HX2.out.cell 7 (.int .i64 h.col) rfl; have p10 := HX2.out.cell 10 (.int .i64 h.row2) rfl; have p11 := HX2.out.cell 11 (.int .i64 h.col2) rfl; have HQ2 := hide (Pla.At4.new w2 q1 q2 q3 q4 62); have HG2 : Hid (0 = 0) := hide rfl))
 obtain ⟨wq, hwq⟩ : ∃ wq : World, wq = w2.alloc (.cells #[.int .i64 q1, .int .i64 q2, .int .i64 q3, .int .i64 q4] 62) := ⟨_, rfl⟩
 obtain ⟨gq, hgq⟩ : ∃ gq : Nat, gq = w2.heap.size := ⟨_, rfl⟩
 rw [← hwq] at HX2 HZ2 HB2 HQ2
 rw [← hgq] at HQ2
 refine wp_at (W0 := wq) hwq ?_
 rw [← hgq]
 clear hwq hgq p6 p7 p10 p11
 have HS : Hid (∀ W : World, Below wq.heap.size wq W → W.cell? ⟨w.heap.size, 6, none⟩ = some (.int .i64 h.row) ∧ W.cell? ⟨w.heap.size, 6 + 1, none⟩ = some (.int .i64 h.col) ∧ W.cell? ⟨w.heap.size, 10, none⟩ = some (.int .i64 h.row2) ∧ W.cell? ⟨w.heap.size, 10 + 1, none⟩ = some (.int .i64 h.col2)) := fun W hW => ⟨(HX2.out.below hW).cell 6 _ rfl, (HX2.out.below hW).cell 7 _ rfl, (HX2.out.below hW).cell 10 _ rfl, (HX2.out.below hW).cell 11 _ rfl⟩
 apply wp_cutT2 (F := fun A B w' => Pla.At2 w' A h.row h.col ∧ Pla.At2 w' B h.row2 h.col2 ∧ Below wq.heap.size wq w')
 case hr =>
  refine wp_region_held_drew (S := fun W => W.cell? ⟨w.heap.size, 6, none⟩ = some (.int .i64 h.row) ∧ W.cell? ⟨w.heap.size, 6 + 1, none⟩ = some (.int .i64 h.col) ∧ W.cell? ⟨w.heap.size, 10, none⟩ = some (.int .i64 h.row2) ∧ W.cell? ⟨w.heap.size, 10 + 1, none⟩ = some (.int .i64 h.col2)) (by kernel_rfl) (HS.out _ (below_drew0 wq)) (fun hHeld => ?_)
  have HBWd : Hid (Below wq.heap.size wq wq.drew) := below_drew0 wq
  generalize wq.drew = Wd at *
  refine takeF 0 (some 54) ?_; refine takeF 1 (some 55) ?_; refine takeF 2 (some 56) ?_; refine takeF 3 (some 57) ?_; refine takeF 4 (some 58) ?_; refine takeF 5 (some 59) ?_
  refine wpAnyH_ready (rs := [6, 7]) (by kernel_rfl) (by simp) ?_
  refine AllReadyH.cons (o := _) rfl (fun K hK => ?_) (AllReadyH.cons (o := _) rfl (fun K hK => ?_) AllReadyH.nil)
  ·
   go_simp
   refine hK.out _ _ (HS.out _ (HBWd.out.alloc HBWd.out.size _)) (fun hHeld => ?_)
   clear hK K
   try simp only [Act.put, pA, pB, pC]
   obtain ⟨Y1, hY1⟩ : ∃ Y1 : World, Y1 = Wd.alloc (.cells #[.int .i64 0, .int .i64 0] 28) := ⟨_, rfl⟩
   obtain ⟨A, hA⟩ : ∃ A : Nat, A = Wd.heap.size := ⟨_, rfl⟩
   rw [← hY1, ← hA]
   have HBY1 : Hid (Below wq.heap.size wq Y1) := by rw [hY1]; exact HBWd.out.alloc HBWd.out.size _
   have HNAY1 : Hid (Pla.Has2 Y1 A 0 0) := by rw [hY1, hA]; exact Pla.Has2.new Wd 0 0 _
   have geA : wq.heap.size ≤ A := by rw [hA]; exact HBWd.out.size
   clear hY1 hA
   refine wpAnyH_ready (rs := [7]) (by kernel_rfl) (by simp) ?_
   refine AllReadyH.cons (o := _) rfl (fun K hK => ?_) AllReadyH.nil
   go_simp
   refine hK.out _ _ (HS.out _ (HBY1.out.alloc HBY1.out.size _)) (fun hHeld => ?_)
   clear hK K
   try simp only [Act.put, pA, pB, pC]
   obtain ⟨Y2, hY2⟩ : ∃ Y2 : World, Y2 = Y1.alloc (.cells #[.int .i64 0, .int .i64 0] 28) := ⟨_, rfl⟩
   obtain ⟨B, hB⟩ : ∃ B : Nat, B = Y1.heap.size := ⟨_, rfl⟩
   rw [← hY2, ← hB]
   have HBY2 : Hid (Below wq.heap.size wq Y2) := by rw [hY2]; exact HBY1.out.alloc HBY1.out.size _
   have HNBY2 : Hid (Pla.Has2 Y2 B 0 0) := by rw [hY2, hB]; exact Pla.Has2.new Y1 0 0 _
   have geB : wq.heap.size ≤ B := by rw [hB]; exact HBY1.out.size
   have HNAY2 : Hid (Pla.Has2 Y2 A 0 0) := by rw [hY2]; exact HNAY1.out.alloc _
   have hAB : A ≠ B := by have := HNAY1.out.1.1; omega
   clear hY2 hB
   have ⟨⟨z0, z1, z2⟩, z3, z4⟩ := HNAY2.out
   refine wpAnyH_ready (rs := [8]) (by kernel_rfl) (by simp) ?_
   refine AllReadyH.cons (o := _) rfl (fun K hK => ?_) AllReadyH.nil
   go_simp
   refine hK.out _ _ (HS.out _ ((HBY2.out.setCell geA _).setCell geA _)) (fun hHeld => ?_)
   clear hK K
   try simp only [Act.put, pA, pB, pC]
   obtain ⟨Y3, hY3⟩ : ∃ Y3 : World, Y3 = (Y2.setCell ⟨A, 0, none⟩ (.int .i64 h.row)).setCell ⟨A, 1, none⟩ (.int .i64 h.col) := ⟨_, rfl⟩
   rw [← hY3]
   have HBY3 : Hid (Below wq.heap.size wq Y3) := by rw [hY3]; exact (HBY2.out.setCell geA _).setCell geA _
   have HNAY3 : Hid (Pla.Has2 Y3 A h.row h.col) := by rw [hY3]; exact HNAY2.out.set _ _
   have HNBY3 : Hid (Pla.Has2 Y3 B 0 0) := by rw [hY3]; exact has2_other HNBY2.out hAB.symm _ _
   clear hY3 z0 z1 z2 z3 z4
   have ⟨⟨z0, z1, z2⟩, z3, z4⟩ := HNBY3.out
   refine wpAnyH_ready (rs := [9]) (by kernel_rfl) (by simp) ?_
   refine AllReadyH.cons (o := _) rfl (fun K hK => ?_) AllReadyH.nil
   go_simp
   refine hK.out _ _ (HS.out _ ((HBY3.out.setCell geB _).setCell geB _)) (fun hHeld => ?_)
   clear hK K
   try simp only [Act.put, pA, pB, pC]
   obtain ⟨Y4, hY4⟩ : ∃ Y4 : World, Y4 = (Y3.setCell ⟨B, 0, none⟩ (.int .i64 h.row2)).setCell ⟨B, 1, none⟩ (.int .i64 h.col2) := ⟨_, rfl⟩
   rw [← hY4]
   have HBY4 : Hid (Below wq.heap.size wq Y4) := by rw [hY4]; exact (HBY3.out.setCell geB _).setCell geB _
   have HNBY4 : Hid (Pla.Has2 Y4 B h.row2 h.col2) := by rw [hY4]; exact HNBY3.out.set _ _
   have HNAY4 : Hid (Pla.Has2 Y4 A h.row h.col) := by rw [hY4]; exact has2_other HNAY3.out hAB _ _
   clear hY4 z0 z1 z2 z3 z4
   refine wpAnyH_done (by kernel_rfl) ?_ _
   exact ⟨A, B, rfl, HNAY4.out.1, HNBY4.out.1, HBY4.out⟩
  ·
   go_simp
   refine hK.out _ _ (HS.out _ (HBWd.out.alloc HBWd.out.size _)) (fun hHeld => ?_)
   clear hK K
   try simp only [Act.put, pA, pB, pC]
   obtain ⟨Y1, hY1⟩ : ∃ Y1 : World, Y1 = Wd.alloc (.cells #[.int .i64 0, .int .i64 0] 28) := ⟨_, rfl⟩
   obtain ⟨B, hB⟩ : ∃ B : Nat, B = Wd.heap.size := ⟨_, rfl⟩
   rw [← hY1, ← hB]
   have HBY1 : Hid (Below wq.heap.size wq Y1) := by rw [hY1]; exact HBWd.out.alloc HBWd.out.size _
   have HNBY1 : Hid (Pla.Has2 Y1 B 0 0) := by rw [hY1, hB]; exact Pla.Has2.new Wd 0 0 _
   have geB : wq.heap.size ≤ B := by rw [hB]; exact HBWd.out.size
   clear hY1 hB
   refine wpAnyH_ready (rs := [6]) (by kernel_rfl) (by simp) ?_
   refine AllReadyH.cons (o := _) rfl (fun K hK => ?_) AllReadyH.nil
   go_simp
   refine hK.out _ _ (HS.out _ (HBY1.out.alloc HBY1.out.size _)) (fun hHeld => ?_)
   clear hK K
   try simp only [Act.put, pA, pB, pC]
   obtain ⟨Y2, hY2⟩ : ∃ Y2 : World, Y2 = Y1.alloc (.cells #[.int .i64 0, .int .i64 0] 28) := ⟨_, rfl⟩
   obtain ⟨A, hA⟩ : ∃ A : Nat, A = Y1.heap.size := ⟨_, rfl⟩
   rw [← hY2, ← hA]
   have HBY2 : Hid (Below wq.heap.size wq Y2) := by rw [hY2]; exact HBY1.out.alloc HBY1.out.size _
   have HNAY2 : Hid (Pla.Has2 Y2 A 0 0) := by rw [hY2, hA]; exact Pla.Has2.new Y1 0 0 _
   have geA : wq.heap.size ≤ A := by rw [hA]; exact HBY1.out.size
   have HNBY2 : Hid (Pla.Has2 Y2 B 0 0) := by rw [hY2]; exact HNBY1.out.alloc _
   have hAB : A ≠ B := by have := HNBY1.out.1.1; omega
   clear hY2 hA
   have ⟨⟨z0, z1, z2⟩, z3, z4⟩ := HNAY2.out
   refine wpAnyH_ready (rs := [8]) (by kernel_rfl) (by simp) ?_
   refine AllReadyH.cons (o := _) rfl (fun K hK => ?_) AllReadyH.nil
   go_simp
   refine hK.out _ _ (HS.out _ ((HBY2.out.setCell geA _).setCell geA _)) (fun hHeld => ?_)
   clear hK K
   try simp only [Act.put, pA, pB, pC]
   obtain ⟨Y3, hY3⟩ : ∃ Y3 : World, Y3 = (Y2.setCell ⟨A, 0, none⟩ (.int .i64 h.row)).setCell ⟨A, 1, none⟩ (.int .i64 h.col) := ⟨_, rfl⟩
   rw [← hY3]
   have HBY3 : Hid (Below wq.heap.size wq Y3) := by rw [hY3]; exact (HBY2.out.setCell geA _).setCell geA _
   have HNAY3 : Hid (Pla.Has2 Y3 A h.row h.col) := by rw [hY3]; exact HNAY2.out.set _ _
   have HNBY3 : Hid (Pla.Has2 Y3 B 0 0) := by rw [hY3]; exact has2_other HNBY2.out hAB.symm _ _
   clear hY3 z0 z1 z2 z3 z4
   have ⟨⟨z0, z1, z2⟩, z3, z4⟩ := HNBY3.out
   refine wpAnyH_ready (rs := [9]) (by kernel_rfl) (by simp) ?_
   refine AllReadyH.cons (o := _) rfl (fun K hK => ?_) AllReadyH.nil
   go_simp
   refine hK.out _ _ (HS.out _ ((HBY3.out.setCell geB _).setCell geB _)) (fun hHeld => ?_)
   clear hK K
   try simp only [Act.put, pA, pB, pC]
   obtain ⟨Y4, hY4⟩ : ∃ Y4 : World, Y4 = (Y3.setCell ⟨B, 0, none⟩ (.int .i64 h.row2)).setCell ⟨B, 1, none⟩ (.int .i64 h.col2) := ⟨_, rfl⟩
   rw [← hY4]
   have HBY4 : Hid (Below wq.heap.size wq Y4) := by rw [hY4]; exact (HBY3.out.setCell geB _).setCell geB _
   have HNBY4 : Hid (Pla.Has2 Y4 B h.row2 h.col2) := by rw [hY4]; exact HNBY3.out.set _ _
   have HNAY4 : Hid (Pla.Has2 Y4 A h.row h.col) := by rw [hY4]; exact has2_other HNAY3.out hAB _ _
   clear hY4 z0 z1 z2 z3 z4
   refine wpAnyH_done (by kernel_rfl) ?_ _
   exact ⟨A, B, rfl, HNAY4.out.1, HNBY4.out.1, HBY4.out⟩
 intro A B w6 ⟨hA6, hB6, hb6⟩
 have ⟨a0, a1, a2⟩ := hA6
 have ⟨b0, b1, b2⟩ := hB6
 have hX6 := HX2.out.below hb6
 have k6 := hX6.cell 6 (.int .i64 h.row) rfl
 have k7 := hX6.cell 7 (.int .i64 h.col) rfl
 have k10 := hX6.cell 10 (.int .i64 h.row2) rfl
 have k11 := hX6.cell 11 (.int .i64 h.col2) rfl
 have f6 := hX6.soft 6
 have f7 := hX6.soft 7
 have f10 := hX6.soft 10
 have f11 := hX6.soft 11
 have ⟨c0, c1, c2, c3, c4⟩ := HQ2.out.below hb6
 have HX3 : Hid (Box ((((w6.setCell ⟨w.heap.size, 6, none⟩ (.int .i64 u1)).setCell ⟨w.heap.size, 10, none⟩ (.int .i64 u2)).setCell ⟨w.heap.size, 7, none⟩ (.int .i64 u3)).setCell ⟨w.heap.size, 11, none⟩ (.int .i64 u4)) w.heap.size (hdC ⟨h.kind, h.vk, h.vn, h.vs, h.vb, h.vc, u1, u3, h.fr, h.fc, u2, u4, h.fr2, h.fc2, h.txt⟩ (.slice a n cap))) := hide ((((hX6.one 6 _).one 10 _).one 7 _).one 11 _)
 have HZ3 := hide (((((HZ2.out.below hb6).cellset (b' := w.heap.size) (by omega) 6 (.int .i64 u1)).cellset (b' := w.heap.size) (by omega) 10 (.int .i64 u2)).cellset (b' := w.heap.size) (by omega) 7 (.int .i64 u3)).cellset (b' := w.heap.size) (by omega) 11 (.int .i64 u4))
 have HB3 := hide (((((HB2.out.trans (hb6.mono HB2.out.size)).setCell (p := ⟨w.heap.size, 6, none⟩) (Nat.le_refl _) (.int .i64 u1)).setCell (p := ⟨w.heap.size, 10, none⟩) (Nat.le_refl _) (.int .i64 u2)).setCell (p := ⟨w.heap.size, 7, none⟩) (Nat.le_refl _) (.int .i64 u3)).setCell (p := ⟨w.heap.size, 11, none⟩) (Nat.le_refl _) (.int .i64 u4))
 clear hX6 HX2 HZ2 HB2 HQ2 HS hA6 hB6 hb6
 go_wp2_with (first | (go_at_call_of 98 [Value.int .i64 h.row, Value.int .i64 h.row2, Value.int .i64 q1, Value.int .i64 q3]; refine (H1.out _).mono ?_; rintro e wz ⟨rfl, hz⟩; subst wz) | (go_at_call_of 98 [Value.int .i64 h.col, Value.int .i64 h.col2, Value.int .i64 q2, Value.int .i64 q4]; refine (H2.out _).mono ?_; rintro e wz ⟨rfl, hz⟩; subst wz) | (with_reducible refine wpl_id ?_; refine wpl_load rfl _ rfl _ rfl (by ((repeat' (first | with_reducible (first | exact Hid.out (by assumption) | apply Box.set | exact Box.new _ _ | apply Box.other | apply Box.alloc | apply Box.drew | apply Box.drewN) | omega)); done)) ?_) | (with_reducible refine wpl_id ?_; refine wpl_store rfl _ _ rfl _ rfl rfl (by ((repeat' (first | with_reducible (first | exact Hid.out (by assumption) | apply Box.set | exact Box.new _ _ | apply Box.other | apply Box.alloc | apply Box.drew | apply Box.drewN) | omega)); done)) rfl ?_))
 have hsz := HB3.out.size
 exact bodyPost_ret (Box.ret rfl (HZ3.out.set _) rfl) rfl ⟨rfl, below_set HB3.out (by omega) _⟩
end Go.Proofs.YtfpmmckpobpokaaGreat
