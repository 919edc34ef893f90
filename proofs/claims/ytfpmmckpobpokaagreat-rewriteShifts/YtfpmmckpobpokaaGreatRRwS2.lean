/-
  The contract of the answer's slide at a cell and at a range (made by slidegen.py).
-/
import Derived.Test.YtfpmmckpobpokaaGreatRRwS1
set_option maxRecDepth 100000
set_option maxHeartbeats 4000000
namespace Go.Proofs.YtfpmmckpobpokaaGreat
open Go.RowKit
theorem Box.one {w : World} {b : Nat} {cs : List Value} (k : Box w b cs) (o : Nat) (u : Value) : Box (w.setCell ⟨b, o, none⟩ u) b (cs.set o u) := by
 rw [setCell_row k o u]
 exact k.set _
theorem Box.cell4 {w : World} {b : Nat} {h : Hd} {v : Value} (k : Box w b (hdC h v)) (R C : Int) (x y : Bool) : Box ((((w.setCell ⟨b, 6, none⟩ (.int .i64 R)).setCell ⟨b, 7, none⟩ (.int .i64 C)).setCell ⟨b, 8, none⟩ (.bool x)).setCell ⟨b, 9, none⟩ (.bool y)) b (hdC ⟨h.kind, h.vk, h.vn, h.vs, h.vb, h.vc, R, C, x, y, h.row2, h.col2, h.fr2, h.fc2, h.txt⟩ v) := (((k.one 6 _).one 7 _).one 8 _).one 9 _
theorem Box.to4 {w : World} {b : Nat} {h : Hd} {v : Value} (k : Box w b (hdC h v)) (R C : Int) (x y : Bool) : Box ((((w.setCell ⟨b, 10, none⟩ (.int .i64 R)).setCell ⟨b, 11, none⟩ (.int .i64 C)).setCell ⟨b, 12, none⟩ (.bool x)).setCell ⟨b, 13, none⟩ (.bool y)) b (hdC ⟨h.kind, h.vk, h.vn, h.vs, h.vb, h.vc, h.row, h.col, h.fr, h.fc, R, C, x, y, h.txt⟩ v) := (((k.one 10 _).one 11 _).one 12 _).one 13 _
theorem Box.cells4 {w : World} {b b' : Nat} {cs : List Value} (k : Box w b cs) (hb : b ≠ b') (o1 o2 o3 o4 : Nat) (u1 u2 u3 u4 : Value) : Box ((((w.setCell ⟨b', o1, none⟩ u1).setCell ⟨b', o2, none⟩ u2).setCell ⟨b', o3, none⟩ u3).setCell ⟨b', o4, none⟩ u4) b cs := (((k.cellset hb o1 u1).cellset hb o2 u2).cellset hb o3 u3).cellset hb o4 u4
theorem Box.soft {w : World} {b : Nat} {cs : List Value} (k : Box w b cs) (o : Nat) : w.frozen? ⟨b, o, none⟩ = false := by
 unfold Box at k
 simp [World.frozen?, k]
structure SlideAt (w w1 w2 : World) (h : Hd) (v : Value) (R C R2 C2 : Int) (W : World) : Prop where
 node : Box W w.heap.size (hdC h v)
 res : Box W (w.heap.size + 1) (hdC zh (.slice none 0 0))
 a : CelAt W w1.heap.size R C h.fr h.fc
 b : CelAt W w2.heap.size R2 C2 h.fr2 h.fc2
 below : Below w.heap.size w W
 lt : w.heap.size + 1 < w1.heap.size
theorem slide_first {w w1 w2 : World} {h : Hd} {a : Option Addr} {n cap : Nat} {R C R2 C2 : Int} (hb1 : Below (w.heap.size + 2) ((w.alloc (.cells (hdC h (.slice a n cap)).toArray 33)).alloc (.cells #[.int .i64 0, .int .i64 0, .int .i64 0, .string ⟨#[]⟩, .bool false, .int .i64 0, .int .i64 0, .int .i64 0, .bool false, .bool false, .int .i64 0, .int .i64 0, .bool false, .bool false, .string ⟨#[]⟩, .slice none 0 0] 33)) w1) (hb2 : Below (w1.alloc (.cells #[.int .i64 R, .int .i64 C, .bool h.fr, .bool h.fc] 30)).heap.size (w1.alloc (.cells #[.int .i64 R, .int .i64 C, .bool h.fr, .bool h.fc] 30)) w2) : SlideAt w w1 w2 h (.slice a n cap) R C R2 C2 (w2.alloc (.cells #[.int .i64 R2, .int .i64 C2, .bool h.fr2, .bool h.fc2] 30)) := by
 have hs : ((w.alloc (.cells (hdC h (.slice a n cap)).toArray 33)).alloc (.cells #[.int .i64 0, .int .i64 0, .int .i64 0, .string ⟨#[]⟩, .bool false, .int .i64 0, .int .i64 0, .int .i64 0, .bool false, .bool false, .int .i64 0, .int .i64 0, .bool false, .bool false, .string ⟨#[]⟩, .slice none 0 0] 33)).heap.size = w.heap.size + 2 := by simp
 have h1 : Below ((w.alloc (.cells (hdC h (.slice a n cap)).toArray 33)).alloc (.cells #[.int .i64 0, .int .i64 0, .int .i64 0, .string ⟨#[]⟩, .bool false, .int .i64 0, .int .i64 0, .int .i64 0, .bool false, .bool false, .int .i64 0, .int .i64 0, .bool false, .bool false, .string ⟨#[]⟩, .slice none 0 0] 33)).heap.size ((w.alloc (.cells (hdC h (.slice a n cap)).toArray 33)).alloc (.cells #[.int .i64 0, .int .i64 0, .int .i64 0, .string ⟨#[]⟩, .bool false, .int .i64 0, .int .i64 0, .int .i64 0, .bool false, .bool false, .int .i64 0, .int .i64 0, .bool false, .bool false, .string ⟨#[]⟩, .slice none 0 0] 33)) w1 := hs ▸ hb1
 have z1 := hb1.size
 rw [hs] at z1
 have hX := (((((Box.new w (hdC h (.slice a n cap))).alloc (.cells #[.int .i64 0, .int .i64 0, .int .i64 0, .string ⟨#[]⟩, .bool false, .int .i64 0, .int .i64 0, .int .i64 0, .bool false, .bool false, .int .i64 0, .int .i64 0, .bool false, .bool false, .string ⟨#[]⟩, .slice none 0 0] 33)).below h1).alloc (.cells #[.int .i64 R, .int .i64 C, .bool h.fr, .bool h.fc] 30)).below hb2).alloc (.cells #[.int .i64 R2, .int .i64 C2, .bool h.fr2, .bool h.fc2] 30)
 have hZ : Box ((w.alloc (.cells (hdC h (.slice a n cap)).toArray 33)).alloc (.cells #[.int .i64 0, .int .i64 0, .int .i64 0, .string ⟨#[]⟩, .bool false, .int .i64 0, .int .i64 0, .int .i64 0, .bool false, .bool false, .int .i64 0, .int .i64 0, .bool false, .bool false, .string ⟨#[]⟩, .slice none 0 0] 33)) (w.heap.size + 1) (hdC zh (.slice none 0 0)) := by
  have := Box.new (w.alloc (.cells (hdC h (.slice a n cap)).toArray 33)) (hdC zh (.slice none 0 0))
  rw [World.size_alloc] at this
  exact this
 have hB0 : Below w.heap.size w ((w.alloc (.cells (hdC h (.slice a n cap)).toArray 33)).alloc (.cells #[.int .i64 0, .int .i64 0, .int .i64 0, .string ⟨#[]⟩, .bool false, .int .i64 0, .int .i64 0, .int .i64 0, .bool false, .bool false, .int .i64 0, .int .i64 0, .bool false, .bool false, .string ⟨#[]⟩, .slice none 0 0] 33)) := ((Below.refl _ w).alloc (Nat.le_refl _) _).alloc (by simp) _
 have hB1 := hB0.trans (h1.mono hB0.size)
 have hB1' := hB1.alloc hB1.size (.cells #[.int .i64 R, .int .i64 C, .bool h.fr, .bool h.fc] 30)
 have hB2 := hB1'.trans (hb2.mono hB1'.size)
 exact ⟨hX, (((hZ.below h1).alloc (.cells #[.int .i64 R, .int .i64 C, .bool h.fr, .bool h.fc] 30)).below hb2).alloc (.cells #[.int .i64 R2, .int .i64 C2, .bool h.fr2, .bool h.fc2] 30), ((CelAt.new w1 R C h.fr h.fc 30).below hb2).alloc (.cells #[.int .i64 R2, .int .i64 C2, .bool h.fr2, .bool h.fc2] 30), CelAt.new w2 R2 C2 h.fr2 h.fc2 30, hB2.alloc hB2.size (.cells #[.int .i64 R2, .int .i64 C2, .bool h.fr2, .bool h.fc2] 30), by omega⟩
theorem slide_cell_no (h : Hd) (a : Option Addr) (n cap : Nat) (dr dc : Int) (w : World) (hk : h.kind = 2) (R C R2 C2 : Int) (hR : slideI h.fr h.row dr = R) (hC : slideI h.fc h.col dc = C) (hR2 : slideI h.fr2 h.row2 dr = R2) (hC2 : slideI h.fc2 h.col2 dc = C2) (ho : Pla.placeB R C = false) :
  Calls Tryz.prog 39 #[.agg (hdC h (.slice a n cap)).toArray, .int .i64 dr, .int .i64 dc] w fun e w' => e = .returned (.agg (hdC lostH (.slice none 0 0)).toArray) ∧ Below w.heap.size w w' := by
 have H1 : Hid (∀ W : World, Calls Tryz.prog 72 #[.agg #[.int .i64 h.row, .int .i64 h.col, .bool h.fr, .bool h.fc], .int .i64 dr, .int .i64 dc] W fun e w' => e = .returned (.tuple #[.agg #[.int .i64 R, .int .i64 C, .bool h.fr, .bool h.fc], .bool (Pla.placeB R C)]) ∧ Below W.heap.size W w') := fun W => by
  have := slid_any h.row h.col dr dc h.fr h.fc W
  rw [hR, hC] at this
  exact this
 have H2 : Hid (∀ W : World, Calls Tryz.prog 72 #[.agg #[.int .i64 h.row2, .int .i64 h.col2, .bool h.fr2, .bool h.fc2], .int .i64 dr, .int .i64 dc] W fun e w' => e = .returned (.tuple #[.agg #[.int .i64 R2, .int .i64 C2, .bool h.fr2, .bool h.fc2], .bool (Pla.placeB R2 C2)]) ∧ Below W.heap.size W w') := fun W => by
  have := slid_any h.row2 h.col2 dr dc h.fr2 h.fc2 W
  rw [hR2, hC2] at this
  exact this
 have HL : Hid (∀ W : World, Calls Tryz.prog 73 #[] W fun e w' => e = .returned (.agg (hdC lostH (.slice none 0 0)).toArray) ∧ Below W.heap.size W w') := fun W => rlost_ans W
 have hX := (Box.new w (hdC h (.slice a n cap))).alloc (.cells #[.int .i64 0, .int .i64 0, .int .i64 0, .string ⟨#[]⟩, .bool false, .int .i64 0, .int .i64 0, .int .i64 0, .bool false, .bool false, .int .i64 0, .int .i64 0, .bool false, .bool false, .string ⟨#[]⟩, .slice none 0 0] 33)
 have p6 := hX.cell 6 (.int .i64 h.row) rfl
 have p7 := hX.cell 7 (.int .i64 h.col) rfl
 have p8 := hX.cell 8 (.bool h.fr) rfl
 have p9 := hX.cell 9 (.bool h.fc) rfl
 have HX := hide hX
 have HG0 : Hid (0 = 0) := hide rfl
 have HK := hide hk
 clear hX hR hC hR2 hC2 hk
 rw [ho] at H1
 clear ho
 go_enter Tryz.func39, Tryz.ntmps39
 go_wp2_with (first | (have hneed := HG0; go_at_call 72; refine (H1.out _).mono ?_; rintro e w1 ⟨rfl, hb1⟩; have HB1 : Hid (Below (w.heap.size + 2) ((w.alloc (.cells (hdC h (.slice a n cap)).toArray 33)).alloc (.cells #[.int .i64 0, .int .i64 0, .int .i64 0, .string ⟨#[]⟩, .bool false, .int .i64 0, .int .i64 0, .int .i64 0, .bool false, .bool false, .int .i64 0, .int .i64 0, .bool false, .bool false, .string ⟨#[]⟩, .slice none 0 0] 33)) w1) := hide (by simpa using hb1); have hX1 := (HX.out.below hb1).alloc (.cells #[.int .i64 R, .int .i64 C, .bool h.fr, .bool h.fc] 30); have q6 := hX1.cell 10 (.int .i64 h.row2) rfl; have q7 := hX1.cell 11 (.int .i64 h.col2) rfl; have q8 := hX1.cell 12 (.bool h.fr2) rfl; have q9 := hX1.cell 13 (.bool h.fc2) rfl; clear hb1 hX1 HX hneed HG0 p6 p7 p8 p9; have HG1 : Hid (0 = 0) := hide rfl) | (have hneed := HG1; go_at_call 72; refine (H2.out _).mono ?_; rintro e w2 ⟨rfl, hb2⟩; have HS := hide (slide_first (R := R) (C := C) (R2 := R2) (C2 := C2) HB1.out hb2); have k0 := HS.out.node.cell 0 (.int .i64 h.kind) rfl; rw [HK.out] at k0; have ⟨j0, ⟨j1, j2, j3, j4⟩, j5⟩ := HS.out.a; have ⟨l0, ⟨l1, l2, l3, l4⟩, l5⟩ := HS.out.b; have HS12 : Hid (w1.heap.size + 1 ≤ w2.heap.size) := hide (by have := hb2.size; simpa using this); clear hb2 hneed HG1 q6 q7 q8 q9 HB1; have HG2 : Hid (0 = 0) := hide rfl) | (have hneed := HG2; go_at_call 73; refine (HL.out _).mono ?_; rintro e w3 ⟨rfl, hb3⟩; have HZ3 := hide (HS.out.res.below hb3); have HBf := hide (HS.out.below.trans (hb3.mono HS.out.below.size)); clear hb3 hneed HG2) | (with_reducible refine wpl_id ?_; refine wpl_store rfl _ _ rfl _ rfl rfl (by ((repeat' (first | with_reducible (first | exact Hid.out (by assumption) | apply Box.set | exact Box.new _ _ | apply Box.other | apply Box.alloc | apply Box.drew | apply Box.drewN) | omega)); done)) rfl ?_))
 exact bodyPost_ret (Box.ret rfl (HZ3.out.set _) rfl) rfl ⟨rfl, below_set HBf.out (by omega) _⟩
theorem slide_range_no (h : Hd) (a : Option Addr) (n cap : Nat) (dr dc : Int) (w : World) (hk : h.kind = 3) (R C R2 C2 : Int) (hR : slideI h.fr h.row dr = R) (hC : slideI h.fc h.col dc = C) (hR2 : slideI h.fr2 h.row2 dr = R2) (hC2 : slideI h.fc2 h.col2 dc = C2) (ho : Pla.placeB R C = false) :
  Calls Tryz.prog 39 #[.agg (hdC h (.slice a n cap)).toArray, .int .i64 dr, .int .i64 dc] w fun e w' => e = .returned (.agg (hdC lostH (.slice none 0 0)).toArray) ∧ Below w.heap.size w w' := by
 have H1 : Hid (∀ W : World, Calls Tryz.prog 72 #[.agg #[.int .i64 h.row, .int .i64 h.col, .bool h.fr, .bool h.fc], .int .i64 dr, .int .i64 dc] W fun e w' => e = .returned (.tuple #[.agg #[.int .i64 R, .int .i64 C, .bool h.fr, .bool h.fc], .bool (Pla.placeB R C)]) ∧ Below W.heap.size W w') := fun W => by
  have := slid_any h.row h.col dr dc h.fr h.fc W
  rw [hR, hC] at this
  exact this
 have H2 : Hid (∀ W : World, Calls Tryz.prog 72 #[.agg #[.int .i64 h.row2, .int .i64 h.col2, .bool h.fr2, .bool h.fc2], .int .i64 dr, .int .i64 dc] W fun e w' => e = .returned (.tuple #[.agg #[.int .i64 R2, .int .i64 C2, .bool h.fr2, .bool h.fc2], .bool (Pla.placeB R2 C2)]) ∧ Below W.heap.size W w') := fun W => by
  have := slid_any h.row2 h.col2 dr dc h.fr2 h.fc2 W
  rw [hR2, hC2] at this
  exact this
 have HL : Hid (∀ W : World, Calls Tryz.prog 73 #[] W fun e w' => e = .returned (.agg (hdC lostH (.slice none 0 0)).toArray) ∧ Below W.heap.size W w') := fun W => rlost_ans W
 have hX := (Box.new w (hdC h (.slice a n cap))).alloc (.cells #[.int .i64 0, .int .i64 0, .int .i64 0, .string ⟨#[]⟩, .bool false, .int .i64 0, .int .i64 0, .int .i64 0, .bool false, .bool false, .int .i64 0, .int .i64 0, .bool false, .bool false, .string ⟨#[]⟩, .slice none 0 0] 33)
 have p6 := hX.cell 6 (.int .i64 h.row) rfl
 have p7 := hX.cell 7 (.int .i64 h.col) rfl
 have p8 := hX.cell 8 (.bool h.fr) rfl
 have p9 := hX.cell 9 (.bool h.fc) rfl
 have HX := hide hX
 have HG0 : Hid (0 = 0) := hide rfl
 have HK := hide hk
 clear hX hR hC hR2 hC2 hk
 rw [ho] at H1
 clear ho
 go_enter Tryz.func39, Tryz.ntmps39
 go_wp2_with (first | (have hneed := HG0; go_at_call 72; refine (H1.out _).mono ?_; rintro e w1 ⟨rfl, hb1⟩; have HB1 : Hid (Below (w.heap.size + 2) ((w.alloc (.cells (hdC h (.slice a n cap)).toArray 33)).alloc (.cells #[.int .i64 0, .int .i64 0, .int .i64 0, .string ⟨#[]⟩, .bool false, .int .i64 0, .int .i64 0, .int .i64 0, .bool false, .bool false, .int .i64 0, .int .i64 0, .bool false, .bool false, .string ⟨#[]⟩, .slice none 0 0] 33)) w1) := hide (by simpa using hb1); have hX1 := (HX.out.below hb1).alloc (.cells #[.int .i64 R, .int .i64 C, .bool h.fr, .bool h.fc] 30); have q6 := hX1.cell 10 (.int .i64 h.row2) rfl; have q7 := hX1.cell 11 (.int .i64 h.col2) rfl; have q8 := hX1.cell 12 (.bool h.fr2) rfl; have q9 := hX1.cell 13 (.bool h.fc2) rfl; clear hb1 hX1 HX hneed HG0 p6 p7 p8 p9; have HG1 : Hid (0 = 0) := hide rfl) | (have hneed := HG1; go_at_call 72; refine (H2.out _).mono ?_; rintro e w2 ⟨rfl, hb2⟩; have HS := hide (slide_first (R := R) (C := C) (R2 := R2) (C2 := C2) HB1.out hb2); have k0 := HS.out.node.cell 0 (.int .i64 h.kind) rfl; rw [HK.out] at k0; have ⟨j0, ⟨j1, j2, j3, j4⟩, j5⟩ := HS.out.a; have ⟨l0, ⟨l1, l2, l3, l4⟩, l5⟩ := HS.out.b; have HS12 : Hid (w1.heap.size + 1 ≤ w2.heap.size) := hide (by have := hb2.size; simpa using this); clear hb2 hneed HG1 q6 q7 q8 q9 HB1; have HG2 : Hid (0 = 0) := hide rfl) | (have hneed := HG2; go_at_call 73; refine (HL.out _).mono ?_; rintro e w3 ⟨rfl, hb3⟩; have HZ3 := hide (HS.out.res.below hb3); have HBf := hide (HS.out.below.trans (hb3.mono HS.out.below.size)); clear hb3 hneed HG2) | (with_reducible refine wpl_id ?_; refine wpl_store rfl _ _ rfl _ rfl rfl (by ((repeat' (first | with_reducible (first | exact Hid.out (by assumption) | apply Box.set | exact Box.new _ _ | apply Box.other | apply Box.alloc | apply Box.drew | apply Box.drewN) | omega)); done)) rfl ?_))
 exact bodyPost_ret (Box.ret rfl (HZ3.out.set _) rfl) rfl ⟨rfl, below_set HBf.out (by omega) _⟩
theorem slide_range_no2 (h : Hd) (a : Option Addr) (n cap : Nat) (dr dc : Int) (w : World) (hk : h.kind = 3) (R C R2 C2 : Int) (hR : slideI h.fr h.row dr = R) (hC : slideI h.fc h.col dc = C) (hR2 : slideI h.fr2 h.row2 dr = R2) (hC2 : slideI h.fc2 h.col2 dc = C2) (ho : Pla.placeB R C = true) (ho2 : Pla.placeB R2 C2 = false) :
  Calls Tryz.prog 39 #[.agg (hdC h (.slice a n cap)).toArray, .int .i64 dr, .int .i64 dc] w fun e w' => e = .returned (.agg (hdC lostH (.slice none 0 0)).toArray) ∧ Below w.heap.size w w' := by
 have H1 : Hid (∀ W : World, Calls Tryz.prog 72 #[.agg #[.int .i64 h.row, .int .i64 h.col, .bool h.fr, .bool h.fc], .int .i64 dr, .int .i64 dc] W fun e w' => e = .returned (.tuple #[.agg #[.int .i64 R, .int .i64 C, .bool h.fr, .bool h.fc], .bool (Pla.placeB R C)]) ∧ Below W.heap.size W w') := fun W => by
  have := slid_any h.row h.col dr dc h.fr h.fc W
  rw [hR, hC] at this
  exact this
 have H2 : Hid (∀ W : World, Calls Tryz.prog 72 #[.agg #[.int .i64 h.row2, .int .i64 h.col2, .bool h.fr2, .bool h.fc2], .int .i64 dr, .int .i64 dc] W fun e w' => e = .returned (.tuple #[.agg #[.int .i64 R2, .int .i64 C2, .bool h.fr2, .bool h.fc2], .bool (Pla.placeB R2 C2)]) ∧ Below W.heap.size W w') := fun W => by
  have := slid_any h.row2 h.col2 dr dc h.fr2 h.fc2 W
  rw [hR2, hC2] at this
  exact this
 have HL : Hid (∀ W : World, Calls Tryz.prog 73 #[] W fun e w' => e = .returned (.agg (hdC lostH (.slice none 0 0)).toArray) ∧ Below W.heap.size W w') := fun W => rlost_ans W
 have hX := (Box.new w (hdC h (.slice a n cap))).alloc (.cells #[.int .i64 0, .int .i64 0, .int .i64 0, .string ⟨#[]⟩, .bool false, .int .i64 0, .int .i64 0, .int .i64 0, .bool false, .bool false, .int .i64 0, .int .i64 0, .bool false, .bool false, .string ⟨#[]⟩, .slice none 0 0] 33)
 have p6 := hX.cell 6 (.int .i64 h.row) rfl
 have p7 := hX.cell 7 (.int .i64 h.col) rfl
 have p8 := hX.cell 8 (.bool h.fr) rfl
 have p9 := hX.cell 9 (.bool h.fc) rfl
 have HX := hide hX
 have HG0 : Hid (0 = 0) := hide rfl
 have HK := hide hk
 clear hX hR hC hR2 hC2 hk
 rw [ho] at H1
 rw [ho2] at H2
 clear ho ho2
 go_enter Tryz.func39, Tryz.ntmps39
 go_wp2_with (first | (have hneed := HG0; go_at_call 72; refine (H1.out _).mono ?_; rintro e w1 ⟨rfl, hb1⟩; have HB1 : Hid (Below (w.heap.size + 2) ((w.alloc (.cells (hdC h (.slice a n cap)).toArray 33)).alloc (.cells #[.int .i64 0, .int .i64 0, .int .i64 0, .string ⟨#[]⟩, .bool false, .int .i64 0, .int .i64 0, .int .i64 0, .bool false, .bool false, .int .i64 0, .int .i64 0, .bool false, .bool false, .string ⟨#[]⟩, .slice none 0 0] 33)) w1) := hide (by simpa using hb1); have hX1 := (HX.out.below hb1).alloc (.cells #[.int .i64 R, .int .i64 C, .bool h.fr, .bool h.fc] 30); have q6 := hX1.cell 10 (.int .i64 h.row2) rfl; have q7 := hX1.cell 11 (.int .i64 h.col2) rfl; have q8 := hX1.cell 12 (.bool h.fr2) rfl; have q9 := hX1.cell 13 (.bool h.fc2) rfl; clear hb1 hX1 HX hneed HG0 p6 p7 p8 p9; have HG1 : Hid (0 = 0) := hide rfl) | (have hneed := HG1; go_at_call 72; refine (H2.out _).mono ?_; rintro e w2 ⟨rfl, hb2⟩; have HS := hide (slide_first (R := R) (C := C) (R2 := R2) (C2 := C2) HB1.out hb2); have k0 := HS.out.node.cell 0 (.int .i64 h.kind) rfl; rw [HK.out] at k0; have ⟨j0, ⟨j1, j2, j3, j4⟩, j5⟩ := HS.out.a; have ⟨l0, ⟨l1, l2, l3, l4⟩, l5⟩ := HS.out.b; have HS12 : Hid (w1.heap.size + 1 ≤ w2.heap.size) := hide (by have := hb2.size; simpa using this); clear hb2 hneed HG1 q6 q7 q8 q9 HB1; have HG2 : Hid (0 = 0) := hide rfl) | (have hneed := HG2; go_at_call 73; refine (HL.out _).mono ?_; rintro e w3 ⟨rfl, hb3⟩; have HZ3 := hide (HS.out.res.below hb3); have HBf := hide (HS.out.below.trans (hb3.mono HS.out.below.size)); clear hb3 hneed HG2) | (with_reducible refine wpl_id ?_; refine wpl_store rfl _ _ rfl _ rfl rfl (by ((repeat' (first | with_reducible (first | exact Hid.out (by assumption) | apply Box.set | exact Box.new _ _ | apply Box.other | apply Box.alloc | apply Box.drew | apply Box.drewN) | omega)); done)) rfl ?_))
 exact bodyPost_ret (Box.ret rfl (HZ3.out.set _) rfl) rfl ⟨rfl, below_set HBf.out (by omega) _⟩
theorem slide_cell_ok (h : Hd) (a : Option Addr) (n cap : Nat) (dr dc : Int) (w : World) (hk : h.kind = 2) (R C R2 C2 : Int) (hR : slideI h.fr h.row dr = R) (hC : slideI h.fc h.col dc = C) (hR2 : slideI h.fr2 h.row2 dr = R2) (hC2 : slideI h.fc2 h.col2 dc = C2) (ho : Pla.placeB R C = true) :
  Calls Tryz.prog 39 #[.agg (hdC h (.slice a n cap)).toArray, .int .i64 dr, .int .i64 dc] w fun e w' => e = .returned (.agg (hdC ⟨h.kind, h.vk, h.vn, h.vs, h.vb, h.vc, R, C, h.fr, h.fc, h.row2, h.col2, h.fr2, h.fc2, h.txt⟩ (.slice a n cap)).toArray) ∧ Below w.heap.size w w' := by
 have H1 : Hid (∀ W : World, Calls Tryz.prog 72 #[.agg #[.int .i64 h.row, .int .i64 h.col, .bool h.fr, .bool h.fc], .int .i64 dr, .int .i64 dc] W fun e w' => e = .returned (.tuple #[.agg #[.int .i64 R, .int .i64 C, .bool h.fr, .bool h.fc], .bool (Pla.placeB R C)]) ∧ Below W.heap.size W w') := fun W => by
  have := slid_any h.row h.col dr dc h.fr h.fc W
  rw [hR, hC] at this
  exact this
 have H2 : Hid (∀ W : World, Calls Tryz.prog 72 #[.agg #[.int .i64 h.row2, .int .i64 h.col2, .bool h.fr2, .bool h.fc2], .int .i64 dr, .int .i64 dc] W fun e w' => e = .returned (.tuple #[.agg #[.int .i64 R2, .int .i64 C2, .bool h.fr2, .bool h.fc2], .bool (Pla.placeB R2 C2)]) ∧ Below W.heap.size W w') := fun W => by
  have := slid_any h.row2 h.col2 dr dc h.fr2 h.fc2 W
  rw [hR2, hC2] at this
  exact this
 have HL : Hid (∀ W : World, Calls Tryz.prog 73 #[] W fun e w' => e = .returned (.agg (hdC lostH (.slice none 0 0)).toArray) ∧ Below W.heap.size W w') := fun W => rlost_ans W
 have hX := (Box.new w (hdC h (.slice a n cap))).alloc (.cells #[.int .i64 0, .int .i64 0, .int .i64 0, .string ⟨#[]⟩, .bool false, .int .i64 0, .int .i64 0, .int .i64 0, .bool false, .bool false, .int .i64 0, .int .i64 0, .bool false, .bool false, .string ⟨#[]⟩, .slice none 0 0] 33)
 have p6 := hX.cell 6 (.int .i64 h.row) rfl
 have p7 := hX.cell 7 (.int .i64 h.col) rfl
 have p8 := hX.cell 8 (.bool h.fr) rfl
 have p9 := hX.cell 9 (.bool h.fc) rfl
 have HX := hide hX
 have HG0 : Hid (0 = 0) := hide rfl
 have HK := hide hk
 clear hX hR hC hR2 hC2 hk
 rw [ho] at H1
 clear ho
 go_enter Tryz.func39, Tryz.ntmps39
 go_wp2_with (first | (have hneed := HG0; go_at_call 72; refine (H1.out _).mono ?_; rintro e w1 ⟨rfl, hb1⟩; have HB1 : Hid (Below (w.heap.size + 2) ((w.alloc (.cells (hdC h (.slice a n cap)).toArray 33)).alloc (.cells #[.int .i64 0, .int .i64 0, .int .i64 0, .string ⟨#[]⟩, .bool false, .int .i64 0, .int .i64 0, .int .i64 0, .bool false, .bool false, .int .i64 0, .int .i64 0, .bool false, .bool false, .string ⟨#[]⟩, .slice none 0 0] 33)) w1) := hide (by simpa using hb1); have hX1 := (HX.out.below hb1).alloc (.cells #[.int .i64 R, .int .i64 C, .bool h.fr, .bool h.fc] 30); have q6 := hX1.cell 10 (.int .i64 h.row2) rfl; have q7 := hX1.cell 11 (.int .i64 h.col2) rfl; have q8 := hX1.cell 12 (.bool h.fr2) rfl; have q9 := hX1.cell 13 (.bool h.fc2) rfl; clear hb1 hX1 HX hneed HG0 p6 p7 p8 p9; have HG1 : Hid (0 = 0) := hide rfl) | (have hneed := HG1; go_at_call 72; refine (H2.out _).mono ?_; rintro e w2 ⟨rfl, hb2⟩; have HS := hide (slide_first (R := R) (C := C) (R2 := R2) (C2 := C2) HB1.out hb2); have k0 := HS.out.node.cell 0 (.int .i64 h.kind) rfl; rw [HK.out] at k0; have ⟨j0, ⟨j1, j2, j3, j4⟩, j5⟩ := HS.out.a; have ⟨l0, ⟨l1, l2, l3, l4⟩, l5⟩ := HS.out.b; have HS12 : Hid (w1.heap.size + 1 ≤ w2.heap.size) := hide (by have := hb2.size; simpa using this); have k6 := HS.out.node.cell 6 (.int .i64 h.row) rfl; have k7 := HS.out.node.cell 7 (.int .i64 h.col) rfl; have k8 := HS.out.node.cell 8 (.bool h.fr) rfl; have k9 := HS.out.node.cell 9 (.bool h.fc) rfl; have f6 := HS.out.node.soft 6; have f7 := HS.out.node.soft 7; have f8 := HS.out.node.soft 8; have f9 := HS.out.node.soft 9; have hlt := HS.out.lt; have HX3 := hide (HS.out.node.cell4 R C h.fr h.fc); have HZ3 := hide (HS.out.res.cells4 (b' := w.heap.size) (by omega) 6 7 8 9 (.int .i64 R) (.int .i64 C) (.bool h.fr) (.bool h.fc)); have HBf := hide ((((HS.out.below.setCell (p := ⟨w.heap.size, 6, none⟩) (Nat.le_refl _) (.int .i64 R)).setCell (p := ⟨w.heap.size, 7, none⟩) (Nat.le_refl _) (.int .i64 C)).setCell (p := ⟨w.heap.size, 8, none⟩) (Nat.le_refl _) (.bool h.fr)).setCell (p := ⟨w.heap.size, 9, none⟩) (Nat.le_refl _) (.bool h.fc)); clear hb2 hneed HG1 q6 q7 q8 q9 HB1; have HG2 : Hid (0 = 0) := hide rfl) | (with_reducible refine wpl_id ?_; refine wpl_load rfl _ rfl _ rfl (by ((repeat' (first | with_reducible (first | exact Hid.out (by assumption) | apply Box.set | exact Box.new _ _ | apply Box.other | apply Box.alloc | apply Box.drew | apply Box.drewN) | omega)); done)) ?_) | (with_reducible refine wpl_id ?_; refine wpl_store rfl _ _ rfl _ rfl rfl (by ((repeat' (first | with_reducible (first | exact Hid.out (by assumption) | apply Box.set | exact Box.new _ _ | apply Box.other | apply Box.alloc | apply Box.drew | apply Box.drewN) | omega)); done)) rfl ?_))
 exact bodyPost_ret (Box.ret rfl (HZ3.out.set _) rfl) rfl ⟨rfl, below_set HBf.out (by omega) _⟩
theorem slide_range_ok (h : Hd) (a : Option Addr) (n cap : Nat) (dr dc : Int) (w : World) (hk : h.kind = 3) (R C R2 C2 : Int) (hR : slideI h.fr h.row dr = R) (hC : slideI h.fc h.col dc = C) (hR2 : slideI h.fr2 h.row2 dr = R2) (hC2 : slideI h.fc2 h.col2 dc = C2) (ho : Pla.placeB R C = true) (ho2 : Pla.placeB R2 C2 = true) :
  Calls Tryz.prog 39 #[.agg (hdC h (.slice a n cap)).toArray, .int .i64 dr, .int .i64 dc] w fun e w' => e = .returned (.agg (hdC ⟨h.kind, h.vk, h.vn, h.vs, h.vb, h.vc, R, C, h.fr, h.fc, R2, C2, h.fr2, h.fc2, h.txt⟩ (.slice a n cap)).toArray) ∧ Below w.heap.size w w' := by
 have H1 : Hid (∀ W : World, Calls Tryz.prog 72 #[.agg #[.int .i64 h.row, .int .i64 h.col, .bool h.fr, .bool h.fc], .int .i64 dr, .int .i64 dc] W fun e w' => e = .returned (.tuple #[.agg #[.int .i64 R, .int .i64 C, .bool h.fr, .bool h.fc], .bool (Pla.placeB R C)]) ∧ Below W.heap.size W w') := fun W => by
  have := slid_any h.row h.col dr dc h.fr h.fc W
  rw [hR, hC] at this
  exact this
 have H2 : Hid (∀ W : World, Calls Tryz.prog 72 #[.agg #[.int .i64 h.row2, .int .i64 h.col2, .bool h.fr2, .bool h.fc2], .int .i64 dr, .int .i64 dc] W fun e w' => e = .returned (.tuple #[.agg #[.int .i64 R2, .int .i64 C2, .bool h.fr2, .bool h.fc2], .bool (Pla.placeB R2 C2)]) ∧ Below W.heap.size W w') := fun W => by
  have := slid_any h.row2 h.col2 dr dc h.fr2 h.fc2 W
  rw [hR2, hC2] at this
  exact this
 have HL : Hid (∀ W : World, Calls Tryz.prog 73 #[] W fun e w' => e = .returned (.agg (hdC lostH (.slice none 0 0)).toArray) ∧ Below W.heap.size W w') := fun W => rlost_ans W
 have hX := (Box.new w (hdC h (.slice a n cap))).alloc (.cells #[.int .i64 0, .int .i64 0, .int .i64 0, .string ⟨#[]⟩, .bool false, .int .i64 0, .int .i64 0, .int .i64 0, .bool false, .bool false, .int .i64 0, .int .i64 0, .bool false, .bool false, .string ⟨#[]⟩, .slice none 0 0] 33)
 have p6 := hX.cell 6 (.int .i64 h.row) rfl
 have p7 := hX.cell 7 (.int .i64 h.col) rfl
 have p8 := hX.cell 8 (.bool h.fr) rfl
 have p9 := hX.cell 9 (.bool h.fc) rfl
 have HX := hide hX
 have HG0 : Hid (0 = 0) := hide rfl
 have HK := hide hk
 clear hX hR hC hR2 hC2 hk
 rw [ho] at H1
 rw [ho2] at H2
 clear ho ho2
 go_enter Tryz.func39, Tryz.ntmps39
 go_wp2_with (first | (have hneed := HG0; go_at_call 72; refine (H1.out _).mono ?_; rintro e w1 ⟨rfl, hb1⟩; have HB1 : Hid (Below (w.heap.size + 2) ((w.alloc (.cells (hdC h (.slice a n cap)).toArray 33)).alloc (.cells #[.int .i64 0, .int .i64 0, .int .i64 0, .string ⟨#[]⟩, .bool false, .int .i64 0, .int .i64 0, .int .i64 0, .bool false, .bool false, .int .i64 0, .int .i64 0, .bool false, .bool false, .string ⟨#[]⟩, .slice none 0 0] 33)) w1) := hide (by simpa using hb1); have hX1 := (HX.out.below hb1).alloc (.cells #[.int .i64 R, .int .i64 C, .bool h.fr, .bool h.fc] 30); have q6 := hX1.cell 10 (.int .i64 h.row2) rfl; have q7 := hX1.cell 11 (.int .i64 h.col2) rfl; have q8 := hX1.cell 12 (.bool h.fr2) rfl; have q9 := hX1.cell 13 (.bool h.fc2) rfl; clear hb1 hX1 HX hneed HG0 p6 p7 p8 p9; have HG1 : Hid (0 = 0) := hide rfl) | (have hneed := HG1; go_at_call 72; refine (H2.out _).mono ?_; rintro e w2 ⟨rfl, hb2⟩; have HS := hide (slide_first (R := R) (C := C) (R2 := R2) (C2 := C2) HB1.out hb2); have k0 := HS.out.node.cell 0 (.int .i64 h.kind) rfl; rw [HK.out] at k0; have ⟨j0, ⟨j1, j2, j3, j4⟩, j5⟩ := HS.out.a; have ⟨l0, ⟨l1, l2, l3, l4⟩, l5⟩ := HS.out.b; have HS12 : Hid (w1.heap.size + 1 ≤ w2.heap.size) := hide (by have := hb2.size; simpa using this); have k6 := HS.out.node.cell 6 (.int .i64 h.row) rfl; have k7 := HS.out.node.cell 7 (.int .i64 h.col) rfl; have k8 := HS.out.node.cell 8 (.bool h.fr) rfl; have k9 := HS.out.node.cell 9 (.bool h.fc) rfl; have f6 := HS.out.node.soft 6; have f7 := HS.out.node.soft 7; have f8 := HS.out.node.soft 8; have f9 := HS.out.node.soft 9; have hlt := HS.out.lt; have HX3 := hide (HS.out.node.cell4 R C h.fr h.fc); have HZ3 := hide (HS.out.res.cells4 (b' := w.heap.size) (by omega) 6 7 8 9 (.int .i64 R) (.int .i64 C) (.bool h.fr) (.bool h.fc)); have HBf := hide ((((HS.out.below.setCell (p := ⟨w.heap.size, 6, none⟩) (Nat.le_refl _) (.int .i64 R)).setCell (p := ⟨w.heap.size, 7, none⟩) (Nat.le_refl _) (.int .i64 C)).setCell (p := ⟨w.heap.size, 8, none⟩) (Nat.le_refl _) (.bool h.fr)).setCell (p := ⟨w.heap.size, 9, none⟩) (Nat.le_refl _) (.bool h.fc)); have k10 := HS.out.node.cell 10 (.int .i64 h.row2) rfl; have f10 := HS.out.node.soft 10; have k11 := HS.out.node.cell 11 (.int .i64 h.col2) rfl; have f11 := HS.out.node.soft 11; have k12 := HS.out.node.cell 12 (.bool h.fr2) rfl; have f12 := HS.out.node.soft 12; have k13 := HS.out.node.cell 13 (.bool h.fc2) rfl; have f13 := HS.out.node.soft 13; have HS0 := hide (S8.of HS.out.a HS.out.b); have ltA := HS.out.a.1; have ltB := HS.out.b.1; clear hb2 hneed HG1 q6 q7 q8 q9 HB1; have HG2 : Hid (0 = 0) := hide rfl))
 have h12 : w1.heap.size + 1 ≤ w2.heap.size := HS12.out
 refine wp_region_held_drew (S := fun W => (W.cell? ⟨w1.heap.size, 0, none⟩ = some (.int .i64 R) ∧ W.cell? ⟨w1.heap.size, 1, none⟩ = some (.int .i64 C) ∧ W.cell? ⟨w1.heap.size, 2, none⟩ = some (.bool h.fr) ∧ W.cell? ⟨w1.heap.size, 3, none⟩ = some (.bool h.fc)) ∧ W.cell? ⟨w2.heap.size, 0, none⟩ = some (.int .i64 R2) ∧ W.cell? ⟨w2.heap.size, 1, none⟩ = some (.int .i64 C2) ∧ W.cell? ⟨w2.heap.size, 2, none⟩ = some (.bool h.fr2) ∧ W.cell? ⟨w2.heap.size, 3, none⟩ = some (.bool h.fc2)) (by kernel_rfl) HS0.out (fun hHeld => ?_)
 refine takeF 0 (some 48) ?_; refine takeF 1 (some 49) ?_; refine takeF 2 (some 50) ?_
 refine wpAnyH_ready (rs := [3]) (by kernel_rfl) (by simp) ?_
 refine readyP (o := _) rfl rfl (fun K hK => ?_) AllReadyH.nil
 go_simp
 refine hK.out _ _ (show S8 w1.heap.size w2.heap.size R C h.fr h.fc R2 C2 h.fr2 h.fc2 _ by (repeat' (first | with_reducible refine S8.drew ?_ | with_reducible refine S8.set ?_ ?_ ?_ _ _ | with_reducible exact HS0.out | omega))) (fun hHeld => ?_)
 clear hK K
 refine takeF 4 (some 51) ?_
 refine wpAnyH_ready (rs := [5]) (by kernel_rfl) (by simp) ?_
 refine readyP (o := _) rfl rfl (fun K hK => ?_) AllReadyH.nil
 go_simp
 refine hK.out _ _ (show S8 w1.heap.size w2.heap.size R C h.fr h.fc R2 C2 h.fr2 h.fc2 _ by (repeat' (first | with_reducible refine S8.drew ?_ | with_reducible refine S8.set ?_ ?_ ?_ _ _ | with_reducible exact HS0.out | omega))) (fun hHeld => ?_)
 clear hK K
 refine wpAnyH_done (by kernel_rfl) ?_ _
 have HX4 : Hid (Box ((((((((((w2.alloc (.cells #[.int .i64 R2, .int .i64 C2, .bool h.fr2, .bool h.fc2] 30)).setCell ⟨w.heap.size, 6, none⟩ (.int .i64 R)).setCell ⟨w.heap.size, 7, none⟩ (.int .i64 C)).setCell ⟨w.heap.size, 8, none⟩ (.bool h.fr)).setCell ⟨w.heap.size, 9, none⟩ (.bool h.fc)).setCell ⟨w.heap.size, 10, none⟩ (.int .i64 R2)).setCell ⟨w.heap.size, 11, none⟩ (.int .i64 C2)).setCell ⟨w.heap.size, 12, none⟩ (.bool h.fr2)).setCell ⟨w.heap.size, 13, none⟩ (.bool h.fc2)).drew) w.heap.size (hdC ⟨h.kind, h.vk, h.vn, h.vs, h.vb, h.vc, R, C, h.fr, h.fc, R2, C2, h.fr2, h.fc2, h.txt⟩ (.slice a n cap))) := hide (HX3.out.to4 R2 C2 h.fr2 h.fc2).drew
 have HZ4 : Hid (Box ((((((((((w2.alloc (.cells #[.int .i64 R2, .int .i64 C2, .bool h.fr2, .bool h.fc2] 30)).setCell ⟨w.heap.size, 6, none⟩ (.int .i64 R)).setCell ⟨w.heap.size, 7, none⟩ (.int .i64 C)).setCell ⟨w.heap.size, 8, none⟩ (.bool h.fr)).setCell ⟨w.heap.size, 9, none⟩ (.bool h.fc)).setCell ⟨w.heap.size, 10, none⟩ (.int .i64 R2)).setCell ⟨w.heap.size, 11, none⟩ (.int .i64 C2)).setCell ⟨w.heap.size, 12, none⟩ (.bool h.fr2)).setCell ⟨w.heap.size, 13, none⟩ (.bool h.fc2)).drew) (w.heap.size + 1) (hdC zh (.slice none 0 0))) := hide (HZ3.out.cells4 (b' := w.heap.size) (by omega) 10 11 12 13 (.int .i64 R2) (.int .i64 C2) (.bool h.fr2) (.bool h.fc2)).drew
 have HB4 : Hid (Below w.heap.size w ((((((((((w2.alloc (.cells #[.int .i64 R2, .int .i64 C2, .bool h.fr2, .bool h.fc2] 30)).setCell ⟨w.heap.size, 6, none⟩ (.int .i64 R)).setCell ⟨w.heap.size, 7, none⟩ (.int .i64 C)).setCell ⟨w.heap.size, 8, none⟩ (.bool h.fr)).setCell ⟨w.heap.size, 9, none⟩ (.bool h.fc)).setCell ⟨w.heap.size, 10, none⟩ (.int .i64 R2)).setCell ⟨w.heap.size, 11, none⟩ (.int .i64 C2)).setCell ⟨w.heap.size, 12, none⟩ (.bool h.fr2)).setCell ⟨w.heap.size, 13, none⟩ (.bool h.fc2)).drew)) := hide ((((HBf.out.setCell (p := ⟨w.heap.size, 10, none⟩) (Nat.le_refl _) (.int .i64 R2)).setCell (p := ⟨w.heap.size, 11, none⟩) (Nat.le_refl _) (.int .i64 C2)).setCell (p := ⟨w.heap.size, 12, none⟩) (Nat.le_refl _) (.bool h.fr2)).setCell (p := ⟨w.heap.size, 13, none⟩) (Nat.le_refl _) (.bool h.fc2)).drew
 clear HX3 HZ3 HBf HS HS0
 go_wp2_with (first | (with_reducible refine wpl_id ?_; refine wpl_load rfl _ rfl _ rfl (by ((repeat' (first | with_reducible (first | exact Hid.out (by assumption) | apply Box.set | exact Box.new _ _ | apply Box.other | apply Box.alloc | apply Box.drew | apply Box.drewN) | omega)); done)) ?_) | (with_reducible refine wpl_id ?_; refine wpl_store rfl _ _ rfl _ rfl rfl (by ((repeat' (first | with_reducible (first | exact Hid.out (by assumption) | apply Box.set | exact Box.new _ _ | apply Box.other | apply Box.alloc | apply Box.drew | apply Box.drewN) | omega)); done)) rfl ?_))
 exact bodyPost_ret (Box.ret rfl (HZ4.out.set _) rfl) rfl ⟨rfl, below_set HB4.out (by omega) _⟩
end Go.Proofs.YtfpmmckpobpokaaGreat
