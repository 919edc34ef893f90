/-
  The contracts of the answer's text at some nodes, and of its Print.
-/
import Derived.Test.YtfpmmckpobpokaaGreatMRwT1
set_option maxRecDepth 100000
set_option maxHeartbeats 4000000
namespace Go.Proofs.YtfpmmckpobpokaaGreat
open Go.RowKit
def TextC (h : Hd) (k : Fo) (s : List UInt8) : Prop :=
 ∀ (D : Nat → Prop) (v : Value) (w : World), (∀ c, D c → c < w.heap.size) → Kv w D v k →
  Calls Tryz.prog 88 #[.agg (hdC h v).toArray] w fun e w' => e = .returned (.string ⟨s.toArray⟩) ∧ Below w.heap.size w w'
theorem text_show (h : Hd) (k : Fo) (hk : h.kind = 1) (hv : h.vk = 4) (hz : h.vs.length ≤ 100) : TextC h k (showV 4 h.vn ⟨h.vs.toArray⟩ h.vb h.vc).1 := by
 intro D v w _ hkv
 obtain ⟨a, n, cap, rfl, hn, hk3⟩ := hkv
 clear hn hk3
 have HS : Hid (∀ W : World, Calls Tryz.prog 108 #[.agg #[.int .i64 4, .int .i64 h.vn, .string ⟨h.vs.toArray⟩, .bool h.vb, .int .i64 h.vc]] W fun e w' => e = .returned (.tuple #[.string ⟨(showV 4 h.vn ⟨h.vs.toArray⟩ h.vb h.vc).1.toArray⟩, .int .i64 (showV 4 h.vn ⟨h.vs.toArray⟩ h.vb h.vc).2]) ∧ Below W.heap.size W w') := fun W => rshowV_any _ _ _ _ _ W (by simp [ByteArray.size]; unfold maxLen; omega)
 generalize showV 4 h.vn ⟨h.vs.toArray⟩ h.vb h.vc = s at *
 obtain ⟨s, t⟩ := s
 dsimp only at HS ⊢
 have B := Box.new w (hdC h (.slice a n cap))
 have p0 := B.cell 0 (.int .i64 h.kind) rfl
 have p1 := B.cell 1 (.int .i64 h.vk) rfl
 have p2 := B.cell 2 (.int .i64 h.vn) rfl
 have p3 := B.cell 3 (.string ⟨h.vs.toArray⟩) rfl
 have p4 := B.cell 4 (.bool h.vb) rfl
 have p5 := B.cell 5 (.int .i64 h.vc) rfl
 rw [hk] at p0
 rw [hv] at p1
 have HB0 := hide ((Below.refl w.heap.size w).alloc (Nat.le_refl _) (.cells (hdC h (.slice a n cap)).toArray 33))
 clear B hk hv hz
 go_enter Tryz.func88, Tryz.ntmps88
 go_wp2_with (first | (go_at_call 108; refine (HS.out _).mono ?_; rintro e w1 ⟨rfl, hb1⟩; have HB1 := hide (HB0.out.trans (hb1.mono HB0.out.size)); clear hb1))
 go_ret
 exact ⟨rfl, HB1.out⟩
theorem text_cell (h : Hd) (k : Fo) (hk : h.kind = 2) : TextC h k (Pla.printR h.row h.col h.fr h.fc).1 := by
 intro D v w _ hkv
 obtain ⟨a, n, cap, rfl, hn, hk3⟩ := hkv
 clear hn hk3
 have HS : Hid (∀ W : World, Calls Tryz.prog 109 #[.agg #[.int .i64 h.row, .int .i64 h.col, .bool h.fr, .bool h.fc]] W fun e w' => e = .returned (.tuple #[.string ⟨(Pla.printR h.row h.col h.fr h.fc).1.toArray⟩, .int .i64 (Pla.printR h.row h.col h.fr h.fc).2]) ∧ Below W.heap.size W w') := fun W => Pla.rprint_any _ _ _ _ W
 generalize Pla.printR h.row h.col h.fr h.fc = s at *
 obtain ⟨s, t⟩ := s
 dsimp only at HS ⊢
 have B := Box.new w (hdC h (.slice a n cap))
 have p0 := B.cell 0 (.int .i64 h.kind) rfl
 have p1 := B.cell 6 (.int .i64 h.row) rfl
 have p2 := B.cell 7 (.int .i64 h.col) rfl
 have p3 := B.cell 8 (.bool h.fr) rfl
 have p4 := B.cell 9 (.bool h.fc) rfl
 rw [hk] at p0
 have HB0 := hide ((Below.refl w.heap.size w).alloc (Nat.le_refl _) (.cells (hdC h (.slice a n cap)).toArray 33))
 clear B hk
 go_enter Tryz.func88, Tryz.ntmps88
 go_wp2_with (first | (go_at_call 109; refine (HS.out _).mono ?_; rintro e w1 ⟨rfl, hb1⟩; have HB1 := hide (HB0.out.trans (hb1.mono HB0.out.size)); clear hb1))
 go_ret
 exact ⟨rfl, HB1.out⟩
theorem text_range (h : Hd) (k : Fo) (hk : h.kind = 3) (s1 s2 : List UInt8) (h1 : (Pla.printR h.row h.col h.fr h.fc).1 = s1) (h2 : (Pla.printR h.row2 h.col2 h.fr2 h.fc2).1 = s2) (hl1 : s1.length ≤ 100) (hl2 : s2.length ≤ 100) : TextC h k (s1 ++ 58 :: s2) := by
 intro D v w _ hkv
 obtain ⟨a, n, cap, rfl, hn, hk3⟩ := hkv
 clear hn hk3
 have HS : Hid (∀ W : World, Calls Tryz.prog 109 #[.agg #[.int .i64 h.row, .int .i64 h.col, .bool h.fr, .bool h.fc]] W fun e w' => ∃ t, e = .returned (.tuple #[.string ⟨s1.toArray⟩, .int .i64 t]) ∧ Below W.heap.size W w') := fun W => (Pla.rprint_any _ _ _ _ W).mono (by rintro e w' ⟨rfl, hb⟩; exact ⟨_, by rw [h1], hb⟩)
 have HT : Hid (∀ W : World, Calls Tryz.prog 109 #[.agg #[.int .i64 h.row2, .int .i64 h.col2, .bool h.fr2, .bool h.fc2]] W fun e w' => ∃ t, e = .returned (.tuple #[.string ⟨s2.toArray⟩, .int .i64 t]) ∧ Below W.heap.size W w') := fun W => (Pla.rprint_any _ _ _ _ W).mono (by rintro e w' ⟨rfl, hb⟩; exact ⟨_, by rw [h2], hb⟩)
 have B := Box.new w (hdC h (.slice a n cap))
 have p0 := B.cell 0 (.int .i64 h.kind) rfl
 have p1 := B.cell 6 (.int .i64 h.row) rfl
 have p2 := B.cell 7 (.int .i64 h.col) rfl
 have p3 := B.cell 8 (.bool h.fr) rfl
 have p4 := B.cell 9 (.bool h.fc) rfl
 rw [hk] at p0
 have HX := hide B
 have HB0 := hide ((Below.refl w.heap.size w).alloc (Nat.le_refl _) (.cells (hdC h (.slice a n cap)).toArray 33))
 clear B hk h1 h2
 go_enter Tryz.func88, Tryz.ntmps88
 go_wp2_with (first | (go_at_call_of 109 [Value.agg #[.int .i64 h.row, .int .i64 h.col, .bool h.fr, .bool h.fc]]; refine (HS.out _).mono ?_; rintro e w1 ⟨t, rfl, hb1⟩; have HB1 := hide (HB0.out.trans (hb1.mono HB0.out.size)); have B1 := HX.out.below hb1; have q1 := B1.cell 10 (.int .i64 h.row2) rfl; have q2 := B1.cell 11 (.int .i64 h.col2) rfl; have q3 := B1.cell 12 (.bool h.fr2) rfl; have q4 := B1.cell 13 (.bool h.fc2) rfl; clear hb1 B1) | (go_at_call 109; refine (HT.out _).mono ?_; rintro e w2 ⟨t2, rfl, hb2⟩; have HB2 := hide (HB1.out.trans (hb2.mono HB1.out.size)); clear hb2))
 go_ret
 refine ⟨?_, HB2.out⟩
 simp
 apply ByteArray.ext
 simp
def lvl (h : Hd) : Int := if h.kind = 4 then 4 else if h.kind = 5 then (bindN h.txt : Int) - 1 else 5
theorem level_any (h : Hd) (a : Option Addr) (n cap : Nat) (w : World) :
  Calls Tryz.prog 131 #[.agg (hdC h (.slice a n cap)).toArray] w fun e w' => e = .returned (.int .i64 (lvl h)) ∧ Below w.heap.size w w' := by
 have HL : Hid (∀ W : World, Calls Tryz.prog 82 #[.string ⟨h.txt.toArray⟩] W fun e w' => e = .returned (.int .i64 ((bindN h.txt : Int) - 1)) ∧ w' = W) := fun W => by
  have := line_any ⟨h.txt.toArray⟩ W
  simpa using this
 unfold lvl
 generalize (bindN h.txt : Int) - 1 = l at *
 have B := Box.new w (hdC h (.slice a n cap))
 have p0 := B.cell 0 (.int .i64 h.kind) rfl
 have p14 := B.cell 14 (.string ⟨h.txt.toArray⟩) rfl
 have HB0 := hide ((Below.refl w.heap.size w).alloc (Nat.le_refl _) (.cells (hdC h (.slice a n cap)).toArray 33))
 clear B
 by_cases h4 : h.kind = 4
 ·
  rw [if_pos h4]
  rw [h4] at p0
  clear h4
  go_enter Tryz.func131, Tryz.ntmps131
  go_wp2
  go_ret
  exact ⟨rfl, HB0.out⟩
 ·
  rw [if_neg h4]
  by_cases h5 : h.kind = 5
  ·
   rw [if_pos h5]
   rw [h5] at p0
   clear h4 h5
   go_enter Tryz.func131, Tryz.ntmps131
   go_wp2_with (first | (go_at_call 82; refine (HL.out _).mono ?_; rintro e w1 ⟨rfl, rfl⟩))
   go_ret
   exact ⟨rfl, HB0.out⟩
  ·
   rw [if_neg h5]
   have e4 : (h.kind == 4) = false := by simpa using h4
   have e5 : (h.kind == 5) = false := by simpa using h5
   generalize h.kind = kk at *
   clear h4 h5
   go_enter Tryz.func131, Tryz.ntmps131
   go_wp2
   go_ret
   exact ⟨rfl, HB0.out⟩
theorem within_plain (h : Hd) (k : Fo) (s : List UInt8) (ht : TextC h k s) (least : Int) (hl : least ≤ lvl h) (D : Nat → Prop) (v : Value) (w : World) (hD : ∀ c, D c → c < w.heap.size) (hk : Kv w D v k) :
  Calls Tryz.prog 110 #[.agg (hdC h v).toArray, .int .i64 least] w fun e w' => e = .returned (.string ⟨s.toArray⟩) ∧ Below w.heap.size w w' := by
 have HT : Hid (∀ W : World, Below w.heap.size w W → Calls Tryz.prog 88 #[.agg (hdC h v).toArray] W fun e w' => e = .returned (.string ⟨s.toArray⟩) ∧ Below W.heap.size W w') := fun W hW => ht D v W (fun c hc => Nat.lt_of_lt_of_le (hD c hc) hW.size) (kv_to hk (fun b hb => ⟨hb, hW.block b (hD b hb)⟩))
 obtain ⟨a, n, cap, rfl, hn, hk3⟩ := hk
 clear hn hk3 hD ht
 have HL : Hid (∀ W : World, Calls Tryz.prog 131 #[.agg (hdC h (.slice a n cap)).toArray] W fun e w' => e = .returned (.int .i64 (lvl h)) ∧ Below W.heap.size W w') := fun W => level_any h a n cap W
 generalize lvl h = l at *
 have hl' : ¬ l < least := by omega
 have HX := hide (Box.new w (hdC h (.slice a n cap)))
 have HB := hide ((Below.refl w.heap.size w).alloc (Nat.le_refl _) (.cells (hdC h (.slice a n cap)).toArray 33))
 clear hl
 go_enter Tryz.func110, Tryz.ntmps110
 go_wp2_with (first | (with_reducible refine wpl_id ?_; refine wpl_load rfl _ rfl _ rfl (by ((repeat' (first | with_reducible (first | exact Hid.out (by assumption) | apply Box.set | exact Box.new _ _ | apply Box.other | apply Box.alloc | apply Box.drew | apply Box.drewN) | omega)); done)) ?_) | (go_at_call 131; refine (HL.out _).mono ?_; rintro e w1 ⟨rfl, hb1⟩; have HB1 := hide (HB.out.trans (hb1.mono HB.out.size)); have HX1 := hide (HX.out.below hb1); clear hb1 HB HX) | (go_at_call 88; refine (HT.out _ HB1.out).mono ?_; rintro e w2 ⟨rfl, hb2⟩; have HB2 := hide (HB1.out.trans (hb2.mono HB1.out.size)); clear hb2 HB1 HX1))
 go_ret
 exact ⟨rfl, HB2.out⟩
end Go.Proofs.YtfpmmckpobpokaaGreat
