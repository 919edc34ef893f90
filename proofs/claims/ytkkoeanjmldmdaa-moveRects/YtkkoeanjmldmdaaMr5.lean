/-
  The contract of the answer's Rect. (By refrectgen.py.)
-/
import Derived.Test.YtkkoeanjmldmdaaMr4
import Derived.Test.YtkkoeanjmldmdaaMv3
namespace Go.Proofs.Ytkkoeanjmldmdaa
open Go.RowKit

/-- What lies where while the answer's Rect runs: the edit, the rectangle, what is answered. -/
def RwS (w : World) (k a n t l b r : Int) (w' : World) : Prop := At3 w' w.heap.size k a n ∧ Has4 w' (w.heap.size + 1) t l b r ∧ Has4 w' (w.heap.size + 1 + 1) 0 0 0 0 ∧ Below w.heap.size w w'
theorem RwS.below {w w1 w' : World} {k a n t l b r : Int} (h : RwS w k a n t l b r w1) (m : Below w1.heap.size w1 w') : RwS w k a n t l b r w' :=
  ⟨h.1.below m, h.2.1.below m, h.2.2.1.below m, h.2.2.2.trans (m.mono h.2.2.2.size)⟩
theorem RwS.drew {w w1 : World} {k a n t l b r : Int} (h : RwS w k a n t l b r w1) : RwS w k a n t l b r w1.drew := h.below ((Below.refl _ _).drew)
theorem RwS.start (w : World) (k a n t l b r : Int) (t1 t2 t3 : TypeId) : RwS w k a n t l b r (((w.alloc (.cells #[.int .i64 k, .int .i64 a, .int .i64 n] t1)).alloc (.cells #[.int .i64 t, .int .i64 l, .int .i64 b, .int .i64 r] t2)).alloc (.cells #[.int .i64 0, .int .i64 0, .int .i64 0, .int .i64 0] t3)) := by
  refine ⟨((At3.new w k a n t1).alloc _).alloc _, ?_, ?_, ?_⟩
  · have := (Has4.new (w.alloc (.cells #[.int .i64 k, .int .i64 a, .int .i64 n] t1)) t l b r t2).alloc (.cells #[.int .i64 0, .int .i64 0, .int .i64 0, .int .i64 0] t3)
    simpa using this
  · have := Has4.new ((w.alloc (.cells #[.int .i64 k, .int .i64 a, .int .i64 n] t1)).alloc (.cells #[.int .i64 t, .int .i64 l, .int .i64 b, .int .i64 r] t2)) 0 0 0 0 t3
    simpa using this
  · repeat' (first | with_reducible exact Below.refl _ _ | with_reducible refine Below.setCell ?_ ?_ _ | with_reducible refine Below.alloc ?_ ?_ _ | with_reducible refine below_drewN ?_ _ | with_reducible refine Below.drew ?_ | with_reducible refine Below.trans ?_ (Below.mono (by assumption) ?_) | with_reducible exact Nat.le_refl _ | with_reducible refine Nat.le_trans ?_ (Below.size (by assumption)) | with_reducible refine Nat.le_trans ?_ (size_alloc _ _) | with_reducible refine Nat.le_trans ?_ (size_set _ _ _) | with_reducible refine Nat.le_trans ?_ (size_drewN _ _) | with_reducible refine Nat.le_trans ?_ (size_drew _) | (simp; done) | (simp; omega) | omega)
set_option maxRecDepth 100000 in
set_option maxHeartbeats 2000000 in
theorem rrect_any (k a n t l b r : Int) (w : World) :
    Calls Try.prog 17 #[.agg #[.int .i64 k, .int .i64 a, .int .i64 n], .agg #[.int .i64 t, .int .i64 l, .int .i64 b, .int .i64 r]] w fun e w' => e = .returned (.tuple #[.agg #[.int .i64 (rectR k a n t l b r).1, .int .i64 (rectR k a n t l b r).2.1, .int .i64 (rectR k a n t l b r).2.2.1, .int .i64 (rectR k a n t l b r).2.2.2.1], .bool (rectR k a n t l b r).2.2.2.2.1, .int .i64 (rectR k a n t l b r).2.2.2.2.2]) ∧ Below w.heap.size w w' := by
  have HR : Hid (∀ W : World, Calls Try.prog 28 #[.agg #[.int .i64 k, .int .i64 a, .int .i64 n]] W fun e w' => e = .returned (.bool (editB k a n)) ∧ Below W.heap.size W w') := fun W => reditB_any k a n W
  have HP : Hid (∀ W : World, Calls Try.prog 36 #[.agg #[.int .i64 t, .int .i64 l, .int .i64 b, .int .i64 r]] W fun e w' => e = .returned (.bool (rightB t l b r)) ∧ Below W.heap.size W w') := fun W => rright_any t l b r W
  have HO : Hid (∀ W : World, Calls Try.prog 30 #[.agg #[.int .i64 k, .int .i64 a, .int .i64 n]] W fun e w' => e = .returned (.bool (rowsB k)) ∧ Below W.heap.size W w') := fun W => rrows_any k a n W
  have H0 := hide (RwS.start w k a n t l b r 24 42 42)
  cases h : editB k a n
  · rw [rectR_no (Or.inl h)]
    rw [h] at HR
    clear h
    go_enter Try.func17, Try.ntmps17
    go_wp2_with ((go_at_call 28; refine (HR.out _).mono ?_; rintro e w1 ⟨rfl, hb⟩; have hs := H0.out.below hb; have ⟨⟨z1, k0, k1, k2⟩, ⟨⟨z2, j0, j1, j2, j3⟩, h0, h1, h2, h3⟩, ⟨⟨z3, i0, i1, i2, i3⟩, g0, g1, g2, g3⟩, hbz⟩ := hs; have HS1 := hide hs; clear hs hb))
    refine bodyPost_ret (v := .tuple #[.agg #[.int .i64 0, .int .i64 0, .int .i64 0, .int .i64 0], .bool false, .int .i64 2]) (by simp [results, Try.results17, go_sem, *]) rfl ⟨rfl, ?_⟩
    repeat' (first | with_reducible exact Below.refl _ _ | with_reducible refine Below.setCell ?_ ?_ _ | with_reducible refine Below.alloc ?_ ?_ _ | with_reducible refine below_drewN ?_ _ | with_reducible refine Below.drew ?_ | with_reducible refine Below.trans ?_ (Below.mono (by assumption) ?_) | with_reducible exact Nat.le_refl _ | with_reducible refine Nat.le_trans ?_ (Below.size (by assumption)) | with_reducible refine Nat.le_trans ?_ (size_alloc _ _) | with_reducible refine Nat.le_trans ?_ (size_set _ _ _) | with_reducible refine Nat.le_trans ?_ (size_drewN _ _) | with_reducible refine Nat.le_trans ?_ (size_drew _) | (simp; done) | (simp; omega) | omega)
  · rw [h] at HR
    cases hp : rightB t l b r
    · rw [rectR_no (Or.inr hp)]
      rw [hp] at HP
      clear h hp
      go_enter Try.func17, Try.ntmps17
      go_wp2_with (first | (go_at_call 28; refine (HR.out _).mono ?_; rintro e w1 ⟨rfl, hb⟩; have hs := H0.out.below hb; have ⟨⟨z1, k0, k1, k2⟩, ⟨⟨z2, j0, j1, j2, j3⟩, h0, h1, h2, h3⟩, ⟨⟨z3, i0, i1, i2, i3⟩, g0, g1, g2, g3⟩, hbz⟩ := hs; have HS1 := hide hs; clear hs hb) | (go_at_call 36; refine (HP.out _).mono ?_; rintro e w2 ⟨rfl, hb⟩; have hs := HS1.out.below hb; clear z1 k0 k1 k2 z2 j0 j1 j2 j3 h0 h1 h2 h3 z3 i0 i1 i2 i3 g0 g1 g2 g3 hbz; have ⟨⟨z1, k0, k1, k2⟩, ⟨⟨z2, j0, j1, j2, j3⟩, h0, h1, h2, h3⟩, ⟨⟨z3, i0, i1, i2, i3⟩, g0, g1, g2, g3⟩, hbz⟩ := hs; have HS2 := hide hs; clear hs hb))
      refine bodyPost_ret (v := .tuple #[.agg #[.int .i64 0, .int .i64 0, .int .i64 0, .int .i64 0], .bool false, .int .i64 2]) (by simp [results, Try.results17, go_sem, *]) rfl ⟨rfl, ?_⟩
      repeat' (first | with_reducible exact Below.refl _ _ | with_reducible refine Below.setCell ?_ ?_ _ | with_reducible refine Below.alloc ?_ ?_ _ | with_reducible refine below_drewN ?_ _ | with_reducible refine Below.drew ?_ | with_reducible refine Below.trans ?_ (Below.mono (by assumption) ?_) | with_reducible exact Nat.le_refl _ | with_reducible refine Nat.le_trans ?_ (Below.size (by assumption)) | with_reducible refine Nat.le_trans ?_ (size_alloc _ _) | with_reducible refine Nat.le_trans ?_ (size_set _ _ _) | with_reducible refine Nat.le_trans ?_ (size_drewN _ _) | with_reducible refine Nat.le_trans ?_ (size_drew _) | (simp; done) | (simp; omega) | omega)
    · rw [hp] at HP
      have p := rightB_iff.1 hp
      cases hr : rowsB k
      · rw [rectR_col h hp hr]
        rw [hr] at HO
        have ht := top_cols hr
        have HE : Hid (∀ W : World, Calls Try.prog 37 #[.agg #[.int .i64 k, .int .i64 a, .int .i64 n], .int .i64 l, .int .i64 r] W fun e w' => e = .returned (.tuple #[.int .i64 (linesR k a n l r).1, .int .i64 (linesR k a n l r).2.1, .bool (linesR k a n l r).2.2]) ∧ Below W.heap.size W w') := fun W => rends_any h (by omega) (by omega) (by omega) W
        by_cases hq : leftF k a n l ≤ leftL k a n r
        · rw [linesR_yes hq] at *
          generalize carryR k a n (leftF k a n l) = X at *
          generalize carryR k a n (leftL k a n r) = Y at *
          clear h hp hr ht hq p
          go_enter Try.func17, Try.ntmps17
          go_wp2_with (first | (go_at_call 28; refine (HR.out _).mono ?_; rintro e w1 ⟨rfl, hb⟩; have hs := H0.out.below hb; have ⟨⟨z1, k0, k1, k2⟩, ⟨⟨z2, j0, j1, j2, j3⟩, h0, h1, h2, h3⟩, ⟨⟨z3, i0, i1, i2, i3⟩, g0, g1, g2, g3⟩, hbz⟩ := hs; have HS1 := hide hs; clear hs hb) | (go_at_call 36; refine (HP.out _).mono ?_; rintro e w2 ⟨rfl, hb⟩; have hs := HS1.out.below hb; clear z1 k0 k1 k2 z2 j0 j1 j2 j3 h0 h1 h2 h3 z3 i0 i1 i2 i3 g0 g1 g2 g3 hbz; have ⟨⟨z1, k0, k1, k2⟩, ⟨⟨z2, j0, j1, j2, j3⟩, h0, h1, h2, h3⟩, ⟨⟨z3, i0, i1, i2, i3⟩, g0, g1, g2, g3⟩, hbz⟩ := hs; have HS2 := hide hs; clear hs hb) | (go_at_call 30; refine (HO.out _).mono ?_; rintro e w3 ⟨rfl, hb⟩; have hs := HS2.out.below hb; clear z1 k0 k1 k2 z2 j0 j1 j2 j3 h0 h1 h2 h3 z3 i0 i1 i2 i3 g0 g1 g2 g3 hbz; have ⟨⟨z1, k0, k1, k2⟩, ⟨⟨z2, j0, j1, j2, j3⟩, h0, h1, h2, h3⟩, ⟨⟨z3, i0, i1, i2, i3⟩, g0, g1, g2, g3⟩, hbz⟩ := hs; have HS3 := hide hs; clear hs hb) | (go_at_call 37; refine (HE.out _).mono ?_; rintro e w4 ⟨rfl, hb⟩; have hs := HS3.out.below hb; clear z1 k0 k1 k2 z2 j0 j1 j2 j3 h0 h1 h2 h3 z3 i0 i1 i2 i3 g0 g1 g2 g3 hbz; have ⟨⟨z1, k0, k1, k2⟩, ⟨⟨z2, j0, j1, j2, j3⟩, h0, h1, h2, h3⟩, ⟨⟨z3, i0, i1, i2, i3⟩, g0, g1, g2, g3⟩, hbz⟩ := hs; have HS4 := hide hs; clear hs hb))
          refine bodyPost_ret (v := .tuple #[.agg #[.int .i64 t, .int .i64 X, .int .i64 b, .int .i64 Y], .bool true, .int .i64 0]) (by simp [results, Try.results17, go_sem, *]) rfl ⟨rfl, ?_⟩
          repeat' (first | with_reducible exact Below.refl _ _ | with_reducible refine Below.setCell ?_ ?_ _ | with_reducible refine Below.alloc ?_ ?_ _ | with_reducible refine below_drewN ?_ _ | with_reducible refine Below.drew ?_ | with_reducible refine Below.trans ?_ (Below.mono (by assumption) ?_) | with_reducible exact Nat.le_refl _ | with_reducible refine Nat.le_trans ?_ (Below.size (by assumption)) | with_reducible refine Nat.le_trans ?_ (size_alloc _ _) | with_reducible refine Nat.le_trans ?_ (size_set _ _ _) | with_reducible refine Nat.le_trans ?_ (size_drewN _ _) | with_reducible refine Nat.le_trans ?_ (size_drew _) | (simp; done) | (simp; omega) | omega)
        · rw [linesR_no hq] at *
          clear h hp hr ht hq p
          go_enter Try.func17, Try.ntmps17
          go_wp2_with (first | (go_at_call 28; refine (HR.out _).mono ?_; rintro e w1 ⟨rfl, hb⟩; have hs := H0.out.below hb; have ⟨⟨z1, k0, k1, k2⟩, ⟨⟨z2, j0, j1, j2, j3⟩, h0, h1, h2, h3⟩, ⟨⟨z3, i0, i1, i2, i3⟩, g0, g1, g2, g3⟩, hbz⟩ := hs; have HS1 := hide hs; clear hs hb) | (go_at_call 36; refine (HP.out _).mono ?_; rintro e w2 ⟨rfl, hb⟩; have hs := HS1.out.below hb; clear z1 k0 k1 k2 z2 j0 j1 j2 j3 h0 h1 h2 h3 z3 i0 i1 i2 i3 g0 g1 g2 g3 hbz; have ⟨⟨z1, k0, k1, k2⟩, ⟨⟨z2, j0, j1, j2, j3⟩, h0, h1, h2, h3⟩, ⟨⟨z3, i0, i1, i2, i3⟩, g0, g1, g2, g3⟩, hbz⟩ := hs; have HS2 := hide hs; clear hs hb) | (go_at_call 30; refine (HO.out _).mono ?_; rintro e w3 ⟨rfl, hb⟩; have hs := HS2.out.below hb; clear z1 k0 k1 k2 z2 j0 j1 j2 j3 h0 h1 h2 h3 z3 i0 i1 i2 i3 g0 g1 g2 g3 hbz; have ⟨⟨z1, k0, k1, k2⟩, ⟨⟨z2, j0, j1, j2, j3⟩, h0, h1, h2, h3⟩, ⟨⟨z3, i0, i1, i2, i3⟩, g0, g1, g2, g3⟩, hbz⟩ := hs; have HS3 := hide hs; clear hs hb) | (go_at_call 37; refine (HE.out _).mono ?_; rintro e w4 ⟨rfl, hb⟩; have hs := HS3.out.below hb; clear z1 k0 k1 k2 z2 j0 j1 j2 j3 h0 h1 h2 h3 z3 i0 i1 i2 i3 g0 g1 g2 g3 hbz; have ⟨⟨z1, k0, k1, k2⟩, ⟨⟨z2, j0, j1, j2, j3⟩, h0, h1, h2, h3⟩, ⟨⟨z3, i0, i1, i2, i3⟩, g0, g1, g2, g3⟩, hbz⟩ := hs; have HS4 := hide hs; clear hs hb))
          refine bodyPost_ret (v := .tuple #[.agg #[.int .i64 0, .int .i64 0, .int .i64 0, .int .i64 0], .bool false, .int .i64 0]) (by simp [results, Try.results17, go_sem, *]) rfl ⟨rfl, ?_⟩
          repeat' (first | with_reducible exact Below.refl _ _ | with_reducible refine Below.setCell ?_ ?_ _ | with_reducible refine Below.alloc ?_ ?_ _ | with_reducible refine below_drewN ?_ _ | with_reducible refine Below.drew ?_ | with_reducible refine Below.trans ?_ (Below.mono (by assumption) ?_) | with_reducible exact Nat.le_refl _ | with_reducible refine Nat.le_trans ?_ (Below.size (by assumption)) | with_reducible refine Nat.le_trans ?_ (size_alloc _ _) | with_reducible refine Nat.le_trans ?_ (size_set _ _ _) | with_reducible refine Nat.le_trans ?_ (size_drewN _ _) | with_reducible refine Nat.le_trans ?_ (size_drew _) | (simp; done) | (simp; omega) | omega)
      · rw [rectR_row h hp hr]
        rw [hr] at HO
        have ht := top_rows hr
        have HE : Hid (∀ W : World, Calls Try.prog 37 #[.agg #[.int .i64 k, .int .i64 a, .int .i64 n], .int .i64 t, .int .i64 b] W fun e w' => e = .returned (.tuple #[.int .i64 (linesR k a n t b).1, .int .i64 (linesR k a n t b).2.1, .bool (linesR k a n t b).2.2]) ∧ Below W.heap.size W w') := fun W => rends_any h (by omega) (by omega) (by omega) W
        by_cases hq : leftF k a n t ≤ leftL k a n b
        · rw [linesR_yes hq] at *
          generalize carryR k a n (leftF k a n t) = X at *
          generalize carryR k a n (leftL k a n b) = Y at *
          clear h hp hr ht hq p
          go_enter Try.func17, Try.ntmps17
          go_wp2_with (first | (go_at_call 28; refine (HR.out _).mono ?_; rintro e w1 ⟨rfl, hb⟩; have hs := H0.out.below hb; have ⟨⟨z1, k0, k1, k2⟩, ⟨⟨z2, j0, j1, j2, j3⟩, h0, h1, h2, h3⟩, ⟨⟨z3, i0, i1, i2, i3⟩, g0, g1, g2, g3⟩, hbz⟩ := hs; have HS1 := hide hs; clear hs hb) | (go_at_call 36; refine (HP.out _).mono ?_; rintro e w2 ⟨rfl, hb⟩; have hs := HS1.out.below hb; clear z1 k0 k1 k2 z2 j0 j1 j2 j3 h0 h1 h2 h3 z3 i0 i1 i2 i3 g0 g1 g2 g3 hbz; have ⟨⟨z1, k0, k1, k2⟩, ⟨⟨z2, j0, j1, j2, j3⟩, h0, h1, h2, h3⟩, ⟨⟨z3, i0, i1, i2, i3⟩, g0, g1, g2, g3⟩, hbz⟩ := hs; have HS2 := hide hs; clear hs hb) | (go_at_call 30; refine (HO.out _).mono ?_; rintro e w3 ⟨rfl, hb⟩; have hs := HS2.out.below hb; clear z1 k0 k1 k2 z2 j0 j1 j2 j3 h0 h1 h2 h3 z3 i0 i1 i2 i3 g0 g1 g2 g3 hbz; have ⟨⟨z1, k0, k1, k2⟩, ⟨⟨z2, j0, j1, j2, j3⟩, h0, h1, h2, h3⟩, ⟨⟨z3, i0, i1, i2, i3⟩, g0, g1, g2, g3⟩, hbz⟩ := hs; have HS3 := hide hs; clear hs hb) | (go_at_call 37; refine (HE.out _).mono ?_; rintro e w4 ⟨rfl, hb⟩; have hs := HS3.out.below hb; clear z1 k0 k1 k2 z2 j0 j1 j2 j3 h0 h1 h2 h3 z3 i0 i1 i2 i3 g0 g1 g2 g3 hbz; have ⟨⟨z1, k0, k1, k2⟩, ⟨⟨z2, j0, j1, j2, j3⟩, h0, h1, h2, h3⟩, ⟨⟨z3, i0, i1, i2, i3⟩, g0, g1, g2, g3⟩, hbz⟩ := hs; have HS4 := hide hs; clear hs hb))
          refine bodyPost_ret (v := .tuple #[.agg #[.int .i64 X, .int .i64 l, .int .i64 Y, .int .i64 r], .bool true, .int .i64 0]) (by simp [results, Try.results17, go_sem, *]) rfl ⟨rfl, ?_⟩
          repeat' (first | with_reducible exact Below.refl _ _ | with_reducible refine Below.setCell ?_ ?_ _ | with_reducible refine Below.alloc ?_ ?_ _ | with_reducible refine below_drewN ?_ _ | with_reducible refine Below.drew ?_ | with_reducible refine Below.trans ?_ (Below.mono (by assumption) ?_) | with_reducible exact Nat.le_refl _ | with_reducible refine Nat.le_trans ?_ (Below.size (by assumption)) | with_reducible refine Nat.le_trans ?_ (size_alloc _ _) | with_reducible refine Nat.le_trans ?_ (size_set _ _ _) | with_reducible refine Nat.le_trans ?_ (size_drewN _ _) | with_reducible refine Nat.le_trans ?_ (size_drew _) | (simp; done) | (simp; omega) | omega)
        · rw [linesR_no hq] at *
          clear h hp hr ht hq p
          go_enter Try.func17, Try.ntmps17
          go_wp2_with (first | (go_at_call 28; refine (HR.out _).mono ?_; rintro e w1 ⟨rfl, hb⟩; have hs := H0.out.below hb; have ⟨⟨z1, k0, k1, k2⟩, ⟨⟨z2, j0, j1, j2, j3⟩, h0, h1, h2, h3⟩, ⟨⟨z3, i0, i1, i2, i3⟩, g0, g1, g2, g3⟩, hbz⟩ := hs; have HS1 := hide hs; clear hs hb) | (go_at_call 36; refine (HP.out _).mono ?_; rintro e w2 ⟨rfl, hb⟩; have hs := HS1.out.below hb; clear z1 k0 k1 k2 z2 j0 j1 j2 j3 h0 h1 h2 h3 z3 i0 i1 i2 i3 g0 g1 g2 g3 hbz; have ⟨⟨z1, k0, k1, k2⟩, ⟨⟨z2, j0, j1, j2, j3⟩, h0, h1, h2, h3⟩, ⟨⟨z3, i0, i1, i2, i3⟩, g0, g1, g2, g3⟩, hbz⟩ := hs; have HS2 := hide hs; clear hs hb) | (go_at_call 30; refine (HO.out _).mono ?_; rintro e w3 ⟨rfl, hb⟩; have hs := HS2.out.below hb; clear z1 k0 k1 k2 z2 j0 j1 j2 j3 h0 h1 h2 h3 z3 i0 i1 i2 i3 g0 g1 g2 g3 hbz; have ⟨⟨z1, k0, k1, k2⟩, ⟨⟨z2, j0, j1, j2, j3⟩, h0, h1, h2, h3⟩, ⟨⟨z3, i0, i1, i2, i3⟩, g0, g1, g2, g3⟩, hbz⟩ := hs; have HS3 := hide hs; clear hs hb) | (go_at_call 37; refine (HE.out _).mono ?_; rintro e w4 ⟨rfl, hb⟩; have hs := HS3.out.below hb; clear z1 k0 k1 k2 z2 j0 j1 j2 j3 h0 h1 h2 h3 z3 i0 i1 i2 i3 g0 g1 g2 g3 hbz; have ⟨⟨z1, k0, k1, k2⟩, ⟨⟨z2, j0, j1, j2, j3⟩, h0, h1, h2, h3⟩, ⟨⟨z3, i0, i1, i2, i3⟩, g0, g1, g2, g3⟩, hbz⟩ := hs; have HS4 := hide hs; clear hs hb))
          refine bodyPost_ret (v := .tuple #[.agg #[.int .i64 0, .int .i64 0, .int .i64 0, .int .i64 0], .bool false, .int .i64 0]) (by simp [results, Try.results17, go_sem, *]) rfl ⟨rfl, ?_⟩
          repeat' (first | with_reducible exact Below.refl _ _ | with_reducible refine Below.setCell ?_ ?_ _ | with_reducible refine Below.alloc ?_ ?_ _ | with_reducible refine below_drewN ?_ _ | with_reducible refine Below.drew ?_ | with_reducible refine Below.trans ?_ (Below.mono (by assumption) ?_) | with_reducible exact Nat.le_refl _ | with_reducible refine Nat.le_trans ?_ (Below.size (by assumption)) | with_reducible refine Nat.le_trans ?_ (size_alloc _ _) | with_reducible refine Nat.le_trans ?_ (size_set _ _ _) | with_reducible refine Nat.le_trans ?_ (size_drewN _ _) | with_reducible refine Nat.le_trans ?_ (size_drew _) | (simp; done) | (simp; omega) | omega)
end Go.Proofs.Ytkkoeanjmldmdaa
