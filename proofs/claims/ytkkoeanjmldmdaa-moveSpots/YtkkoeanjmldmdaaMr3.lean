/-
  The contract of the answer's Spot. (By refspotgen.py.)
-/
import Derived.Test.YtkkoeanjmldmdaaMr2
import Derived.Test.YtkkoeanjmldmdaaMv4
namespace Go.Proofs.Ytkkoeanjmldmdaa
open Go.RowKit

theorem rplace_below (r c : Int) (w : World) : Calls Try.prog 29 #[.agg #[.int .i64 r, .int .i64 c]] w fun e w' => e = .returned (.bool (placeB r c)) ∧ Below w.heap.size w w' :=
  (rplace_any r c w).mono fun e w' ⟨h1, h2⟩ => ⟨h1, by rw [h2]; exact (Below.refl _ _).alloc (Nat.le_refl _) _⟩
set_option maxRecDepth 100000 in
set_option maxHeartbeats 2000000 in
theorem rspot_any (k a n r c : Int) (w : World) :
    Calls Try.prog 10 #[.agg #[.int .i64 k, .int .i64 a, .int .i64 n], .agg #[.int .i64 r, .int .i64 c]] w fun e w' => e = .returned (.tuple #[.agg #[.int .i64 (spotR k a n r c).1, .int .i64 (spotR k a n r c).2.1], .int .i64 (spotR k a n r c).2.2.1, .int .i64 (spotR k a n r c).2.2.2]) ∧ Below w.heap.size w w' := by
  have HR : Hid (∀ W : World, Calls Try.prog 28 #[.agg #[.int .i64 k, .int .i64 a, .int .i64 n]] W fun e w' => e = .returned (.bool (editB k a n)) ∧ Below W.heap.size W w') := fun W => reditB_any k a n W
  have HP : Hid (∀ W : World, Calls Try.prog 29 #[.agg #[.int .i64 r, .int .i64 c]] W fun e w' => e = .returned (.bool (placeB r c)) ∧ Below W.heap.size W w') := fun W => rplace_below r c W
  have HO : Hid (∀ W : World, Calls Try.prog 30 #[.agg #[.int .i64 k, .int .i64 a, .int .i64 n]] W fun e w' => e = .returned (.bool (rowsB k)) ∧ Below W.heap.size W w') := fun W => rrows_any k a n W
  have H0 := hide (SpS.start w k a n r c 24 26 26)
  cases h : editB k a n
  · rw [spotR_no (Or.inl h)]
    rw [h] at HR
    clear h
    go_enter Try.func10, Try.ntmps10
    go_wp2_with ((go_at_call 28; refine (HR.out _).mono ?_; rintro e w1 ⟨rfl, hb⟩; have hs := H0.out.below hb; have ⟨⟨z1, k0, k1, k2⟩, ⟨⟨z2, j0, j1⟩, f0, f1⟩, ⟨⟨z3, i0, i1⟩, g0, g1⟩, hbz⟩ := hs; have HS1 := hide hs; clear hs hb))
    refine bodyPost_ret (v := .tuple #[.agg #[.int .i64 0, .int .i64 0], .int .i64 0, .int .i64 2]) (by simp [results, Try.results10, go_sem, *]) rfl ⟨rfl, ?_⟩
    repeat' (first | with_reducible exact Below.refl _ _ | with_reducible refine Below.setCell ?_ ?_ _ | with_reducible refine Below.alloc ?_ ?_ _ | with_reducible refine below_drewN ?_ _ | with_reducible refine Below.drew ?_ | with_reducible refine Below.trans ?_ (Below.mono (by assumption) ?_) | with_reducible exact Nat.le_refl _ | with_reducible refine Nat.le_trans ?_ (Below.size (by assumption)) | with_reducible refine Nat.le_trans ?_ (size_alloc _ _) | with_reducible refine Nat.le_trans ?_ (size_set _ _ _) | with_reducible refine Nat.le_trans ?_ (size_drewN _ _) | with_reducible refine Nat.le_trans ?_ (size_drew _) | (simp; done) | (simp; omega) | omega)
  · rw [h] at HR
    cases hp : placeB r c
    · rw [spotR_no (Or.inr hp)]
      rw [hp] at HP
      clear h hp
      go_enter Try.func10, Try.ntmps10
      go_wp2_with (first | (go_at_call 28; refine (HR.out _).mono ?_; rintro e w1 ⟨rfl, hb⟩; have hs := H0.out.below hb; have ⟨⟨z1, k0, k1, k2⟩, ⟨⟨z2, j0, j1⟩, f0, f1⟩, ⟨⟨z3, i0, i1⟩, g0, g1⟩, hbz⟩ := hs; have HS1 := hide hs; clear hs hb) | (go_at_call 29; refine (HP.out _).mono ?_; rintro e w2 ⟨rfl, hb⟩; have hs := HS1.out.below hb; clear z1 k0 k1 k2 z2 j0 j1 f0 f1 z3 i0 i1 g0 g1 hbz; have ⟨⟨z1, k0, k1, k2⟩, ⟨⟨z2, j0, j1⟩, f0, f1⟩, ⟨⟨z3, i0, i1⟩, g0, g1⟩, hbz⟩ := hs; have HS2 := hide hs; clear hs hb))
      refine bodyPost_ret (v := .tuple #[.agg #[.int .i64 0, .int .i64 0], .int .i64 0, .int .i64 2]) (by simp [results, Try.results10, go_sem, *]) rfl ⟨rfl, ?_⟩
      repeat' (first | with_reducible exact Below.refl _ _ | with_reducible refine Below.setCell ?_ ?_ _ | with_reducible refine Below.alloc ?_ ?_ _ | with_reducible refine below_drewN ?_ _ | with_reducible refine Below.drew ?_ | with_reducible refine Below.trans ?_ (Below.mono (by assumption) ?_) | with_reducible exact Nat.le_refl _ | with_reducible refine Nat.le_trans ?_ (Below.size (by assumption)) | with_reducible refine Nat.le_trans ?_ (size_alloc _ _) | with_reducible refine Nat.le_trans ?_ (size_set _ _ _) | with_reducible refine Nat.le_trans ?_ (size_drewN _ _) | with_reducible refine Nat.le_trans ?_ (size_drew _) | (simp; done) | (simp; omega) | omega)
    · rw [hp] at HP
      have p := placeB_iff.1 hp
      cases hr : rowsB k
      · rw [spotR_col h hp hr]
        rw [hr] at HO
        have ht := top_cols hr
        have HL : Hid (∀ W : World, Calls Try.prog 31 #[.agg #[.int .i64 k, .int .i64 a, .int .i64 n], .int .i64 c] W fun e w' => e = .returned (.tuple #[.int .i64 (lineR k a n c).1, .int .i64 (lineR k a n c).2]) ∧ Below W.heap.size W w') := fun W => rline_any h (by omega) (by omega) W
        have hf : fateR k = 1 ∨ fateR k = 2 := by unfold fateR; split <;> simp
        cases hq : takenB k a n c
        · rw [lineR_no hq] at HL
          generalize carryR k a n c = v at *
          clear h hp hr ht hq p hf
          go_enter Try.func10, Try.ntmps10
          go_wp2_with (first | (go_at_call 28; refine (HR.out _).mono ?_; rintro e w1 ⟨rfl, hb⟩; have hs := H0.out.below hb; have ⟨⟨z1, k0, k1, k2⟩, ⟨⟨z2, j0, j1⟩, f0, f1⟩, ⟨⟨z3, i0, i1⟩, g0, g1⟩, hbz⟩ := hs; have HS1 := hide hs; clear hs hb) | (go_at_call 29; refine (HP.out _).mono ?_; rintro e w2 ⟨rfl, hb⟩; have hs := HS1.out.below hb; clear z1 k0 k1 k2 z2 j0 j1 f0 f1 z3 i0 i1 g0 g1 hbz; have ⟨⟨z1, k0, k1, k2⟩, ⟨⟨z2, j0, j1⟩, f0, f1⟩, ⟨⟨z3, i0, i1⟩, g0, g1⟩, hbz⟩ := hs; have HS2 := hide hs; clear hs hb) | (go_at_call 30; refine (HO.out _).mono ?_; rintro e w3 ⟨rfl, hb⟩; have hs := HS2.out.below hb; clear z1 k0 k1 k2 z2 j0 j1 f0 f1 z3 i0 i1 g0 g1 hbz; have ⟨⟨z1, k0, k1, k2⟩, ⟨⟨z2, j0, j1⟩, f0, f1⟩, ⟨⟨z3, i0, i1⟩, g0, g1⟩, hbz⟩ := hs; have HS3 := hide hs; clear hs hb) | (go_at_call 31; refine (HL.out _).mono ?_; rintro e w4 ⟨rfl, hb⟩; have hs := HS3.out.below hb; clear z1 k0 k1 k2 z2 j0 j1 f0 f1 z3 i0 i1 g0 g1 hbz; have ⟨⟨z1, k0, k1, k2⟩, ⟨⟨z2, j0, j1⟩, f0, f1⟩, ⟨⟨z3, i0, i1⟩, g0, g1⟩, hbz⟩ := hs; have HS4 := hide hs; clear hs hb))
          refine bodyPost_ret (v := .tuple #[.agg #[.int .i64 r, .int .i64 v], .int .i64 0, .int .i64 0]) (by simp [results, Try.results10, go_sem, *]) rfl ⟨rfl, ?_⟩
          repeat' (first | with_reducible exact Below.refl _ _ | with_reducible refine Below.setCell ?_ ?_ _ | with_reducible refine Below.alloc ?_ ?_ _ | with_reducible refine below_drewN ?_ _ | with_reducible refine Below.drew ?_ | with_reducible refine Below.trans ?_ (Below.mono (by assumption) ?_) | with_reducible exact Nat.le_refl _ | with_reducible refine Nat.le_trans ?_ (Below.size (by assumption)) | with_reducible refine Nat.le_trans ?_ (size_alloc _ _) | with_reducible refine Nat.le_trans ?_ (size_set _ _ _) | with_reducible refine Nat.le_trans ?_ (size_drewN _ _) | with_reducible refine Nat.le_trans ?_ (size_drew _) | (simp; done) | (simp; omega) | omega)
        · rw [lineR_yes hq] at HL
          generalize fateR k = F at *
          have e0 : (F == 0) = false := by rw [beq_eq_false_iff_ne]; omega
          clear h hp hr ht hq p hf
          go_enter Try.func10, Try.ntmps10
          go_wp2_with (first | (go_at_call 28; refine (HR.out _).mono ?_; rintro e w1 ⟨rfl, hb⟩; have hs := H0.out.below hb; have ⟨⟨z1, k0, k1, k2⟩, ⟨⟨z2, j0, j1⟩, f0, f1⟩, ⟨⟨z3, i0, i1⟩, g0, g1⟩, hbz⟩ := hs; have HS1 := hide hs; clear hs hb) | (go_at_call 29; refine (HP.out _).mono ?_; rintro e w2 ⟨rfl, hb⟩; have hs := HS1.out.below hb; clear z1 k0 k1 k2 z2 j0 j1 f0 f1 z3 i0 i1 g0 g1 hbz; have ⟨⟨z1, k0, k1, k2⟩, ⟨⟨z2, j0, j1⟩, f0, f1⟩, ⟨⟨z3, i0, i1⟩, g0, g1⟩, hbz⟩ := hs; have HS2 := hide hs; clear hs hb) | (go_at_call 30; refine (HO.out _).mono ?_; rintro e w3 ⟨rfl, hb⟩; have hs := HS2.out.below hb; clear z1 k0 k1 k2 z2 j0 j1 f0 f1 z3 i0 i1 g0 g1 hbz; have ⟨⟨z1, k0, k1, k2⟩, ⟨⟨z2, j0, j1⟩, f0, f1⟩, ⟨⟨z3, i0, i1⟩, g0, g1⟩, hbz⟩ := hs; have HS3 := hide hs; clear hs hb) | (go_at_call 31; refine (HL.out _).mono ?_; rintro e w4 ⟨rfl, hb⟩; have hs := HS3.out.below hb; clear z1 k0 k1 k2 z2 j0 j1 f0 f1 z3 i0 i1 g0 g1 hbz; have ⟨⟨z1, k0, k1, k2⟩, ⟨⟨z2, j0, j1⟩, f0, f1⟩, ⟨⟨z3, i0, i1⟩, g0, g1⟩, hbz⟩ := hs; have HS4 := hide hs; clear hs hb))
          refine bodyPost_ret (v := .tuple #[.agg #[.int .i64 0, .int .i64 0], .int .i64 F, .int .i64 0]) (by simp [results, Try.results10, go_sem, *]) rfl ⟨rfl, ?_⟩
          repeat' (first | with_reducible exact Below.refl _ _ | with_reducible refine Below.setCell ?_ ?_ _ | with_reducible refine Below.alloc ?_ ?_ _ | with_reducible refine below_drewN ?_ _ | with_reducible refine Below.drew ?_ | with_reducible refine Below.trans ?_ (Below.mono (by assumption) ?_) | with_reducible exact Nat.le_refl _ | with_reducible refine Nat.le_trans ?_ (Below.size (by assumption)) | with_reducible refine Nat.le_trans ?_ (size_alloc _ _) | with_reducible refine Nat.le_trans ?_ (size_set _ _ _) | with_reducible refine Nat.le_trans ?_ (size_drewN _ _) | with_reducible refine Nat.le_trans ?_ (size_drew _) | (simp; done) | (simp; omega) | omega)
      · rw [spotR_row h hp hr]
        rw [hr] at HO
        have ht := top_rows hr
        have HL : Hid (∀ W : World, Calls Try.prog 31 #[.agg #[.int .i64 k, .int .i64 a, .int .i64 n], .int .i64 r] W fun e w' => e = .returned (.tuple #[.int .i64 (lineR k a n r).1, .int .i64 (lineR k a n r).2]) ∧ Below W.heap.size W w') := fun W => rline_any h (by omega) (by omega) W
        have hf : fateR k = 1 ∨ fateR k = 2 := by unfold fateR; split <;> simp
        cases hq : takenB k a n r
        · rw [lineR_no hq] at HL
          generalize carryR k a n r = v at *
          clear h hp hr ht hq p hf
          go_enter Try.func10, Try.ntmps10
          go_wp2_with (first | (go_at_call 28; refine (HR.out _).mono ?_; rintro e w1 ⟨rfl, hb⟩; have hs := H0.out.below hb; have ⟨⟨z1, k0, k1, k2⟩, ⟨⟨z2, j0, j1⟩, f0, f1⟩, ⟨⟨z3, i0, i1⟩, g0, g1⟩, hbz⟩ := hs; have HS1 := hide hs; clear hs hb) | (go_at_call 29; refine (HP.out _).mono ?_; rintro e w2 ⟨rfl, hb⟩; have hs := HS1.out.below hb; clear z1 k0 k1 k2 z2 j0 j1 f0 f1 z3 i0 i1 g0 g1 hbz; have ⟨⟨z1, k0, k1, k2⟩, ⟨⟨z2, j0, j1⟩, f0, f1⟩, ⟨⟨z3, i0, i1⟩, g0, g1⟩, hbz⟩ := hs; have HS2 := hide hs; clear hs hb) | (go_at_call 30; refine (HO.out _).mono ?_; rintro e w3 ⟨rfl, hb⟩; have hs := HS2.out.below hb; clear z1 k0 k1 k2 z2 j0 j1 f0 f1 z3 i0 i1 g0 g1 hbz; have ⟨⟨z1, k0, k1, k2⟩, ⟨⟨z2, j0, j1⟩, f0, f1⟩, ⟨⟨z3, i0, i1⟩, g0, g1⟩, hbz⟩ := hs; have HS3 := hide hs; clear hs hb) | (go_at_call 31; refine (HL.out _).mono ?_; rintro e w4 ⟨rfl, hb⟩; have hs := HS3.out.below hb; clear z1 k0 k1 k2 z2 j0 j1 f0 f1 z3 i0 i1 g0 g1 hbz; have ⟨⟨z1, k0, k1, k2⟩, ⟨⟨z2, j0, j1⟩, f0, f1⟩, ⟨⟨z3, i0, i1⟩, g0, g1⟩, hbz⟩ := hs; have HS4 := hide hs; clear hs hb))
          refine bodyPost_ret (v := .tuple #[.agg #[.int .i64 v, .int .i64 c], .int .i64 0, .int .i64 0]) (by simp [results, Try.results10, go_sem, *]) rfl ⟨rfl, ?_⟩
          repeat' (first | with_reducible exact Below.refl _ _ | with_reducible refine Below.setCell ?_ ?_ _ | with_reducible refine Below.alloc ?_ ?_ _ | with_reducible refine below_drewN ?_ _ | with_reducible refine Below.drew ?_ | with_reducible refine Below.trans ?_ (Below.mono (by assumption) ?_) | with_reducible exact Nat.le_refl _ | with_reducible refine Nat.le_trans ?_ (Below.size (by assumption)) | with_reducible refine Nat.le_trans ?_ (size_alloc _ _) | with_reducible refine Nat.le_trans ?_ (size_set _ _ _) | with_reducible refine Nat.le_trans ?_ (size_drewN _ _) | with_reducible refine Nat.le_trans ?_ (size_drew _) | (simp; done) | (simp; omega) | omega)
        · rw [lineR_yes hq] at HL
          generalize fateR k = F at *
          have e0 : (F == 0) = false := by rw [beq_eq_false_iff_ne]; omega
          clear h hp hr ht hq p hf
          go_enter Try.func10, Try.ntmps10
          go_wp2_with (first | (go_at_call 28; refine (HR.out _).mono ?_; rintro e w1 ⟨rfl, hb⟩; have hs := H0.out.below hb; have ⟨⟨z1, k0, k1, k2⟩, ⟨⟨z2, j0, j1⟩, f0, f1⟩, ⟨⟨z3, i0, i1⟩, g0, g1⟩, hbz⟩ := hs; have HS1 := hide hs; clear hs hb) | (go_at_call 29; refine (HP.out _).mono ?_; rintro e w2 ⟨rfl, hb⟩; have hs := HS1.out.below hb; clear z1 k0 k1 k2 z2 j0 j1 f0 f1 z3 i0 i1 g0 g1 hbz; have ⟨⟨z1, k0, k1, k2⟩, ⟨⟨z2, j0, j1⟩, f0, f1⟩, ⟨⟨z3, i0, i1⟩, g0, g1⟩, hbz⟩ := hs; have HS2 := hide hs; clear hs hb) | (go_at_call 30; refine (HO.out _).mono ?_; rintro e w3 ⟨rfl, hb⟩; have hs := HS2.out.below hb; clear z1 k0 k1 k2 z2 j0 j1 f0 f1 z3 i0 i1 g0 g1 hbz; have ⟨⟨z1, k0, k1, k2⟩, ⟨⟨z2, j0, j1⟩, f0, f1⟩, ⟨⟨z3, i0, i1⟩, g0, g1⟩, hbz⟩ := hs; have HS3 := hide hs; clear hs hb) | (go_at_call 31; refine (HL.out _).mono ?_; rintro e w4 ⟨rfl, hb⟩; have hs := HS3.out.below hb; clear z1 k0 k1 k2 z2 j0 j1 f0 f1 z3 i0 i1 g0 g1 hbz; have ⟨⟨z1, k0, k1, k2⟩, ⟨⟨z2, j0, j1⟩, f0, f1⟩, ⟨⟨z3, i0, i1⟩, g0, g1⟩, hbz⟩ := hs; have HS4 := hide hs; clear hs hb))
          refine bodyPost_ret (v := .tuple #[.agg #[.int .i64 0, .int .i64 0], .int .i64 F, .int .i64 0]) (by simp [results, Try.results10, go_sem, *]) rfl ⟨rfl, ?_⟩
          repeat' (first | with_reducible exact Below.refl _ _ | with_reducible refine Below.setCell ?_ ?_ _ | with_reducible refine Below.alloc ?_ ?_ _ | with_reducible refine below_drewN ?_ _ | with_reducible refine Below.drew ?_ | with_reducible refine Below.trans ?_ (Below.mono (by assumption) ?_) | with_reducible exact Nat.le_refl _ | with_reducible refine Nat.le_trans ?_ (Below.size (by assumption)) | with_reducible refine Nat.le_trans ?_ (size_alloc _ _) | with_reducible refine Nat.le_trans ?_ (size_set _ _ _) | with_reducible refine Nat.le_trans ?_ (size_drewN _ _) | with_reducible refine Nat.le_trans ?_ (size_drew _) | (simp; done) | (simp; omega) | omega)
end Go.Proofs.Ytkkoeanjmldmdaa
