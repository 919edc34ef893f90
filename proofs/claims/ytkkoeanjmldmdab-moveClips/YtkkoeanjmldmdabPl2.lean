/-
  The contracts of place's Meet, In, Area.
-/
import Derived.Test.YtkkoeanjmldmdabPl1
namespace Go.Proofs.Ytkkoeanjmldmdab
open Go.RowKit

theorem meetR_no {t l b r t' l' b' r' : Int} (h : rightB t l b r = false ∨ rightB t' l' b' r' = false ∨ rightB (max t t') (max l l') (min b b') (min r r') = false) : meetR t l b r t' l' b' r' = (0, 0, 0, 0, false) := by
  unfold meetR; rcases h with h | h | h <;> simp [h]
theorem meetR_yes {t l b r t' l' b' r' : Int} (h1 : rightB t l b r = true) (h2 : rightB t' l' b' r' = true) (h3 : rightB (max t t') (max l l') (min b b') (min r r') = true) : meetR t l b r t' l' b' r' = (max t t', max l l', min b b', min r r', true) := by
  unfold meetR; simp [h1, h2, h3]
theorem three {w w' : World} {p q s : Nat} {t l b r t' l' b' r' x y u v : Int} (h : At4 w p t l b r ∧ At4 w q t' l' b' r' ∧ Has4 w s x y u v) (k : Below w.heap.size w w') : At4 w' p t l b r ∧ At4 w' q t' l' b' r' ∧ Has4 w' s x y u v :=
  ⟨h.1.below k, h.2.1.below k, h.2.2.below k⟩
theorem three_alloc {w : World} {p q s : Nat} {t l b r t' l' b' r' x y u v : Int} (h : At4 w p t l b r ∧ At4 w q t' l' b' r' ∧ Has4 w s x y u v) (o : Obj) : At4 (w.alloc o) p t l b r ∧ At4 (w.alloc o) q t' l' b' r' ∧ Has4 (w.alloc o) s x y u v :=
  ⟨h.1.alloc o, h.2.1.alloc o, h.2.2.alloc o⟩

theorem meet_in (t l b r x y : Int) : (meetR t l b r x y x y).2.2.2.2 = inB t l b r x y := by
  cases h1 : rightB t l b r
  · rw [meetR_no (Or.inl h1)]; simp [inB, h1]
  · have g1 := rightB_iff.1 h1
    cases h2 : inB t l b r x y
    · by_cases h3 : rightB x y x y = true
      · rw [meetR_no (Or.inr (Or.inr (rightB_no.2 ?_)))]
        have g3 := rightB_iff.1 h3
        have : ¬ (t ≤ x ∧ x ≤ b ∧ l ≤ y ∧ y ≤ r) := fun h => by rw [inB_iff.2 ⟨h1, h⟩] at h2; cases h2
        omega
      · rw [meetR_no (Or.inr (Or.inl (by simpa using h3)))]
    · obtain ⟨_, a, b', c, d⟩ := inB_iff.1 h2
      rw [meetR_yes h1 (rightB_iff.2 (by omega)) (rightB_iff.2 (by omega))]
theorem areaR_yes {t l b r : Int} (h : rightB t l b r = true) : areaR t l b r = ((b - t + 1) * (r - l + 1), 0) := by simp [areaR, h]
theorem areaR_no {t l b r : Int} (h : rightB t l b r = false) : areaR t l b r = (0, 2) := by simp [areaR, h]
set_option maxHeartbeats 1000000 in
theorem area_any (t l b r : Int) (w : World) :
    Calls Try.prog 7 #[.agg #[.int .i64 t, .int .i64 l, .int .i64 b, .int .i64 r]] w fun e w' => e = .returned (.tuple #[.int .i64 (areaR t l b r).1, .int .i64 (areaR t l b r).2]) ∧ Below w.heap.size w w' := by
  have HA : Hid (∀ W : World, Calls Try.prog 9 #[.agg #[.int .i64 t, .int .i64 l, .int .i64 b, .int .i64 r]] W fun e w' => e = .returned (.int .i64 (checkR t l b r)) ∧ Below W.heap.size W w') := fun W => check_any _ _ _ _ W
  cases h : rightB t l b r
  · rw [areaR_no h]
    rw [checkR_no h] at HA
    clear h
    go_enter Try.func7, Try.ntmps7
    go_wp2_with (go_at_call 9; refine (HA.out _).mono ?_; rintro e w1 ⟨rfl, hb1⟩; have ⟨z1, k0, k1, k2, k3⟩ := (At4.new w t l b r 26).below hb1)
    go_ret2
    refine ⟨rfl, ?_⟩
    repeat' (first | with_reducible exact Below.refl _ _ | with_reducible refine Below.setCell ?_ ?_ _ | with_reducible refine Below.alloc ?_ ?_ _ | with_reducible refine below_drewN ?_ _ | with_reducible refine Below.drew ?_ | with_reducible refine Below.trans ?_ (Below.mono (by assumption) ?_) | with_reducible exact Nat.le_refl _ | with_reducible refine Nat.le_trans ?_ (Below.size (by assumption)) | with_reducible refine Nat.le_trans ?_ (size_alloc _ _) | with_reducible refine Nat.le_trans ?_ (size_set _ _ _) | with_reducible refine Nat.le_trans ?_ (size_drewN _ _) | with_reducible refine Nat.le_trans ?_ (size_drew _) | (simp; done) | (simp; omega) | omega)
  · rw [areaR_yes h]
    rw [checkR_yes h] at HA
    obtain ⟨g1, g2, g3, g4, g5, g6⟩ := rightB_iff.1 h
    have ga := area_small h
    clear h
    go_enter Try.func7, Try.ntmps7
    go_wp2_with (go_at_call 9; refine (HA.out _).mono ?_; rintro e w1 ⟨rfl, hb1⟩; have ⟨z1, k0, k1, k2, k3⟩ := (At4.new w t l b r 26).below hb1)
    go_ret2
    refine ⟨rfl, ?_⟩
    repeat' (first | with_reducible exact Below.refl _ _ | with_reducible refine Below.setCell ?_ ?_ _ | with_reducible refine Below.alloc ?_ ?_ _ | with_reducible refine below_drewN ?_ _ | with_reducible refine Below.drew ?_ | with_reducible refine Below.trans ?_ (Below.mono (by assumption) ?_) | with_reducible exact Nat.le_refl _ | with_reducible refine Nat.le_trans ?_ (Below.size (by assumption)) | with_reducible refine Nat.le_trans ?_ (size_alloc _ _) | with_reducible refine Nat.le_trans ?_ (size_set _ _ _) | with_reducible refine Nat.le_trans ?_ (size_drewN _ _) | with_reducible refine Nat.le_trans ?_ (size_drew _) | (simp; done) | (simp; omega) | omega)
end Go.Proofs.Ytkkoeanjmldmdab
