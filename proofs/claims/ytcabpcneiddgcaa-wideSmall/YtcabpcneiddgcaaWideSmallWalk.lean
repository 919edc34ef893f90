/-
  The walk of WideSmall: for every two numbers it returns true.
-/
import Derived.Test.YtcabpcneiddgcaaWideLaws2
import Derived.Test.YtcabpcneiddgcaaWide2
namespace Go.Proofs.Ytcabpcneiddgcaa
open Go.RowKit

theorem addR_cases (a b : Int) : ((addR a b).2 ≠ 0 ∧ (addR a b).1 = 0) ∨ (addR a b = (a + b, 0) ∧ fitsB a = true ∧ fitsB b = true ∧ fitsB (a + b) = true) := by
  unfold addR
  split
  · rename_i h
    rw [Bool.and_eq_true] at h
    unfold told
    split
    · rename_i k; exact .inr ⟨rfl, h.1, h.2, k⟩
    · exact .inl ⟨by decide, rfl⟩
  · exact .inl ⟨by decide, rfl⟩
theorem small_1 {a : Int} (f : fitsB a = true) : addW 0 0 a = (a / 1000000000000000000, a % 1000000000000000000, 0) := by
  have := fitsB_true f
  rw [addW_yes (by decide) f, Int.zero_add, madeR_yes (by omega) (by omega), Int.zero_add]
theorem small_2 {a b : Int} (f : fitsB a = true) (g : fitsB b = true) (k : fitsB (a + b) = true) : addW (a / 1000000000000000000) (a % 1000000000000000000) b = ((a + b) / 1000000000000000000, (a + b) % 1000000000000000000, 0) := by
  have := fitsB_true f
  have := fitsB_true k
  rw [addW_yes (rightB_of (by omega) (by omega) (by omega) (by omega)) g, madeR_yes (by omega) (by omega)]
  rw [show a / 1000000000000000000 + (a % 1000000000000000000 + b) / 1000000000000000000 = (a + b) / 1000000000000000000 by omega, show (a % 1000000000000000000 + b) % 1000000000000000000 = (a + b) % 1000000000000000000 by omega]
theorem small_3 {s : Int} (k : fitsB s = true) : totalW (s / 1000000000000000000) (s % 1000000000000000000) = (s, 0) := by
  have := fitsB_true k
  unfold totalW
  rw [if_pos (rightB_of (by omega) (by omega) (by omega) (by omega)), show s / 1000000000000000000 * 1000000000000000000 + s % 1000000000000000000 = s by omega, told_yes k]

set_option maxHeartbeats 2000000 in
theorem wideSmall_walk (a b : Int) (w : World) (_ : (Lit.int .i64 a).wf = true) (_ : (Lit.int .i64 b).wf = true) :
    Calls Try.prog 7 #[.int .i64 a, .int .i64 b] w fun e w' => e = .returned (.bool true) ∧ Below w.heap.size w w' := by
  have HA : Hid (∀ W : World, Calls Try.prog 24 #[.int .i64 a, .int .i64 b] W fun e w' => e = .returned (.tuple #[.int .i64 (addR a b).1, .int .i64 (addR a b).2]) ∧ w' = W) := fun W => add_any a b W
  rcases addR_cases a b with ⟨k1, k2⟩ | ⟨k1, f, g, k⟩
  · rw [k2] at HA
    have t1 : ((addR a b).2 == 0) = false := by simpa using k1
    generalize (addR a b).2 = e at *
    clear k1 k2
    go_enter Try.func7, Try.ntmps7
    go_wp2_with (first | (go_at_call 24; refine (HA.out _).mono ?_; rintro e wz ⟨rfl, hz⟩; subst wz) | (go_at_call 17; refine (lives3_any _).mono ?_; rintro e w3 ⟨rfl, hb3⟩))
    go_ret
    refine ⟨rfl, ?_⟩
    repeat' (first | with_reducible exact Below.refl _ _ | with_reducible refine Below.setCell ?_ ?_ _ | with_reducible refine Below.alloc ?_ ?_ _ | with_reducible refine below_drewN ?_ _ | with_reducible refine Below.drew ?_ | with_reducible refine Below.trans ?_ (Below.mono (by assumption) ?_) | with_reducible exact Nat.le_refl _ | with_reducible refine Nat.le_trans ?_ (Below.size (by assumption)) | with_reducible refine Nat.le_trans ?_ (size_alloc _ _) | with_reducible refine Nat.le_trans ?_ (size_set _ _ _) | with_reducible refine Nat.le_trans ?_ (size_drewN _ _) | with_reducible refine Nat.le_trans ?_ (size_drew _) | (simp; done) | (simp; omega) | omega)
  · rw [k1] at HA
    have H1 : Hid (∀ W : World, Calls Try.prog 9 #[.agg #[.int .i64 0, .int .i64 0], .int .i64 a] W fun e w' => e = .returned (.tuple #[.agg #[.int .i64 (addW 0 0 a).1, .int .i64 (addW 0 0 a).2.1], .int .i64 (addW 0 0 a).2.2]) ∧ Below W.heap.size W w') := fun W => addW_any 0 0 a W
    rw [small_1 f] at H1
    have H2 : Hid (∀ W : World, Calls Try.prog 9 #[.agg #[.int .i64 (a / 1000000000000000000), .int .i64 (a % 1000000000000000000)], .int .i64 b] W fun e w' => e = .returned (.tuple #[.agg #[.int .i64 (addW (a / 1000000000000000000) (a % 1000000000000000000) b).1, .int .i64 (addW (a / 1000000000000000000) (a % 1000000000000000000) b).2.1], .int .i64 (addW (a / 1000000000000000000) (a % 1000000000000000000) b).2.2]) ∧ Below W.heap.size W w') := fun W => addW_any _ _ b W
    rw [small_2 f g k] at H2
    have H3 : Hid (∀ W : World, Calls Try.prog 18 #[.agg #[.int .i64 ((a + b) / 1000000000000000000), .int .i64 ((a + b) % 1000000000000000000)]] W fun e w' => e = .returned (.tuple #[.int .i64 (totalW ((a + b) / 1000000000000000000) ((a + b) % 1000000000000000000)).1, .int .i64 (totalW ((a + b) / 1000000000000000000) ((a + b) % 1000000000000000000)).2]) ∧ Below W.heap.size W w') := fun W => totalW_any _ _ W
    rw [small_3 k] at H3
    generalize (a + b) / 1000000000000000000 = x at *
    generalize (a + b) % 1000000000000000000 = y at *
    generalize a / 1000000000000000000 = u at *
    generalize a % 1000000000000000000 = v at *
    generalize a + b = s at *
    clear k1 f g k
    go_enter Try.func7, Try.ntmps7
    go_wp2_with (first | (go_at_call 24; refine (HA.out _).mono ?_; rintro e wz ⟨rfl, hz⟩; subst wz))
    refine (H1.out _).mono ?_
    rintro e w1 ⟨rfl, hb1⟩
    go_wp2_with fail
    refine (H2.out _).mono ?_
    rintro e w2 ⟨rfl, hb2⟩
    have B2 : Below w.heap.size w w2 := by
      repeat' (first | with_reducible exact Below.refl _ _ | with_reducible refine Below.setCell ?_ ?_ _ | with_reducible refine Below.alloc ?_ ?_ _ | with_reducible refine below_drewN ?_ _ | with_reducible refine Below.drew ?_ | with_reducible refine Below.trans ?_ (Below.mono (by assumption) ?_) | with_reducible exact Nat.le_refl _ | with_reducible refine Nat.le_trans ?_ (Below.size (by assumption)) | with_reducible refine Nat.le_trans ?_ (size_alloc _ _) | with_reducible refine Nat.le_trans ?_ (size_set _ _ _) | with_reducible refine Nat.le_trans ?_ (size_drewN _ _) | with_reducible refine Nat.le_trans ?_ (size_drew _) | (simp; done) | (simp; omega) | omega)
    clear hb1 hb2
    go_wp2_with fail
    refine (H3.out _).mono ?_
    rintro e w3 ⟨rfl, hb3⟩
    have B3 : Below w.heap.size w w3 := by
      repeat' (first | with_reducible exact Below.refl _ _ | with_reducible refine Below.setCell ?_ ?_ _ | with_reducible refine Below.alloc ?_ ?_ _ | with_reducible refine below_drewN ?_ _ | with_reducible refine Below.drew ?_ | with_reducible refine Below.trans ?_ (Below.mono (by assumption) ?_) | with_reducible exact Nat.le_refl _ | with_reducible refine Nat.le_trans ?_ (Below.size (by assumption)) | with_reducible refine Nat.le_trans ?_ (size_alloc _ _) | with_reducible refine Nat.le_trans ?_ (size_set _ _ _) | with_reducible refine Nat.le_trans ?_ (size_drewN _ _) | with_reducible refine Nat.le_trans ?_ (size_drew _) | (simp; done) | (simp; omega) | omega)
    clear B2 hb3
    go_wp2_with (go_at_call 17; refine (lives3_any _).mono ?_; rintro e w4 ⟨rfl, hb4⟩)
    go_ret
    refine ⟨rfl, ?_⟩
    repeat' (first | with_reducible exact Below.refl _ _ | with_reducible refine Below.setCell ?_ ?_ _ | with_reducible refine Below.alloc ?_ ?_ _ | with_reducible refine below_drewN ?_ _ | with_reducible refine Below.drew ?_ | with_reducible refine Below.trans ?_ (Below.mono (by assumption) ?_) | with_reducible exact Nat.le_refl _ | with_reducible refine Nat.le_trans ?_ (Below.size (by assumption)) | with_reducible refine Nat.le_trans ?_ (size_alloc _ _) | with_reducible refine Nat.le_trans ?_ (size_set _ _ _) | with_reducible refine Nat.le_trans ?_ (size_drewN _ _) | with_reducible refine Nat.le_trans ?_ (size_drew _) | (simp; done) | (simp; omega) | omega)
end Go.Proofs.Ytcabpcneiddgcaa
