/-
  Plain mathematics of floats as their bits: halving step by step is rounding to the even neighbour.
-/
import Derived.WalkKit
namespace Go.Proofs.Ytnjnbhfpgoondaa
open Go.RowKit

/-- What is left behind j halvings. -/
def hx (N : Int) : Nat → Int
  | 0 => N
  | j + 1 => hx N j / 2
/-- The bit that went last. -/
def hb (N : Int) : Nat → Int
  | 0 => 0
  | j + 1 => hx N j % 2
/-- Did a bit go ahead of it? -/
def hm (N : Int) : Nat → Bool
  | 0 => false
  | j + 1 => hm N j || decide (hb N j = 1)
theorem two_pow_pos (j : Nat) : (0 : Int) < 2 ^ j := Int.pow_pos (by decide)
theorem hx_eq (N : Int) (j : Nat) : hx N j = N / 2 ^ j := by
  induction j with
  | zero => simp [hx]
  | succ j ih =>
    show hx N j / 2 = _
    rw [ih, Int.pow_succ, Int.ediv_ediv_of_nonneg (Int.le_of_lt (two_pow_pos j))]
theorem hx_rest (N : Int) (j : Nat) : N % 2 ^ (j + 1) = hx N j % 2 * 2 ^ j + N % 2 ^ j := by
  rw [hx_eq]
  have p := two_pow_pos j
  have h1 := Int.mul_ediv_add_emod N (2 ^ j)
  have h2 := Int.mul_ediv_add_emod (N / 2 ^ j) 2
  have h3 := Int.mul_ediv_add_emod N (2 ^ (j + 1))
  rw [Int.pow_succ] at h3 ⊢
  rw [← Int.ediv_ediv_of_nonneg (Int.le_of_lt p)] at h3
  generalize N / 2 ^ j = q at *
  have e : 2 ^ j * 2 * (q / 2) = 2 ^ j * (2 * (q / 2)) := Int.mul_assoc _ _ _
  have e2 : 2 ^ j * q = 2 ^ j * (2 * (q / 2)) + 2 ^ j * (q % 2) := by rw [← Int.mul_add, h2]
  have e3 : q % 2 * 2 ^ j = 2 ^ j * (q % 2) := Int.mul_comm _ _
  omega
theorem hb_bit {N : Int} (j : Nat) : hb N j = 0 ∨ hb N j = 1 := by
  cases j with
  | zero => exact Or.inl rfl
  | succ j => show hx N j % 2 = 0 ∨ hx N j % 2 = 1; omega
theorem hm_iff (N : Int) (j : Nat) : (hm N j || decide (hb N j = 1)) = true ↔ N % 2 ^ j ≠ 0 := by
  induction j with
  | zero => simp [hm, hb]
  | succ j ih =>
    have hr := hx_rest N j
    have p := two_pow_pos j
    have hmm : hm N (j + 1) = true ↔ N % 2 ^ j ≠ 0 := ih
    have r0 := Int.emod_nonneg N (b := 2 ^ j) (by omega)
    have hbv : hb N (j + 1) = hx N j % 2 := rfl
    rw [hr, Bool.or_eq_true, hmm, decide_eq_true_eq, hbv]
    have hb2 : hx N j % 2 = 0 ∨ hx N j % 2 = 1 := by omega
    rcases hb2 with e | e
    · rw [e]; simp
    · rw [e, Int.one_mul]; constructor
      · intro _; omega
      · intro _; exact Or.inr rfl
/-- Halving j times, and up or not by the bits that went, is rounding to the even neighbour. -/
theorem half_steps (N : Int) (j : Nat) : (if 2 ^ j < 2 * (N % 2 ^ j) ∨ (2 * (N % 2 ^ j) = 2 ^ j ∧ N / 2 ^ j % 2 = 1) then N / 2 ^ j + 1 else N / 2 ^ j) =
    if hb N j = 1 ∧ (hm N j = true ∨ hx N j % 2 = 1) then hx N j + 1 else hx N j := by
  rw [← hx_eq]
  cases j with
  | zero =>
    have : (N % 2 ^ 0 : Int) = 0 := by simp
    rw [this]
    simp [hb]
  | succ j =>
    have hr := hx_rest N j
    have p := two_pow_pos j
    have r0 := Int.emod_nonneg N (b := 2 ^ j) (by omega)
    have r1 := Int.emod_lt_of_pos N p
    have hmm : hm N (j + 1) = true ↔ N % 2 ^ j ≠ 0 := hm_iff N j
    have hbv : hb N (j + 1) = hx N j % 2 := rfl
    rw [hr, hbv, Int.pow_succ]
    have hb2 : hx N j % 2 = 0 ∨ hx N j % 2 = 1 := by omega
    generalize hx N (j + 1) = q at *
    generalize N % 2 ^ j = r at *
    generalize (2 : Int) ^ j = P at *
    rcases hb2 with e | e
    · rw [e]
      rw [if_neg (by omega), if_neg (fun h => absurd h.1 (by decide))]
    · rw [e]
      by_cases c : r ≠ 0
      · rw [if_pos (by omega), if_pos ⟨rfl, Or.inl (hmm.2 c)⟩]
      · by_cases c2 : q % 2 = 1
        · rw [if_pos (by omega), if_pos ⟨rfl, Or.inr c2⟩]
        · rw [if_neg (by omega), if_neg (fun h => h.2.elim (fun h1 => c (hmm.1 h1)) c2)]
end Go.Proofs.Ytnjnbhfpgoondaa
