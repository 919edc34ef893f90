/-
  The contracts of the answer's Div and Mod.
-/
import Derived.Test.YtjhldifilfkebabDoorRefRound2
namespace Go.Proofs.YtjhldifilfkebabDoor
open Go.RowKit

theorem quoR_eq {N d : Int} (neg : Bool) (hN : 0 ≤ N) (hd : 0 < d) : quoR N d neg = if 1000000000000000000 < halfEven N d then (0, 3) else (put neg (halfEven N d), 0) := by
  have h0 := halfEven_nn hN hd
  unfold quoR nearN
  by_cases h : 1000000000000000000 < N / d
  · have : N / d ≤ halfEven N d := by unfold halfEven; split <;> omega
    rw [if_pos h, if_neg (by decide), if_pos (by omega)]
  · rw [if_neg h, if_pos rfl]; exact told_put neg h0

theorem step_quo {A B q r : Int} (hB : 0 < B) (h1 : A / B = q) (h2 : A % B = r) : A * 10 / B = 10 * q + 10 * r / B ∧ A * 10 % B = 10 * r % B := by
  have e := Int.mul_ediv_add_emod A B
  rw [h1, h2] at e
  have e2 : A * 10 = 10 * r + 10 * q * B := by rw [← e, Int.mul_assoc, Int.mul_comm q B]; omega
  constructor
  · rw [e2, Int.add_mul_ediv_right _ _ (Int.ne_of_gt hB)]; omega
  · rw [e2, Int.add_mul_emod_self_right]

theorem quo_lt {A B p : Int} (hB : 0 < B) (hp : 0 < p) (h : A / B ≤ 1000000000000) : A * p / B < 1000000000001 * p := by
  refine Int.ediv_lt_of_lt_mul hB ?_
  have h1 : A < 1000000000001 * B := by
    have := Int.lt_ediv_add_one_mul_self A hB
    have h3 : (A / B + 1) * B ≤ 1000000000001 * B := Int.mul_le_mul_of_nonneg_right (by omega) (by omega)
    omega
  have h2 : A * p < 1000000000001 * B * p := Int.mul_lt_mul_of_pos_right h1 hp
  rw [Int.mul_right_comm] at h2; exact h2

theorem divR_bad1 {a b : Int} (h : fitsB a = false) : divR a b = (0, 2) := by simp [divR, divisR, h]
theorem divR_bad2 {a b : Int} (h : fitsB b = false) : divR a b = (0, 2) := by simp [divR, divisR, h]
theorem divR_zero {a b : Int} (h1 : fitsB a = true) (h2 : fitsB b = true) (h : b = 0) : divR a b = (0, 4) := by
  have e : divisR a b = 4 := by unfold divisR; rw [h1, h2]; simp [h]
  unfold divR; rw [e]; rfl
theorem modR_bad1 {a b : Int} (h : fitsB a = false) : modR a b = (0, 2) := by simp [modR, divisR, h]
theorem modR_bad2 {a b : Int} (h : fitsB b = false) : modR a b = (0, 2) := by simp [modR, divisR, h]
theorem modR_zero {a b : Int} (h1 : fitsB a = true) (h2 : fitsB b = true) (h : b = 0) : modR a b = (0, 4) := by
  have e : divisR a b = 4 := by unfold divisR; rw [h1, h2]; simp [h]
  unfold modR; rw [e]; rfl
theorem modR_good {a b : Int} (h1 : fitsB a = true) (h2 : fitsB b = true) (h : b ≠ 0) : modR a b = (fmodR a b, 0) := by
  have e : divisR a b = 0 := by unfold divisR; rw [h1, h2]; simp [h]
  unfold modR; rw [e]; rfl

end Go.Proofs.YtjhldifilfkebabDoor
