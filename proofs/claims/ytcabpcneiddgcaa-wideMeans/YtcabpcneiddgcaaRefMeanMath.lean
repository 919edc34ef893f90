/-
  The mathematics of the answer's Mean: digit by digit, without the sign.
-/
import Derived.Test.YtcabpcneiddgcaaWide9
namespace Go.Proofs.Ytcabpcneiddgcaa
open Go.RowKit

theorem halfEven_minus (N c : Int) (hc : 0 < c) : halfEven (-N) c = -halfEven N c := by
  have a : N = c * (N / c) + N % c := (Int.mul_ediv_add_emod N c).symm
  have b0 : 0 ≤ N % c := Int.emod_nonneg _ (by omega)
  have b1 : N % c < c := Int.emod_lt_of_pos _ hc
  by_cases z : N % c = 0
  · have u := (Int.ediv_emod_unique hc (a := -N) (r := 0) (q := -(N / c))).2 ⟨by rw [Int.mul_neg]; omega, by omega, by omega⟩
    unfold halfEven
    rw [u.1, u.2, z, if_neg (by omega), if_neg (by omega)]
  · have u := (Int.ediv_emod_unique hc (a := -N) (r := c - N % c) (q := -(N / c) - 1)).2 ⟨by rw [Int.mul_sub, Int.mul_neg]; omega, by omega, by omega⟩
    unfold halfEven
    rw [u.1, u.2]
    generalize N / c = q at *
    generalize N % c = r at *
    clear u a
    split <;> split <;> omega

/-- A sum without its sign. -/
def sizeH (h l : Int) : Int := if 0 ≤ h then h else if l = 0 then -h else -h - 1
def sizeL (h l : Int) : Int := if 0 ≤ h then l else if l = 0 then 0 else 1000000000000000000 - l
theorem size_pos {h l : Int} (k : 0 ≤ h) : sizeH h l * 1000000000000000000 + sizeL h l = h * 1000000000000000000 + l := by
  unfold sizeH sizeL; rw [if_pos k, if_pos k]
theorem size_neg {h l : Int} (k : h < 0) : sizeH h l * 1000000000000000000 + sizeL h l = -(h * 1000000000000000000 + l) := by
  have k2 : ¬ 0 ≤ h := by omega
  unfold sizeH sizeL; rw [if_neg k2, if_neg k2]; split <;> omega
theorem size_bd {h l : Int} (r : rightB h l = true) : 0 ≤ sizeH h l ∧ sizeH h l ≤ 2147483648 ∧ 0 ≤ sizeL h l ∧ sizeL h l < 1000000000000000000 := by
  obtain ⟨r1, r2, r3, r4⟩ := rightB_true r
  unfold sizeH sizeL
  split
  · omega
  · split <;> omega

/-- Ten to the k. -/
def ten (k : Nat) : Int := 10 ^ k
theorem ten_pos (k : Nat) : 0 < ten k := by unfold ten; exact Int.pow_pos (by decide)
theorem ten_succ (k : Nat) : ten (k + 1) = ten k * 10 := by unfold ten; exact Int.pow_succ ..
theorem ten_mono {j k : Nat} (h : j ≤ k) : ten j ≤ ten k := by
  induction k with
  | zero => rw [show j = 0 by omega]; exact Int.le_refl _
  | succ n ih =>
    by_cases c : j ≤ n
    · have := ih c; have := ten_pos n; rw [ten_succ]; omega
    · rw [show j = n + 1 by omega]; exact Int.le_refl _
theorem ten_18 : ten 18 = 1000000000000000000 := by decide
theorem ten_17 : ten 17 = 100000000000000000 := by decide

/-- What has been read of High and Low after k digits. -/
def read (H L : Int) (k : Nat) : Int := H * ten k + L / ten (18 - k)
theorem read_0 {H L : Int} (l0 : 0 ≤ L) (l1 : L < 1000000000000000000) : read H L 0 = H := by
  unfold read
  rw [show 18 - 0 = 18 from rfl, ten_18, show ten 0 = 1 by decide, Int.mul_one]; omega
theorem read_18 (H L : Int) : read H L 18 = H * 1000000000000000000 + L := by
  unfold read
  rw [ten_18, show 18 - 18 = 0 from rfl, show ten 0 = 1 by decide]; omega
theorem read_step (H L : Int) (k : Nat) (hk : k < 18) : read H L (k + 1) = 10 * read H L k + L / ten (17 - k) % 10 := by
  unfold read
  have e : 18 - k = (17 - k) + 1 := by omega
  have e2 : 18 - (k + 1) = 17 - k := by omega
  rw [e2, e, ten_succ, ten_succ, ← Int.ediv_ediv_of_nonneg (Int.le_of_lt (ten_pos _)), ← Int.mul_assoc]
  generalize L / ten (17 - k) = a
  generalize H * ten k = b
  omega
theorem read_nn {H L : Int} (h0 : 0 ≤ H) (l0 : 0 ≤ L) (k : Nat) : 0 ≤ read H L k := by
  unfold read
  have a := Int.mul_nonneg h0 (Int.le_of_lt (ten_pos k))
  have b := Int.ediv_nonneg l0 (Int.le_of_lt (ten_pos (18 - k)))
  omega
/-- One digit more: quotient and rest. -/
theorem digit_step {P c d : Int} (hc : 0 < c) : (10 * P + d) / c = 10 * (P / c) + (10 * (P % c) + d) / c ∧ (10 * P + d) % c = (10 * (P % c) + d) % c := by
  have a : P = c * (P / c) + P % c := (Int.mul_ediv_add_emod P c).symm
  have e : 10 * P + d = (10 * (P % c) + d) + c * (10 * (P / c)) := by
    have : c * (10 * (P / c)) = 10 * (c * (P / c)) := by rw [Int.mul_left_comm]
    rw [this]; omega
  rw [e]
  refine ⟨?_, Int.add_mul_emod_self_left _ _ _⟩
  rw [Int.add_mul_ediv_left _ _ (by omega)]; omega
theorem read_lt {H L c : Int} (hc : 0 < c) (h1 : H / c ≤ 1) (l1 : L < 1000000000000000000) (k : Nat) (hk : k ≤ 18) : read H L k / c < 2 * ten k := by
  have hH : H < 2 * c := by
    have a : H = c * (H / c) + H % c := (Int.mul_ediv_add_emod H c).symm
    have b1 : H % c < c := Int.emod_lt_of_pos _ hc
    have : c * (H / c) ≤ c * 1 := Int.mul_le_mul_of_nonneg_left h1 (by omega)
    omega
  have t := ten_pos k
  have tl : L / ten (18 - k) < ten k := by
    apply Int.ediv_lt_of_lt_mul (ten_pos _)
    have : ten k * ten (18 - k) = ten 18 := by unfold ten; rw [← Int.pow_add, show k + (18 - k) = 18 by omega]
    rw [this, ten_18]; exact l1
  apply Int.ediv_lt_of_lt_mul hc
  unfold read
  have m : H * ten k ≤ (2 * c - 1) * ten k := Int.mul_le_mul_of_nonneg_right (by omega) (by omega)
  have e : (2 * c - 1) * ten k = 2 * ten k * c - ten k := by rw [Int.sub_mul, Int.one_mul, Int.mul_right_comm]
  omega
end Go.Proofs.Ytcabpcneiddgcaa
