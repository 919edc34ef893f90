/-
  The mean's mathematics, and the contract of wide.Mean.
-/
import Derived.Test.YtcabpcneiddgcaaWide8
namespace Go.Proofs.Ytcabpcneiddgcaa
open Go.RowKit

/-- Rounding half to even goes along with a shift by an even number of d's. -/
theorem halfEven_shift (N d K : Int) (hd : 0 < d) : halfEven (N + d * (2 * K)) d = halfEven N d + 2 * K := by
  have e1 : (N + d * (2 * K)) / d = N / d + 2 * K := Int.add_mul_ediv_left _ _ (by omega)
  have e2 : (N + d * (2 * K)) % d = N % d := Int.add_mul_emod_self_left _ _ _
  unfold halfEven
  rw [e1, e2, show (N / d + 2 * K) % 2 = N / d % 2 by omega]
  split <;> omega
theorem halfEven_le1 (N d : Int) : N / d ≤ halfEven N d ∧ halfEven N d ≤ N / d + 1 := by
  unfold halfEven; split <;> omega
/-- The sum's parts over a count. -/
theorem mean_parts (h l c : Int) : h * 1000000000000000000 + l = (h % c * 1000000000000000000 + l) + c * (2 * (h / c * 500000000000000000)) := by
  have e : h = c * (h / c) + h % c := (Int.mul_ediv_add_emod h c).symm
  have e2 : c * (2 * (h / c * 500000000000000000)) = c * (h / c) * 1000000000000000000 := by
    rw [show 2 * (h / c * 500000000000000000) = h / c * 1000000000000000000 by omega, Int.mul_assoc]
  rw [e2]
  generalize c * (h / c) = X at *
  omega
theorem mean_value {h l c x : Int} (hc : 0 < c) (hx : x = halfEven (h % c * 1000000000000000000 + l) c) :
    (x / 1000000000000000000 + h / c) * 1000000000000000000 + x % 1000000000000000000 = halfEven (h * 1000000000000000000 + l) c := by
  have e := halfEven_shift (h % c * 1000000000000000000 + l) c (h / c * 500000000000000000) hc
  rw [← mean_parts h l c, ← hx] at e
  rw [e]
  omega
/-- The low part of the mean: it stays below 10^18, or the count is above 1. -/
theorem mean_low {h l c : Int} (c0 : 1 ≤ c) (l0 : 0 ≤ l) (l1 : l < 1000000000000000000) :
    0 ≤ halfEven (h % c * 1000000000000000000 + l) c ∧ halfEven (h % c * 1000000000000000000 + l) c ≤ 1000000000000000000 ∧ (c = 1 → halfEven (h % c * 1000000000000000000 + l) c < 1000000000000000000) := by
  have m0 : 0 ≤ h % c := Int.emod_nonneg _ (by omega)
  have m1 : h % c < c := Int.emod_lt_of_pos _ (by omega)
  have n0 : 0 ≤ h % c * 1000000000000000000 + l := by omega
  have n1 : h % c * 1000000000000000000 + l < 1000000000000000000 * c := by omega
  have q0 : 0 ≤ (h % c * 1000000000000000000 + l) / c := Int.ediv_nonneg n0 (by omega)
  have q1 : (h % c * 1000000000000000000 + l) / c < 1000000000000000000 := Int.ediv_lt_of_lt_mul (by omega) n1
  have b := halfEven_le1 (h % c * 1000000000000000000 + l) c
  refine ⟨by omega, by omega, ?_⟩
  intro e
  subst e
  unfold halfEven
  rw [if_neg (by omega)]
  omega
theorem mean_right {h l c x : Int} (r : rightB h l = true) (c0 : 1 ≤ c) (hx : x = halfEven (h % c * 1000000000000000000 + l) c) :
    rightB (x / 1000000000000000000 + h / c) (x % 1000000000000000000) = true := by
  obtain ⟨r1, r2, r3, r4⟩ := rightB_true r
  obtain ⟨b1, b2, b3⟩ := mean_low (h := h) c0 r1 r2
  rw [← hx] at b1 b2 b3
  have d1 : -2147483648 ≤ h / c := by
    rw [Int.le_ediv_iff_mul_le (by omega)]
    have : (-2147483648) * c ≤ -2147483648 := by omega
    omega
  by_cases k : c = 1
  · have := b3 k
    subst k
    exact rightB_of (by omega) (by omega) (by omega) (by omega)
  · have d2 : h / c < 2147483647 := by
      apply Int.ediv_lt_of_lt_mul (by omega)
      omega
    exact rightB_of (by omega) (by omega) (by omega) (by omega)

set_option maxHeartbeats 400000 in
theorem nearW_any (h l c : Int) (w : World) (r : rightB h l = true) (c0 : 1 ≤ c) (c1 : c ≤ 2147483648) (x : Int) (hx : x = halfEven (h % c * 1000000000000000000 + l) c) :
    Calls Try.prog 33 #[.agg #[.int .i64 h, .int .i64 l], .int .i64 c] w fun e w' => e = .returned (.agg #[.int .i64 (x / 1000000000000000000 + h / c), .int .i64 (x % 1000000000000000000)]) ∧ Below w.heap.size w w' := by
  obtain ⟨r1, r2, r3, r4⟩ := rightB_true r
  obtain ⟨b1, b2, b3⟩ := mean_low (h := h) c0 r1 r2
  rw [← hx] at b1 b2 b3
  have m0 : 0 ≤ h % c := Int.emod_nonneg _ (by omega)
  have m1 : h % c < c := Int.emod_lt_of_pos _ (by omega)
  have n0 : 0 ≤ h % c * 1000000000000000000 + l := by omega
  have n1 : h % c * 1000000000000000000 + l < c * 1000000000000000000 := by omega
  have q0 : 0 ≤ (h % c * 1000000000000000000 + l) / c := Int.ediv_nonneg n0 (by omega)
  have q1 : (h % c * 1000000000000000000 + l) / c < 1000000000000000000 := Int.ediv_lt_of_lt_mul (by omega) (by omega)
  have s0 : 0 ≤ (h % c * 1000000000000000000 + l) % c := Int.emod_nonneg _ (by omega)
  have s1 : (h % c * 1000000000000000000 + l) % c < c := Int.emod_lt_of_pos _ (by omega)
  have d1 : -2147483648 ≤ h / c := by
    rw [Int.le_ediv_iff_mul_le (by omega)]
    omega
  have d2 : h / c < 2147483648 := by
    apply Int.ediv_lt_of_lt_mul (by omega)
    omega
  exact nearW_tail h l c (h / c) (h % c) ((h % c * 1000000000000000000 + l) / c) ((h % c * 1000000000000000000 + l) % c) x (x / 1000000000000000000) (x % 1000000000000000000) w c0 c1 d1 d2 s0 s1 q0 q1
    (fun W => parted_any h c W (by omega) (by omega) c0 (by omega)) _ _ (fun W => scaled_any (h % c) l W m0 (by omega) r1 r2) (fun W => divided_any _ c W n0 c0 c1 n1)
    (fun W => widened_any x W (by omega) (by omega)) (hide (by rw [hx]; rfl)) (by omega) (by omega)
end Go.Proofs.Ytcabpcneiddgcaa
