/-
  The contracts of num.product, num.quotient (with the sign put back by signed's closure), num.Mul, num.Div, num.Mod.
-/
import Derived.Test.YtcabpcneiddgcaaNear
import Derived.Test.YtcabpcneiddgcaaShelf
namespace Go.Proofs.Ytcabpcneiddgcaa
open Go.RowKit

theorem mul64_any (x y : Int) (w : World) (hx0 : 0 ≤ x) (hx : x < 18446744073709551616) (hy0 : 0 ≤ y) (hy : y < 18446744073709551616) :
    Calls Try.prog 40 #[.int .u64 x, .int .u64 y] w fun e w' => e = .returned (.tuple #[.int .u64 (x * y / 18446744073709551616), .int .u64 (x * y % 18446744073709551616)]) ∧ w' = w := by
  obtain ⟨m, rfl⟩ := Int.eq_ofNat_of_zero_le hx0
  obtain ⟨n, rfl⟩ := Int.eq_ofNat_of_zero_le hy0
  have := Try.bits_Mul64 m n (by omega) (by omega) w
  simpa using this

theorem div_big {hi lo d : Int} (hd : 0 < d) (hlo : 0 ≤ lo) (h : d ≤ hi) : 1000000000000000000 < (hi * 18446744073709551616 + lo) / d := by
  have h2 : (18446744073709551616 : Int) ≤ (hi * 18446744073709551616 + lo) / d := by
    rw [Int.le_ediv_iff_mul_le hd]
    have : 18446744073709551616 * d ≤ 18446744073709551616 * hi := Int.mul_le_mul_of_nonneg_left h (by omega)
    omega
  omega

/-- A number with a sign. -/
def put (neg : Bool) (q : Int) : Int := if neg then -q else q
/-- N / d, rounded, with a sign, or why not. -/
def quoR (N d : Int) (neg : Bool) : Int × Int := if (nearN N d).2 = 0 then told (put neg (nearN N d).1) else (0, (nearN N d).2)

theorem halfEven_le {N d : Int} (h : ¬ 1000000000000000000 < N / d) : halfEven N d ≤ 1000000000000000001 := by
  unfold halfEven; split <;> omega
theorem halfEven_nn {N d : Int} (hN : 0 ≤ N) (hd : 0 < d) : 0 ≤ halfEven N d := by
  have := Int.ediv_nonneg hN (Int.le_of_lt hd)
  unfold halfEven; split <;> omega

end Go.Proofs.Ytcabpcneiddgcaa
