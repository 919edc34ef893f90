/-
  The contracts of num.product, num.quotient (with the sign put back by signed's closure), num.Mul, num.Div, num.Mod.
-/
import Derived.Test.YtaokibkeoomfjaaDoorNear
import Derived.Test.YtaokibkeoomfjaaDoorShelf
namespace Go.Proofs.YtaokibkeoomfjaaDoor
open Go.RowKit

theorem div_big {hi lo d : Int} (hd : 0 < d) (hlo : 0 ≤ lo) (h : d ≤ hi) : 1000000000000000000 < (hi * 18446744073709551616 + lo) / d := by
  have h2 : (18446744073709551616 : Int) ≤ (hi * 18446744073709551616 + lo) / d := by
    rw [Int.le_ediv_iff_mul_le hd]
    have : 18446744073709551616 * d ≤ 18446744073709551616 * hi := Int.mul_le_mul_of_nonneg_left h (by omega)
    omega
  omega

/-- A number with a sign. -/
def put (neg : Bool) (q : Int) : Int := if neg then -q else q
/-- N / d, rounded, with a sign, or why not. -/
def quoR (N d : Int) (neg : Bool) : Int × Int := if (nearN N d).2 = 0 then told (put neg (nearN N d).1) else (0, (nearN N d).2)

theorem halfEven_le {N d : Int} (h : ¬ 1000000000000000000 < N / d) : halfEven N d ≤ 1000000000000000001 := by
  unfold halfEven; split <;> omega
theorem halfEven_nn {N d : Int} (hN : 0 ≤ N) (hd : 0 < d) : 0 ≤ halfEven N d := by
  have := Int.ediv_nonneg hN (Int.le_of_lt hd)
  unfold halfEven; split <;> omega

set_option maxHeartbeats 400000 in
theorem put_any (q : Int) (neg : Bool) (b : Nat) (w : World) (h0 : 0 ≤ q) (h1 : q ≤ 4000000000000000000) (hc : w.cell? ⟨b, 0, none⟩ = some (.bool neg)) :
    Calls Tryd.prog 83 #[.int .u64 q, .pointer (some ⟨b, 0, none⟩)] w fun e w' => e = .returned (.int .i64 (put neg q)) ∧ w' = w := by
  cases neg
  all_goals
    go_enter Tryd.func83, Tryd.ntmps83
    go_wp2
    go_ret
    exact ⟨by simp [put], rfl⟩

end Go.Proofs.YtaokibkeoomfjaaDoor
