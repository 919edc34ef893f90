/-
  The statements' size.
-/
import Derived.Test.YtfopebfejmlhbaaMa1
namespace Go.Proofs.Ytfopebfejmlhbaa
open Go.RowKit

set_option maxHeartbeats 1000000 in
theorem lsize_any (n : Int) (w : World) (h1 : -9223372036854775807 ≤ n) (h2 : n ≤ 9223372036854775807) :
    Calls Try.prog 38 #[.int .i64 n] w fun e w' => e = .returned (.int .i64 (absI n)) ∧ w' = w := by
  have hw : IntKind.i64.wrap (-n) = -n := wrapI (by omega) (by omega)
  have hm : max n (-n) = absI n := by unfold absI; split <;> omega
  go_enter Try.func38, Try.ntmps38
  go_wp2
  go_ret
  exact ⟨by rw [← hm]; rfl, rfl⟩
end Go.Proofs.Ytfopebfejmlhbaa
