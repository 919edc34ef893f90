/-
  The contracts of the answer's Size, even, Round, Floor, and of num.Floor.
-/
import Derived.Test.YtaokibkeoomfjaaDoorRound
namespace Go.Proofs.YtaokibkeoomfjaaDoor
open Go.RowKit

set_option maxHeartbeats 400000 in
theorem rsize_any (n : Int) (w : World) (h1 : -1000000000000000000 ≤ n) (h2 : n ≤ 1000000000000000000) :
    Calls Tryd.prog 61 #[.int .i64 n] w fun e w' => e = .returned (.int .i64 (absI n)) ∧ w' = w := by
  by_cases h : n < 0
  · have E := hide (absI_neg h)
    go_enter Tryd.func61, Tryd.ntmps61
    go_wp2
    go_ret
    exact ⟨by rw [E.out]; simp [Int.max_def]; omega, rfl⟩
  · have E := hide (absI_pos (n := n) (by omega))
    go_enter Tryd.func61, Tryd.ntmps61
    go_wp2
    go_ret
    exact ⟨by rw [E.out]; simp [Int.max_def]; omega, rfl⟩

/-- A number, rounded up or not, by what is left of a whole. -/
def evenR (n l d : Int) : Int := if d < 2 * l ∨ (2 * l = d ∧ n % 2 = 1) then n + 1 else n

/-- The greatest whole number that is not above n, or why not. -/
def floorR (n : Int) : Int × Int := if fitsB n then told (n - fmodR n 1000000) else (0, 2)

theorem fmodR_bd {a b : Int} (ha : -1000000000000000000 ≤ a) (ha' : a ≤ 1000000000000000000) (hb : -1000000000000000000 ≤ b) (hb' : b ≤ 1000000000000000000) : -2000000000000000000 ≤ fmodR a b ∧ fmodR a b ≤ 2000000000000000000 := by
  obtain ⟨r1, r2⟩ := tmod_bd (b := b) ha ha'
  unfold fmodR; split <;> omega

end Go.Proofs.YtaokibkeoomfjaaDoor
