/-
  The contracts of the answer's Size, even, Round, Floor, and of num.Floor.
-/
import Derived.Test.YtaokibkeoomfjabDoorRound
namespace Go.Proofs.YtaokibkeoomfjabDoor
open Go.RowKit

/-- A number, rounded up or not, by what is left of a whole. -/
def evenR (n l d : Int) : Int := if d < 2 * l ∨ (2 * l = d ∧ n % 2 = 1) then n + 1 else n

/-- The greatest whole number that is not above n, or why not. -/
def floorR (n : Int) : Int × Int := if fitsB n then told (n - fmodR n 1000000) else (0, 2)

theorem fmodR_bd {a b : Int} (ha : -1000000000000000000 ≤ a) (ha' : a ≤ 1000000000000000000) (hb : -1000000000000000000 ≤ b) (hb' : b ≤ 1000000000000000000) : -2000000000000000000 ≤ fmodR a b ∧ fmodR a b ≤ 2000000000000000000 := by
  obtain ⟨r1, r2⟩ := tmod_bd (b := b) ha ha'
  unfold fmodR; split <;> omega

end Go.Proofs.YtaokibkeoomfjabDoor
