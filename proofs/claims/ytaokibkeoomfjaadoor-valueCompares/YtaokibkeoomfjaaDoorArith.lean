/-
  The contracts of num.Mul, num.Div, num.Mod, of Div64 where the high word is 0, and of the answer's Mod.
-/
import Derived.Test.YtaokibkeoomfjaaDoorMul
namespace Go.Proofs.YtaokibkeoomfjaaDoor
open Go.RowKit

/-- Why a cannot be divided by b. -/
def divisR (a b : Int) : Int := if fitsB a && fitsB b then (if b = 0 then 4 else 0) else 2
/-- What is left of a, of b's sign. -/
def fmodR (a b : Int) : Int := if a.tmod b ≠ 0 ∧ (decide (a.tmod b < 0) != decide (b < 0)) = true then a.tmod b + b else a.tmod b
theorem tmod_bd {a b : Int} (ha : -1000000000000000000 ≤ a) (ha' : a ≤ 1000000000000000000) : -1000000000000000000 ≤ a.tmod b ∧ a.tmod b ≤ 1000000000000000000 := by
  have h := Int.natAbs_tmod a b
  have : (a.tmod b).natAbs ≤ a.natAbs := by rw [h]; exact Nat.mod_le _ _
  omega

theorem bool_lt {r : Int} (h : r < 0) : decide (r < 0) = true := by simp [h]
theorem bool_ge {r : Int} (h : ¬ r < 0) : decide (r < 0) = false := by simp [h]

end Go.Proofs.YtaokibkeoomfjaaDoor
