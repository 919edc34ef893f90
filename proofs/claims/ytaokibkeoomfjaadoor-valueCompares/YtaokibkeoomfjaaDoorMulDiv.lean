/-
  The contracts of num.Mul, num.Div and num.Mod: what they return, said by plain functions; Div64 at the place is a hypothesis.
-/
import Derived.Test.YtaokibkeoomfjaaDoorArith
namespace Go.Proofs.YtaokibkeoomfjaaDoor
open Go.RowKit

/-- The product, rounded, or why there is none. -/
def mulR (a b : Int) : Int × Int := if fitsB a && fitsB b then quoR (absI a * absI b) 1000000 (decide (a < 0) != decide (b < 0)) else (0, 2)
/-- The quotient, rounded, or why there is none. -/
def divR (a b : Int) : Int × Int := if divisR a b = 0 then quoR (absI a * 1000000) (absI b) (decide (a < 0) != decide (b < 0)) else (0, divisR a b)
/-- What is left of a division, or why nothing is. -/
def modR (a b : Int) : Int × Int := if divisR a b = 0 then (fmodR a b, 0) else (0, divisR a b)

theorem words_back (N : Int) : N / 18446744073709551616 * 18446744073709551616 + N % 18446744073709551616 = N := by omega

theorem divisR_zero {a b : Int} (h : divisR a b = 0) : fitsB a = true ∧ fitsB b = true ∧ b ≠ 0 := by
  unfold divisR at h
  cases ha : fitsB a <;> cases hb : fitsB b <;> simp [ha, hb] at h
  exact ⟨rfl, rfl, h⟩

end Go.Proofs.YtaokibkeoomfjaaDoor
