/-
  The contracts of num's inner functions: size, signed and its closure, nearest, quotient.
-/
import Derived.Test.YtcabpcneiddgcaaSmall
import Derived.Deep.QuietTactic
import Derived.BigQuiet
namespace Go.Proofs.Ytcabpcneiddgcaa
open Go.RowKit

/-- A number without its sign. -/
def absI (n : Int) : Int := if n < 0 then -n else n
theorem absI_neg {n : Int} (h : n < 0) : absI n = -n := by simp [absI, h]
theorem absI_pos {n : Int} (h : 0 ≤ n) : absI n = n := by unfold absI; rw [if_neg (by omega)]
theorem absI_nn (n : Int) : 0 ≤ absI n := by unfold absI; split <;> omega
theorem absI_le {n B : Int} (h1 : -B ≤ n) (h2 : n ≤ B) : absI n ≤ B := by unfold absI; split <;> omega

/-- The whole number that is nearest to N / d, of two the even one. -/
def halfEven (N d : Int) : Int := if d < 2 * (N % d) ∨ (2 * (N % d) = d ∧ N / d % 2 = 1) then N / d + 1 else N / d
/-- .. or the error that it goes too far. -/
def nearN (N d : Int) : Int × Int := if 1000000000000000000 < N / d then (0, 3) else (halfEven N d, 0)

/-- What is said of Div64 at one place. -/
def DivAt (hi lo d : Int) : Prop := ∀ w : World, Calls Try.prog 39 #[.int .u64 hi, .int .u64 lo, .int .u64 d] w fun e w' => e = .returned (.tuple #[.int .u64 ((hi * 18446744073709551616 + lo) / d), .int .u64 ((hi * 18446744073709551616 + lo) % d)]) ∧ Below w.heap.size w w'

end Go.Proofs.Ytcabpcneiddgcaa
