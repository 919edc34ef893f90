/-
  The contract of the answer's Round, and the walk of the law NumRounds.
-/
import Derived.Test.YtaokibkeoomfjaaDoorRefRound
import Derived.Deep.QuietTactic
import Derived.BigQuiet
namespace Go.Proofs.YtaokibkeoomfjaaDoor
open Go.RowKit

theorem even_half {n d : Int} : evenR (n / d) (n % d) d = halfEven n d := rfl

theorem told_put {q : Int} (neg : Bool) (h0 : 0 ≤ q) : told (put neg q) = if 1000000000000000000 < q then (0, 3) else (put neg q, 0) := by
  unfold told put
  by_cases h : 1000000000000000000 < q
  · rw [if_pos h, if_neg]
    cases neg
    · rw [fitsB_not (by simp; omega)]; decide
    · rw [fitsB_not (by simp; omega)]; decide
  · rw [if_neg h, if_pos]
    cases neg
    · exact fitsB_of (by simp; omega) (by simp; omega)
    · exact fitsB_of (by simp; omega) (by simp; omega)

end Go.Proofs.YtaokibkeoomfjaaDoor
