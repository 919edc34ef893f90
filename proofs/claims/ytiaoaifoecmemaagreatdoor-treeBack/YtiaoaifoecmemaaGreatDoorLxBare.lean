/-
  The contracts of the statements' bare and same (and of the answer's Same): rows of tokens.
-/
import Derived.Test.YtiaoaifoecmemaaGreatDoorLxLives
import Derived.BigQuiet
import Derived.Deep.QuietTactic
namespace Go.Proofs.YtiaoaifoecmemaaGreatDoor
open Go.RowKit Go.Shelf

/-- Tokens without their places, and without the end. -/
def bareT (ts : List Tok) : List Tok := (ts.take (ts.length - 1)).map fun u => u.put 0
end Go.Proofs.YtiaoaifoecmemaaGreatDoor
