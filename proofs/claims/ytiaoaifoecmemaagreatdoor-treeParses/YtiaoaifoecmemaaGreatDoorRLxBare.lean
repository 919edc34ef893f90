/-
  The contracts of the statements' bare and same (and of the answer's Same): rows of tokens.
-/
import Derived.Test.YtiaoaifoecmemaaGreatDoorRLxLives
namespace Go.Proofs.YtiaoaifoecmemaaGreatDoor
open Go.RowKit Go.Shelf
end Go.Proofs.YtiaoaifoecmemaaGreatDoor
