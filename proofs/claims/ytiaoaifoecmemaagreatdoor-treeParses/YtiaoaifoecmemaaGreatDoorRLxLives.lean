/-
  The contract of the statements' own 'lives': the document's examples.
-/
import Derived.Test.YtiaoaifoecmemaaGreatDoorRLxRow
namespace Go.Proofs.YtiaoaifoecmemaaGreatDoor
open Go.RowKit Go.Shelf
end Go.Proofs.YtiaoaifoecmemaaGreatDoor
