/-
  The walk of the law NumTexts, out of its callees' contracts.
-/
import Derived.Test.YtaokibkeoomfjabDoorRefParse
import Derived.Test.YtaokibkeoomfjabDoorNumBackWalk
namespace Go.Proofs.YtaokibkeoomfjabDoor
open Go.RowKit

end Go.Proofs.YtaokibkeoomfjabDoor
