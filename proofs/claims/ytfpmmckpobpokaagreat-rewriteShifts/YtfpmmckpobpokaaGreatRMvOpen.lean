/-
  An edit, a place, a rectangle that came in as arguments: what they are.
-/
import Derived.Test.YtfpmmckpobpokaaGreatProg
import Derived.ProofKit
import Derived.OpenShut
import Derived.WalkKit
import Derived.ChangeArms
namespace Go.Proofs.YtfpmmckpobpokaaGreat
open Go.ChangeShapes Go.WideShapes Go.ChangeAt Go.RowKit
end Go.Proofs.YtfpmmckpobpokaaGreat
