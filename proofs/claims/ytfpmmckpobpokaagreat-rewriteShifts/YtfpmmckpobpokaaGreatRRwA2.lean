/-
  A formula shifted by nothing; shifted there and back.
-/
import Derived.Test.YtfpmmckpobpokaaGreatRRwA1
namespace Go.Proofs.YtfpmmckpobpokaaGreat
open Go.RowKit
end Go.Proofs.YtfpmmckpobpokaaGreat
