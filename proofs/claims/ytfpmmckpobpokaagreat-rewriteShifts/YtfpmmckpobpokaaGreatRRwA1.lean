/-
  A formula at another place, and back, in plain words.
-/
import Derived.Test.YtfpmmckpobpokaaGreatRRwK1
namespace Go.Proofs.YtfpmmckpobpokaaGreat
open Go.RowKit
end Go.Proofs.YtfpmmckpobpokaaGreat
