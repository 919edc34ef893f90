/-
  The contract of the statements' shape, where the second node is the first one made anew (made by shapegen.py).
-/
import Derived.Test.YtfpmmckpobpokaaGreatBZ9
namespace Go.Proofs.YtfpmmckpobpokaaGreat
open Go.RowKit
end Go.Proofs.YtfpmmckpobpokaaGreat
