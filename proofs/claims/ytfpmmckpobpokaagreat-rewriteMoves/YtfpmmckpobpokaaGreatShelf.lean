/-
  No contract of the library is wanted at this dump.
-/
import Derived.Test.YtfpmmckpobpokaaGreatProg
import Derived.Shelf.Abstract
import Derived.Shelf.RegionOpen
namespace Go.Proofs.YtfpmmckpobpokaaGreat
end Go.Proofs.YtfpmmckpobpokaaGreat
