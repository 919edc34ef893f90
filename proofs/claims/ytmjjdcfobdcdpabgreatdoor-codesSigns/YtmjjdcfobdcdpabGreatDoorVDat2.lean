/-
  Out of DtR1, DtR2, DtR3, what is asked for (laid by pack9.py).
-/
import Derived.Test.YtmjjdcfobdcdpabGreatDoorVDat
import Derived.Deep.LoopGhost
import Derived.Deep.RegionHeld3
import Derived.Lib.LaidTab
import Derived.Lib.MinMax
import Derived.Lib.SmallJoins
import Derived.WalkKit
import Derived.WalkLawsBesides
import Derived.WalkSpells
namespace Go.Proofs.YtmjjdcfobdcdpabGreatDoor.Dat
section
open Go.RowKit
theorem dA_step (q : Int) : dA (q + 1) = dA q + if leapB q then 366 else 365 := by rw [dA_succ, cum_twelve]
end
section
open Go.RowKit
end
section
open Go.RowKit
end
end Go.Proofs.YtmjjdcfobdcdpabGreatDoor.Dat
