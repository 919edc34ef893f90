/-
  What the row's condition on the library's tables gives the walks: the table of powers of ten.
-/
import Derived.Test.YtaokibkeoomfjabDoorRows
import Derived.Test.YtaokibkeoomfjabDoorFmt
import Derived.ProofKit
import Derived.LaidMore
import Derived.Stop.LaidErr
namespace Go.Proofs.YtaokibkeoomfjabDoor
open Go.RowKit

theorem own : ownKnob Tryd.prog.godebug = none := by kernel_rfl
theorem gTabType : (Tryd.prog.globals[2]?).map (·.type) = some 104 := by kernel_rfl
theorem cellsTab : Tryd.prog.cellsOf 104 = 20 := by kernel_rfl
theorem cellsWord : Tryd.prog.cellsOf 74 = 1 := by kernel_rfl

theorem tab_of_laid {W : World} (h : laidMetH Tryd.prog Rows.valueFoldsRow.laid W) : TabOk W := by
  rw [MakeChecks.laidMetH_plain _ _ _ (by kernel_rfl)] at h
  exact Lib.tabIs_of_head gTab gTabType Tryd.underlying104 Tryd.underlying74 cellsWord cellsTab h.tail.tail
end Go.Proofs.YtaokibkeoomfjabDoor
