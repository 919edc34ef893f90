/-
  What the row's condition on the library's tables gives the walks: the table of powers of ten.
-/
import Derived.Test.YtaokibkeoomfjaaDoorRows
import Derived.Test.YtaokibkeoomfjaaDoorFmt
import Derived.ProofKit
import Derived.LaidMore
import Derived.Stop.LaidErr
namespace Go.Proofs.YtaokibkeoomfjaaDoor
open Go.RowKit

theorem own : ownKnob Tryd.prog.godebug = none := by kernel_rfl
theorem gTabType : (Tryd.prog.globals[1]?).map (·.type) = some 115 := by kernel_rfl
theorem cellsTab : Tryd.prog.cellsOf 115 = 20 := by kernel_rfl
theorem cellsWord : Tryd.prog.cellsOf 82 = 1 := by kernel_rfl

theorem tab_of_laid {W : World} (h : laidMetH Tryd.prog Rows.valueCountsRow.laid W) : TabOk W := by
  rw [MakeChecks.laidMetH_plain _ _ _ (by kernel_rfl)] at h
  exact Lib.tabIs_of_head gTab gTabType Tryd.underlying115 Tryd.underlying82 cellsWord cellsTab h.tail.tail
end Go.Proofs.YtaokibkeoomfjaaDoor
