/-
  What the row's condition on the library's tables gives the walks: the table of powers of ten.
-/
import Derived.Test.YtjhldifilfkebabDoorRows
import Derived.Test.YtjhldifilfkebabDoorFmt
import Derived.ProofKit
import Derived.LaidMore
import Derived.Stop.LaidErr
namespace Go.Proofs.YtjhldifilfkebabDoor
open Go.RowKit

theorem own : ownKnob Tryd.prog.godebug = none := by kernel_rfl
theorem gTabType : (Tryd.prog.globals[2]?).map (·.type) = some 70 := by kernel_rfl
theorem cellsTab : Tryd.prog.cellsOf 70 = 20 := by kernel_rfl
theorem cellsWord : Tryd.prog.cellsOf 29 = 1 := by kernel_rfl

theorem tab_of_laid {W : World} (h : laidMetH Tryd.prog Rows.numHalvesRow.laid W) : TabOk W := by
  rw [MakeChecks.laidMetH_plain _ _ _ (by kernel_rfl)] at h
  exact Lib.tabIs_of_head gTab gTabType Tryd.underlying70 Tryd.underlying29 cellsWord cellsTab h.tail.tail
end Go.Proofs.YtjhldifilfkebabDoor
