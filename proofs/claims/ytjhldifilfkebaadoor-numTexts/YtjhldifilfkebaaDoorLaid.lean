/-
  What the row's condition on the library's tables gives the walks: the table of powers of ten.
-/
import Derived.Test.YtjhldifilfkebaaDoorRows
import Derived.Test.YtjhldifilfkebaaDoorFmt
import Derived.ProofKit
import Derived.LaidMore
import Derived.Stop.LaidErr
namespace Go.Proofs.YtjhldifilfkebaaDoor
open Go.RowKit

theorem own : ownKnob Tryd.prog.godebug = none := by kernel_rfl
theorem gTabType : (Tryd.prog.globals[3]?).map (·.type) = some 91 := by kernel_rfl
theorem cellsTab : Tryd.prog.cellsOf 91 = 20 := by kernel_rfl
theorem cellsWord : Tryd.prog.cellsOf 41 = 1 := by kernel_rfl

theorem tab_of_laid {W : World} (h : laidMetH Tryd.prog Rows.numSumsRow.laid W) : TabOk W := by
  rw [MakeChecks.laidMetH_plain _ _ _ (by kernel_rfl)] at h
  exact Lib.tabIs_of_head gTab gTabType Tryd.underlying91 Tryd.underlying41 cellsWord cellsTab h.tail.tail
end Go.Proofs.YtjhldifilfkebaaDoor
