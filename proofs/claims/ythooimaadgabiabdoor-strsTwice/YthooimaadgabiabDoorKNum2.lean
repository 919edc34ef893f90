/-
  Out of NumBackWalk, what is asked for (laid by pack9.py).
-/
import Derived.BigCall
import Derived.BigGuard
import Derived.BigQuiet
import Derived.Deep.QuietTactic
import Derived.Deep.RegionWith
import Derived.Laws.EntriesVeiled
import Derived.Lib.AppendIntMem
import Derived.Lib.IndexMore
import Derived.Lib.ItoaMem
import Derived.Lib.SmallJoins
import Derived.Lib.Walk
import Derived.WalkKit
import Derived.WalkLawsBesides
import Derived.WalkSpells
namespace Go.Proofs.YthooimaadgabiabDoor
section
open Go.RowKit
/-- The cell that the search reads holds some number. -/
def CellOk (w : World) : Prop := ∃ m, w.cell? ⟨0, 0, none⟩ = some (.int .i64 m)
theorem cellOk_below {w w' : World} (h : CellOk w) (hb : Below w.heap.size w w') : CellOk w' := by
  obtain ⟨m, hm⟩ := h
  exact ⟨m, cell_later hb hm⟩
end
end Go.Proofs.YthooimaadgabiabDoor
