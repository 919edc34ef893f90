/-
  Out of RefPrint2, NumBackWalk, what is asked for (laid by pack9.py).
-/
import Derived.Test.YtmjjdcfobdcdpabGreatDoorVNum
import Derived.BigCall
import Derived.BigGuard
import Derived.BigQuiet
import Derived.Deep.QuietTactic
import Derived.Deep.RegionWith
import Derived.Laws.EntriesVeiled
import Derived.Lib.AppendIntMem
import Derived.Lib.IndexMore
import Derived.Lib.ItoaMem
import Derived.Lib.SmallJoins
import Derived.Lib.Walk
import Derived.WalkKit
import Derived.WalkLawsBesides
import Derived.WalkSpells
import Derived.WideShapes
namespace Go.Proofs.YtmjjdcfobdcdpabGreatDoor
section
open Go.RowKit
theorem ba_tail (B : List UInt8) : (⟨B.toArray⟩ : ByteArray).extract 1 B.length = ⟨B.tail.toArray⟩ := Go.WideShapes.bytes_inj (by rw [extract_tail])
/-- The length of a text in a slot. -/
def strLen : Value → Nat
  | .string s => s.size
  | _ => 0
theorem trim_snoc (h : List UInt8) (c : UInt8) : Lib.trimRightB (h ++ [c]) c = Lib.trimRightB h c := by
  unfold Lib.trimRightB; simp
theorem trim_stop (h : List UInt8) {c d : UInt8} (hne : d ≠ c) : Lib.trimRightB (h ++ [d]) c = h ++ [d] := by
  unfold Lib.trimRightB; simp [hne]
theorem text_dot2 (S A F : List UInt8) : (⟨(S ++ A ++ 46 :: F).toArray⟩ : ByteArray) = ((⟨S.toArray⟩ ++ ⟨A.toArray⟩) ++ ⟨#[46]⟩) ++ ⟨F.toArray⟩ := by
  have h : (⟨#[46]⟩ : ByteArray) = ⟨([46] : List UInt8).toArray⟩ := rfl
  rw [h, ba_app, ba_app, ba_app, List.append_assoc (S ++ A)]; rfl
theorem ba_last (g : List UInt8) (c : UInt8) : ∀ (hh : g.length < (⟨(g ++ [c]).toArray⟩ : ByteArray).size), (⟨(g ++ [c]).toArray⟩ : ByteArray)[g.length]'hh = c := by
  intro hh
  rw [ByteArray.getElem_eq_getElem_data]
  simp
theorem ba_drop (g : List UInt8) (c : UInt8) : (⟨(g ++ [c]).toArray⟩ : ByteArray).extract 0 g.length = ⟨g.toArray⟩ := Go.WideShapes.bytes_inj (by simp [ByteArray.extract, ByteArray.copySlice])
end
section
open Go.RowKit
/-- The cell that the search reads holds some number. -/
def CellOk (w : World) : Prop := ∃ m, w.cell? ⟨1, 0, none⟩ = some (.int .i64 m)
theorem cellOk_below {w w' : World} (h : CellOk w) (hb : Below w.heap.size w w') : CellOk w' := by
  obtain ⟨m, hm⟩ := h
  exact ⟨m, cell_later hb hm⟩
end
end Go.Proofs.YtmjjdcfobdcdpabGreatDoor
