/-
  Small words on blocks and texts.
-/
import Derived.Test.YtklldmidcmfbdaaGreatDoorFmR
namespace Go.Proofs.YtklldmidcmfbdaaGreatDoor
open Go.RowKit Go.Shelf

/-- A block behind a store into it. -/
theorem heap_set {W : World} {b : Nat} {cs : Array Value} {t : TypeId} {fz : Nat × Nat} (h : W.heap[b]? = some (.cells cs t fz)) (i : Nat) (v : Value) : (W.setCell ⟨b, i, none⟩ v).heap[b]? = some (.cells (cs.setIfInBounds i v) t fz) := by
  obtain ⟨hlt, hk⟩ := Array.getElem?_eq_some_iff.1 h
  show (W.heap.modify b _)[b]? = _
  rw [Array.getElem?_eq_getElem (by rw [Array.size_modify]; exact hlt), Array.getElem_modify_self, hk]
  rfl
/-- Texts that are not one. -/
theorem text_ne {a b : ByteArray} (h : a ≠ b) : (a.toList == b.toList) = false := by
  rw [beq_eq_false_iff_ne]
  intro e
  apply h
  have e2 : ∀ x : ByteArray, x.toList = x.data.toList := ByteArray.toList_eq
  rw [e2, e2] at e
  cases a; cases b
  simp at e
  rw [e]
/-- A call's way out, behind one range over a function. -/
theorem leave_one {P : Program} {fn : Func} {tmps : Array Value} {R : Ending → World → Prop} {D : Nat} {Y : World} (hd : Y.heap[D]? = some (.deferred (some []))) (h : ∃ v, (results fn tmps).run P (Y.putObj D (.deferred none)) = .ok v (Y.putObj D (.deferred none)) ∧ R (.returned v) (Y.putObj D (.deferred none))) :
    LeavesInM Fence.wide 0 P fn tmps R [{ target := .collected D, args := #[] }] .returning Y :=
  leaves_marks (m := 0) (M := D + 1) [D] Y ⟨by simp, fun E hE => by rw [List.mem_singleton.1 hE]; exact ⟨Nat.zero_le _, Nat.lt_succ_self _, hd⟩⟩ h
theorem put_block {Y : World} {D b : Nat} {o : Obj} {cs : Array Value} {t : TypeId} {fz : Nat × Nat} (hd : Y.heap[D]? = some (.deferred (some []))) (k : Y.heap[b]? = some (.cells cs t fz)) : (Y.putObj D o).heap[b]? = some (.cells cs t fz) :=
  (World.putObj_heap_other (fun e => by subst e; rw [hd] at k; cases k)).trans k
theorem put_below {w Y : World} {D : Nat} {o : Obj} (h : Below w.heap.size w Y) (hD : w.heap.size ≤ D) : Below w.heap.size w (Y.putObj D o) :=
  h.grown (grownBy_putObj' Y D o) h.size (fun k e => by cases e; exact hD)
end Go.Proofs.YtklldmidcmfbdaaGreatDoor
