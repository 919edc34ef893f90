/-
  What strs' calls hand to told: closures over their arguments' boxes.
-/
import Derived.Test.YthooimaadgabiabDoorSt2
import Derived.Test.YthooimaadgabiabDoorSt6
import Derived.Test.YthooimaadgabiabDoorSt7
import Derived.Test.YthooimaadgabiabDoorSt9
import Derived.Test.YthooimaadgabiabDoorStM
import Derived.Test.YthooimaadgabiabDoorKVal3
namespace Go.Proofs.YthooimaadgabiabDoor
open Go.RowKit
set_option linter.unusedSimpArgs false
set_option linter.unusedVariables false

/-- A value in a box. -/
def Bx (w : World) (b : Nat) (v : Value) : Prop := w.cell? ⟨b, 0, none⟩ = some v
theorem Bx.lt {w : World} {b : Nat} {v : Value} (h : Bx w b v) : b < w.heap.size := by
  rcases Nat.lt_or_ge b w.heap.size with h' | h'
  · exact h'
  · simp [Bx, World.cell?, Array.getElem?_eq_none h'] at h
theorem Bx.below {w w' : World} {b : Nat} {v : Value} (h : Bx w b v) (k : Below w.heap.size w w') : Bx w' b v := (k.cell (p := ⟨b, 0, none⟩) h.lt).trans h
theorem joined1 (F : By) (W : World) :
    Calls Tryd.prog 23 #[.slice (some ⟨W.heap.size, 0, none⟩) 1 1] (W.alloc (.cells #[.string ⟨F.toArray⟩] 9)) fun e w' => e = endT (capS F) ∧ Below W.heap.size W w' := by
  have hn := World.alloc_heap_new W (.cells #[.string ⟨F.toArray⟩] 9)
  refine (joined_any [F] _ _ (.inr ⟨W.heap.size, 0, 1, rfl, by simp, fun i x hx => ?_⟩) (by simp [maxLen])).mono fun e w' ⟨h1, h2⟩ => ⟨by rw [h1]; simp, ((Below.refl _ W).alloc (Nat.le_refl _) _).trans (h2.mono (by simp))⟩
  match i, hx with
  | 0, hx => cases hx; show World.cell? _ ⟨W.heap.size, _, none⟩ = _; rw [Lib.cell_of_heap hn]; rfl
theorem joined3 (F G H : By) (W : World) :
    Calls Tryd.prog 23 #[.slice (some ⟨W.heap.size, 0, none⟩) 3 3] (W.alloc (.cells #[.string ⟨F.toArray⟩, .string ⟨G.toArray⟩, .string ⟨H.toArray⟩] 9)) fun e w' => e = endT (capS (F ++ (G ++ H))) ∧ Below W.heap.size W w' := by
  have hn := World.alloc_heap_new W (.cells #[.string ⟨F.toArray⟩, .string ⟨G.toArray⟩, .string ⟨H.toArray⟩] 9)
  refine (joined_any [F, G, H] _ _ (.inr ⟨W.heap.size, 0, 3, rfl, by simp, fun i x hx => ?_⟩) (by simp [maxLen])).mono fun e w' ⟨h1, h2⟩ => ⟨by rw [h1]; simp, ((Below.refl _ W).alloc (Nat.le_refl _) _).trans (h2.mono (by simp))⟩
  match i, hx with
  | 0, hx => cases hx; show World.cell? _ ⟨W.heap.size, _, none⟩ = _; rw [Lib.cell_of_heap hn]; rfl
  | 1, hx => cases hx; show World.cell? _ ⟨W.heap.size, _, none⟩ = _; rw [Lib.cell_of_heap hn]; rfl
  | 2, hx => cases hx; show World.cell? _ ⟨W.heap.size, _, none⟩ = _; rw [Lib.cell_of_heap hn]; rfl

end Go.Proofs.YthooimaadgabiabDoor
