/-
  What folding leaves of the signs of a pattern.
-/
import Derived.Test.YthooimaadgabiabDoorCr3
namespace Go.Proofs.YthooimaadgabiabDoor
open Go.RowKit

theorem fold_same {c x : UInt8} (hx : x = 63 ∨ x = 42 ∨ x = 126) : foldB c = x ↔ c = x := by
  constructor
  · intro h
    by_cases hi : 97 ≤ c.toNat ∧ c.toNat ≤ 122
    · have e := foldB_in hi.1 hi.2
      rw [h] at e
      rcases hx with rfl | rfl | rfl
      · have : (63 : UInt8).toNat = 63 := rfl
        omega
      · have : (42 : UInt8).toNat = 42 := rfl
        omega
      · have : (126 : UInt8).toNat = 126 := rfl
        omega
    · rwa [foldB_out hi] at h
  · rintro rfl
    rcases hx with rfl | rfl | rfl <;> decide
end Go.Proofs.YthooimaadgabiabDoor
