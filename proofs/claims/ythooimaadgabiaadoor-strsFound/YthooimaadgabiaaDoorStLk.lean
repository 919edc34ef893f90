/-
  The answer's Like.
-/
import Derived.Test.YthooimaadgabiaaDoorRf3
namespace Go.Proofs.YthooimaadgabiaaDoor
open Go.RowKit
set_option linter.unusedSimpArgs false

theorem fold_same {c x : UInt8} (hx : x = 63 ∨ x = 42 ∨ x = 126) : foldB c = x ↔ c = x := by
  constructor
  · intro h
    by_cases hi : 97 ≤ c.toNat ∧ c.toNat ≤ 122
    · have e := foldB_in hi.1 hi.2
      rw [h] at e
      rcases hx with rfl | rfl | rfl
      · have : (63 : UInt8).toNat = 63 := rfl
        omega
      · have : (42 : UInt8).toNat = 42 := rfl
        omega
      · have : (126 : UInt8).toNat = 126 := rfl
        omega
    · rwa [foldB_out hi] at h
  · rintro rfl
    rcases hx with rfl | rfl | rfl <;> decide
set_option maxHeartbeats 1000000 in
theorem rLike_any (p s : ByteArray) (w : World) (hp : p.size ≤ 1000) (hs : s.size ≤ 1000) :
    Calls Tryd.prog 56 #[.string p, .string s] w fun e w' => e = .returned (.bool (likeR p.data.toList s.data.toList)) ∧ Below w.heap.size w w' := by
  have HF1 : Hid (∀ W : World, Calls Tryd.prog 80 #[.string p] W fun e w' => e = .returned (.string ⟨(foldL p.data.toList).toArray⟩) ∧ Below W.heap.size W w') := fun W => rfold_any p W (by unfold maxLen; omega)
  have HF2 : Hid (∀ W : World, Calls Tryd.prog 80 #[.string s] W fun e w' => e = .returned (.string ⟨(foldL s.data.toList).toArray⟩) ∧ Below W.heap.size W w') := fun W => rfold_any s W (by unfold maxLen; omega)
  have l1 : (foldL p.data.toList).length ≤ 1000 := by rw [foldL_len, show p.data.toList.length = p.size from Array.length_toList]; exact hp
  have l2 : (foldL s.data.toList).length ≤ 1000 := by rw [foldL_len, show s.data.toList.length = s.size from Array.length_toList]; exact hs
  unfold likeR
  have HK : Hid (∀ W : World, Calls Tryd.prog 79 #[.string ⟨(foldL p.data.toList).toArray⟩, .string ⟨(foldL s.data.toList).toArray⟩] W fun e w' => e = .returned (.bool (lk (stepsR (foldL p.data.toList)) (foldL s.data.toList))) ∧ Below W.heap.size W w') := fun W => rlike_any _ _ W l1 l2
  generalize lk (stepsR (foldL p.data.toList)) (foldL s.data.toList) = R at *
  generalize (⟨(foldL p.data.toList).toArray⟩ : ByteArray) = A at *
  generalize (⟨(foldL s.data.toList).toArray⟩ : ByteArray) = B at *
  have HB := hide (Below.refl w.heap.size w)
  clear hp hs l1 l2
  go_enter Tryd.func56, Tryd.ntmps56
  go_wp2_with (first | (go_at_call 80; refine (HF1.out _).mono ?_; rintro e wz ⟨rfl, hz⟩; replace HB := hide (upR HB.out hz); clear hz HF1) | (go_at_call 80; refine (HF2.out _).mono ?_; rintro e wz ⟨rfl, hz⟩; replace HB := hide (upR HB.out hz); clear hz HF2) | (go_at_call 79; refine (HK.out _).mono ?_; rintro e wz ⟨rfl, hz⟩; replace HB := hide (upR HB.out hz); clear hz))
  go_ret
  exact ⟨rfl, HB.out⟩
end Go.Proofs.YthooimaadgabiaaDoor
