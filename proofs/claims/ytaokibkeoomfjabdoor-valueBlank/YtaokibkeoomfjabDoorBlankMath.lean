/-
  How a blank stands beside another value.
-/
import Derived.Test.YtaokibkeoomfjabDoorCompMath
namespace Go.Proofs.YtaokibkeoomfjabDoor
open Go.RowKit

theorem bl_no {k n : Int} {s : ByteArray} {b : Bool} {c : Int} (h : rightB k n s b c = false) : compareV 0 0 ⟨#[]⟩ false 0 k n s b c = (0, 2) := by
  simp [compareV, trouble2_no (k := 0) (n := 0) (s := ⟨#[]⟩) (b := false) (c := 0) (.inr h)]
theorem bl_no' {k n : Int} {s : ByteArray} {b : Bool} {c : Int} (h : rightB k n s b c = false) : compareV k n s b c 0 0 ⟨#[]⟩ false 0 = (0, 2) := by
  simp [compareV, trouble2_no (k' := 0) (n' := 0) (s' := ⟨#[]⟩) (b' := false) (c' := 0) (.inl h)]
theorem bl_num {n : Int} (h : fitsB n = true) : compareV 0 0 ⟨#[]⟩ false 0 1 n ⟨#[]⟩ false 0 = (cmpI 0 n, 0) := by
  have e : troubleV2 0 0 ⟨#[]⟩ false 0 1 n ⟨#[]⟩ false 0 = 0 := by rw [trouble2_yes right_blank (right_num h)]; rfl
  simp [compareV, e, besK, ordV]
theorem bl_num' {n : Int} (h : fitsB n = true) : compareV 1 n ⟨#[]⟩ false 0 0 0 ⟨#[]⟩ false 0 = (cmpI n 0, 0) := by
  have e : troubleV2 1 n ⟨#[]⟩ false 0 0 0 ⟨#[]⟩ false 0 = 0 := by rw [trouble2_yes (right_num h) right_blank]; rfl
  simp [compareV, e, besK, ordV]
theorem bl_text {s : ByteArray} (h : s.size ≤ 255) : compareV 0 0 ⟨#[]⟩ false 0 2 0 s false 0 = (cmpL [] (foldL s.data.toList), 0) := by
  have e : troubleV2 0 0 ⟨#[]⟩ false 0 2 0 s false 0 = 0 := by rw [trouble2_yes right_blank (right_text h)]; rfl
  simp [compareV, e, besK, ordV, foldL]
theorem bl_text' {s : ByteArray} (h : s.size ≤ 255) : compareV 2 0 s false 0 0 0 ⟨#[]⟩ false 0 = (cmpL (foldL s.data.toList) [], 0) := by
  have e : troubleV2 2 0 s false 0 0 0 ⟨#[]⟩ false 0 = 0 := by rw [trouble2_yes (right_text h) right_blank]; rfl
  simp [compareV, e, besK, ordV, foldL]
theorem bl_fault {c : Int} (h1 : 1 ≤ c) (h7 : c ≤ 7) : compareV 0 0 ⟨#[]⟩ false 0 4 0 ⟨#[]⟩ false c = (0, c) := by
  have e : troubleV2 0 0 ⟨#[]⟩ false 0 4 0 ⟨#[]⟩ false c = c := by rw [trouble2_yes right_blank (right_fault h1 h7)]; rfl
  have n : c ≠ 0 := by omega
  simp [compareV, e, n]
theorem bl_fault' {c : Int} (h1 : 1 ≤ c) (h7 : c ≤ 7) : compareV 4 0 ⟨#[]⟩ false c 0 0 ⟨#[]⟩ false 0 = (0, c) := by
  have n : c ≠ 0 := by omega
  have e : troubleV2 4 0 ⟨#[]⟩ false c 0 0 ⟨#[]⟩ false 0 = c := by rw [trouble2_yes (right_fault h1 h7) right_blank, if_neg n]
  simp [compareV, e, n]
theorem bl_some {s : ByteArray} (h : s ≠ ⟨#[]⟩) : cmpL [] (foldL s.data.toList) = -1 ∧ cmpL (foldL s.data.toList) [] = 1 ∧ (1 : Int) ≤ s.size := by
  obtain ⟨⟨l⟩⟩ := s
  cases l with
  | nil => exact absurd rfl h
  | cons a l =>
    refine ⟨by simp [cmpL, foldL, Op.bytesLess], by simp [cmpL, foldL, Op.bytesLess], ?_⟩
    show (1 : Int) ≤ ((a :: l).toArray.size : Nat)
    simp
    omega
end Go.Proofs.YtaokibkeoomfjabDoor
