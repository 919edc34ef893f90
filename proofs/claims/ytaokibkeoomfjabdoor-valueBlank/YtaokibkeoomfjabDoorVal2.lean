/-
  The contracts of the answer's Right and of value's right: is a value right?
-/
import Derived.Test.YtaokibkeoomfjabDoorVal1
namespace Go.Proofs.YtaokibkeoomfjabDoor
open Go.RowKit

theorem empty_or (s : ByteArray) : s = ⟨#[]⟩ ∨ (s ≠ ⟨#[]⟩ ∧ (s.toList == []) = false) := by
  by_cases h : s = ⟨#[]⟩
  · exact .inl h
  · refine .inr ⟨h, ?_⟩
    rw [ByteArray.toList_eq]
    obtain ⟨⟨l⟩⟩ := s
    cases l with
    | nil => exact absurd rfl h
    | cons a l => rfl
theorem zero_or (n : Int) : n = 0 ∨ (n ≠ 0 ∧ (n == 0) = false) := by
  by_cases h : n = 0
  · exact .inl h
  · exact .inr ⟨h, by simpa using h⟩
theorem bad_nsbc (n : Int) (s : ByteArray) (b : Bool) (c : Int) : (n = 0 ∧ s = ⟨#[]⟩ ∧ b = false ∧ c = 0) ∨ (n ≠ 0 ∧ (n == 0) = false) ∨ (n = 0 ∧ s ≠ ⟨#[]⟩ ∧ (s.toList == []) = false) ∨ (n = 0 ∧ s = ⟨#[]⟩ ∧ b = true) ∨ (n = 0 ∧ s = ⟨#[]⟩ ∧ b = false ∧ c ≠ 0 ∧ (c == 0) = false) := by
  rcases zero_or n with h | h <;> rcases empty_or s with i | i <;> rcases zero_or c with j | j <;> cases b <;> simp_all
theorem bad_sbc (s : ByteArray) (b : Bool) (c : Int) : (s = ⟨#[]⟩ ∧ b = false ∧ c = 0) ∨ (s ≠ ⟨#[]⟩ ∧ (s.toList == []) = false) ∨ (s = ⟨#[]⟩ ∧ b = true) ∨ (s = ⟨#[]⟩ ∧ b = false ∧ c ≠ 0 ∧ (c == 0) = false) := by
  rcases empty_or s with i | i <;> rcases zero_or c with j | j <;> cases b <;> simp_all
theorem bad_nbc (n : Int) (b : Bool) (c : Int) : (n = 0 ∧ b = false ∧ c = 0) ∨ (n ≠ 0 ∧ (n == 0) = false) ∨ (n = 0 ∧ b = true) ∨ (n = 0 ∧ b = false ∧ c ≠ 0 ∧ (c == 0) = false) := by
  rcases zero_or n with h | h <;> rcases zero_or c with j | j <;> cases b <;> simp_all
theorem bad_nsc (n : Int) (s : ByteArray) (c : Int) : (n = 0 ∧ s = ⟨#[]⟩ ∧ c = 0) ∨ (n ≠ 0 ∧ (n == 0) = false) ∨ (n = 0 ∧ s ≠ ⟨#[]⟩ ∧ (s.toList == []) = false) ∨ (n = 0 ∧ s = ⟨#[]⟩ ∧ c ≠ 0 ∧ (c == 0) = false) := by
  rcases zero_or n with h | h <;> rcases empty_or s with i | i <;> rcases zero_or c with j | j <;> simp_all
theorem bad_nsb (n : Int) (s : ByteArray) (b : Bool) : (n = 0 ∧ s = ⟨#[]⟩ ∧ b = false) ∨ (n ≠ 0 ∧ (n == 0) = false) ∨ (n = 0 ∧ s ≠ ⟨#[]⟩ ∧ (s.toList == []) = false) ∨ (n = 0 ∧ s = ⟨#[]⟩ ∧ b = true) := by
  rcases zero_or n with h | h <;> rcases empty_or s with i | i <;> cases b <;> simp_all
theorem kind_or (k : Int) : k = 0 ∨ k = 1 ∨ k = 2 ∨ k = 3 ∨ k = 4 ∨ ((k == 0) = false ∧ (k == 1) = false ∧ (k == 2) = false ∧ (k == 3) = false ∧ (k == 4) = false) := by
  by_cases h0 : k = 0 <;> by_cases h1 : k = 1 <;> by_cases h2 : k = 2 <;> by_cases h3 : k = 3 <;> by_cases h4 : k = 4 <;> simp_all
theorem right_none {k n : Int} {s : ByteArray} {b : Bool} {c : Int} (h : (k == 0) = false ∧ (k == 1) = false ∧ (k == 2) = false ∧ (k == 3) = false ∧ (k == 4) = false) : rightB k n s b c = false := by
  simp at h
  simp [rightB, h]
end Go.Proofs.YtaokibkeoomfjabDoor
