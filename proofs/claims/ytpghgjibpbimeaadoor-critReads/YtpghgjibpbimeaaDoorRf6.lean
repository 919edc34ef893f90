/-
  How many bytes the longest sign at a text's beginning has, as the answer counts them.
-/
import Derived.Test.YtpghgjibpbimeaaDoorRf5
namespace Go.Proofs.YtpghgjibpbimeaaDoor
open Go.RowKit
set_option linter.unusedSimpArgs false

def cnt1 (l : List UInt8) : Nat := if 1 ≤ l.length ∧ csignB (l.take 1) = true then 1 else 0
def cnt2 (l : List UInt8) : Nat := if 2 ≤ l.length ∧ csignB (l.take 2) = true then 2 else cnt1 l
theorem one_sign (a : UInt8) : csignB [a] = (decide (a = 60) || decide (a = 61) || decide (a = 62)) := by
  unfold csignB csigns
  rw [Bool.eq_iff_iff]
  simp
  constructor
  · rintro (h | h | h) <;> simp [h]
  · rintro ((h | h) | h) <;> simp [h]
theorem two_sign (a b : UInt8) : csignB [a, b] = ((decide (a = 60) && decide (b = 62)) || (decide (a = 60) && decide (b = 61)) || (decide (a = 62) && decide (b = 61))) := by
  unfold csignB csigns
  rw [Bool.eq_iff_iff]
  simp
  constructor
  · rintro (h | h | h) <;> simp [h]
  · rintro ((h | h) | h) <;> simp [h]
theorem ahead_two (a b : UInt8) (r : List UInt8) : aheadR (a :: b :: r) = if csignB [a, b] = true then [a, b] else if csignB [a] = true then [a] else [] := by
  rw [two_sign, one_sign]
  unfold aheadR csigns Lib.hasPrefix
  by_cases a1 : a = 60
  · subst a1
    by_cases b1 : b = 62
    · subst b1; simp [List.find?, List.isPrefixOf]
    · by_cases b2 : b = 61
      · subst b2; simp [List.find?, List.isPrefixOf]
      · have c1 : ((62 : UInt8) == b) = false := by rw [beq_eq_false_iff_ne]; exact fun h => b1 h.symm
        have c2 : ((61 : UInt8) == b) = false := by rw [beq_eq_false_iff_ne]; exact fun h => b2 h.symm
        simp [List.find?, List.isPrefixOf, b1, b2, c1, c2]
  · have a1' : ((60 : UInt8) == a) = false := by rw [beq_eq_false_iff_ne]; exact fun h => a1 h.symm
    by_cases a2 : a = 62
    · subst a2
      by_cases b2 : b = 61
      · subst b2; simp [List.find?, List.isPrefixOf]
      · have c2 : ((61 : UInt8) == b) = false := by rw [beq_eq_false_iff_ne]; exact fun h => b2 h.symm
        simp [List.find?, List.isPrefixOf, b2, c2]
    · have a2' : ((62 : UInt8) == a) = false := by rw [beq_eq_false_iff_ne]; exact fun h => a2 h.symm
      by_cases a3 : a = 61
      · subst a3; simp [List.find?, List.isPrefixOf]
      · have a3' : ((61 : UInt8) == a) = false := by rw [beq_eq_false_iff_ne]; exact fun h => a3 h.symm
        simp [List.find?, List.isPrefixOf, a1, a2, a3, a1', a2', a3']
theorem ahead_one (a : UInt8) : aheadR [a] = if csignB [a] = true then [a] else [] := by
  rw [one_sign]
  unfold aheadR csigns Lib.hasPrefix
  by_cases a1 : a = 60
  · subst a1; simp [List.find?, List.isPrefixOf]
  · have a1' : ((60 : UInt8) == a) = false := by rw [beq_eq_false_iff_ne]; exact fun h => a1 h.symm
    by_cases a2 : a = 62
    · subst a2; simp [List.find?, List.isPrefixOf]
    · have a2' : ((62 : UInt8) == a) = false := by rw [beq_eq_false_iff_ne]; exact fun h => a2 h.symm
      by_cases a3 : a = 61
      · subst a3; simp [List.find?, List.isPrefixOf]
      · have a3' : ((61 : UInt8) == a) = false := by rw [beq_eq_false_iff_ne]; exact fun h => a3 h.symm
        simp [List.find?, List.isPrefixOf, a1, a2, a3, a1', a2', a3']
theorem ahead_cnt (l : List UInt8) : aheadR l = l.take (cnt2 l) ∧ cnt2 l ≤ l.length ∧ cnt2 l ≤ 2 := by
  unfold cnt2 cnt1
  match l with
  | [] => exact ⟨rfl, by simp, by simp⟩
  | [a] =>
    rw [ahead_one]
    simp only [List.length_cons, List.length_nil, List.take_succ_cons, List.take_nil, List.take_zero]
    by_cases h : csignB [a] = true
    · simp [h]
    · simp [h]
  | a :: b :: r =>
    rw [ahead_two]
    simp only [List.length_cons, List.take_succ_cons, List.take_zero]
    by_cases h : csignB [a, b] = true
    · simp [h]
    · by_cases h2 : csignB [a] = true
      · simp [h, h2]
      · simp [h, h2]
end Go.Proofs.YtpghgjibpbimeaaDoor
