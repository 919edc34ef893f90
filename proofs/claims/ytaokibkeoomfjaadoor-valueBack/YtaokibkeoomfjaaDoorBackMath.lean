/-
  What is shown is read as it was, if it is no text; what is read is shown, and read as the same.
-/
import Derived.Test.YtaokibkeoomfjaaDoorShowMath
import Derived.Test.YtaokibkeoomfjaaDoorCompMath
namespace Go.Proofs.YtaokibkeoomfjaaDoor
open Go.RowKit

theorem text_short {n : Int} (h : fitsB n = true) : (textOf n).length ≤ 255 := by
  obtain ⟨n1, n2⟩ := fitsB_true h
  have x0 := absI_nn n
  have x1 := absI_le n1 n2
  have hfl := (fracT_facts (absI n)).1
  have hdl := dec_len (u := (absI n / 1000000).toNat) (by omega)
  unfold textOf
  rw [List.length_append, List.length_append]
  split <;> split <;> simp <;> omega
theorem parse_nil : parseR [] = (0, 5) := by decide
theorem text_some {n : Int} (h : fitsB n = true) : textOf n ≠ [] := fun e => by
  have := parse_print h
  rw [e, parse_nil] at this
  exact absurd (show (5 : Int) = 0 from congrArg Prod.snd this) (by decide)
theorem name_read {j : Nat} (h1 : 1 ≤ j) (h7 : j ≤ 7) : readR (nameL j) = (⟨4, 0, [], false, j⟩, 0) := by
  have : j = 1 ∨ j = 2 ∨ j = 3 ∨ j = 4 ∨ j = 5 ∨ j = 6 ∨ j = 7 := by omega
  rcases this with rfl | rfl | rfl | rfl | rfl | rfl | rfl
  all_goals exact read_fault (by decide) (by decide) (by decide) (by decide)
theorem show_no {k n : Int} {s : ByteArray} {b : Bool} {c : Int} (h : rightB k n s b c = false) : showV k n s b c = ([], 2) := by simp [showV, h]
theorem show_ok {k n : Int} {s : ByteArray} {b : Bool} {c : Int} (h : rightB k n s b c = true) : (showV k n s b c).2 = 0 := by
  unfold showV
  rw [if_neg (by rw [h]; decide)]
  split <;> rfl
theorem show_text {s : ByteArray} (h : s.size ≤ 255) : showV 2 0 s false 0 = (s.data.toList, 0) := by simp [showV, wordsV, right_text h]
theorem show_num {n : Int} (h : fitsB n = true) : showV 1 n ⟨#[]⟩ false 0 = (textOf n, 0) := by simp [showV, wordsV, right_num h]
theorem show_fault {c : Int} (h : 1 ≤ c) (h' : c ≤ 7) : showV 4 0 ⟨#[]⟩ false c = (nameL c.toNat, 0) := by simp [showV, right_fault h h']
theorem nil_list : (⟨#[]⟩ : ByteArray).data.toList = [] := rfl
theorem read_show {k n : Int} {s : ByteArray} {b : Bool} {c : Int} (h : rightB k n s b c = true) (hk : k ≠ 2) : readR (showV k n s b c).1 = (⟨k, n, s.data.toList, b, c⟩, 0) := by
  rcases right_cases h with ⟨rfl, rfl, rfl, rfl, rfl⟩ | ⟨rfl, hf, rfl, rfl, rfl⟩ | ⟨rfl, _⟩ | ⟨rfl, rfl, rfl, rfl⟩ | ⟨rfl, rfl, rfl, rfl, h1, h7⟩
  · exact read_nil
  · rw [show_num hf, read_num (text_some hf) (by rw [parse_print hf]), parse_print hf, nil_list]
  · exact absurd rfl hk
  · cases b
    · exact read_truth (l := [70, 65, 76, 83, 69]) (by decide) (by decide) (by decide)
    · exact read_truth (l := [84, 82, 85, 69]) (by decide) (by decide) (by decide)
  · rw [show_fault h1 h7]
    have := name_read (j := c.toNat) (by omega) (by omega)
    rw [Int.toNat_of_nonneg (by omega)] at this
    exact this
theorem show_short {k n : Int} {s : ByteArray} {b : Bool} {c : Int} : (showV k n s b c).1.length ≤ 255 := by
  cases h : rightB k n s b c
  · rw [show_no h]; decide
  · rcases right_cases h with ⟨rfl, rfl, rfl, rfl, rfl⟩ | ⟨rfl, hf, rfl, rfl, rfl⟩ | ⟨rfl, rfl, hl, rfl, rfl⟩ | ⟨rfl, rfl, rfl, rfl⟩ | ⟨rfl, rfl, rfl, rfl, h1, h7⟩
    · decide
    · rw [show_num hf]; exact text_short hf
    · rw [show_text hl]; simpa using hl
    · cases b <;> decide
    · rw [show_fault h1 h7]
      obtain ⟨j, rfl⟩ : ∃ j : Nat, c = (j : Int) := ⟨c.toNat, by omega⟩
      have : j = 1 ∨ j = 2 ∨ j = 3 ∨ j = 4 ∨ j = 5 ∨ j = 6 ∨ j = 7 := by omega
      rcases this with rfl | rfl | rfl | rfl | rfl | rfl | rfl <;> decide
theorem show_size {k n : Int} {s : ByteArray} {b : Bool} {c : Int} : (⟨(showV k n s b c).1.toArray⟩ : ByteArray).size ≤ maxLen := by
  have := show_short (k := k) (n := n) (s := s) (b := b) (c := c)
  show (showV k n s b c).1.toArray.size ≤ maxLen
  rw [List.size_toArray]
  unfold maxLen
  omega
/-- What is read is right, shown and read as the same. -/
theorem read_back {l : List UInt8} (h : (readR l).2 = 0) :
    rightB (readR l).1.k (readR l).1.n ⟨(readR l).1.s.toArray⟩ (readR l).1.b (readR l).1.c = true ∧ readR (showV (readR l).1.k (readR l).1.n ⟨(readR l).1.s.toArray⟩ (readR l).1.b (readR l).1.c).1 = ((readR l).1, 0) := by
  by_cases h0 : l = []
  · subst h0
    rw [read_nil]
    exact ⟨by decide, read_nil⟩
  · by_cases h1 : (parseR l).2 = 0
    · rw [read_num h0 h1]
      have hr := right_num (parse_yes h1)
      exact ⟨hr, read_show hr (show (1 : Int) ≠ 2 by decide)⟩
    · cases h2 : (namedR l).2
      · by_cases h3 : faultR l = 0
        · by_cases h4 : 255 < l.length
          · rw [read_big h0 h1 h2 h3 h4] at h; exact absurd h (by decide)
          · have e := read_text h0 h1 h2 h3 h4
            have hl : (⟨l.toArray⟩ : ByteArray).size ≤ 255 := by
              show l.toArray.size ≤ 255
              rw [List.size_toArray]; omega
            rw [e]
            refine ⟨right_text hl, ?_⟩
            show readR (showV 2 0 ⟨l.toArray⟩ false 0).1 = _
            rw [show_text hl]
            exact e
        · rw [read_fault h0 h1 h2 h3]
          have hq := fault_range l
          have hr := right_fault (c := faultR l) (by omega) (by omega)
          exact ⟨hr, read_show hr (show (4 : Int) ≠ 2 by decide)⟩
      · rw [read_truth h0 h1 h2]
        exact ⟨right_truth _, read_show (right_truth _) (show (3 : Int) ≠ 2 by decide)⟩
theorem read_bad {l : List UInt8} (h : (readR l).2 ≠ 0) : (readR l).1 = ⟨0, 0, [], false, 0⟩ := by
  unfold readR at *
  repeat' split at h
  all_goals first | exact absurd rfl h | skip
  simp_all
end Go.Proofs.YtaokibkeoomfjaaDoor
