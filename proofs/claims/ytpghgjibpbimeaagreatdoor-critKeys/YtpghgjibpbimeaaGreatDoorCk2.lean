/-
  The key of a criterion: its text, and when two are one.
-/
import Derived.Test.YtpghgjibpbimeaaGreatDoorCk1
import Derived.Test.YtpghgjibpbimeaaGreatDoorRf4
import Derived.Test.YtpghgjibpbimeaaGreatDoorKVal4
namespace Go.Proofs.YtpghgjibpbimeaaGreatDoor
open Go.RowKit
set_option linter.unusedSimpArgs false

/-- What steps of a text stand for. -/
def tameT (s : ByteArray) : List UInt8 := ownsR (stepsR (foldL s.data.toList))
/-- The text of a key, where there is one. -/
def keyT (k n : Int) (s : ByteArray) (b : Bool) (c : Int) : List UInt8 := Lib.itoa k ++ (if k = 2 then tameT s else (showV k n s b c).1)
/-- Has a right criterion with = a key? -/
def keyedV (k : Int) (s : ByteArray) : Bool := decide (k ≠ 2) || !wildL s.data.toList
def keyedR (g : ByteArray) (k n : Int) (s : ByteArray) (b : Bool) (c : Int) : Bool := rightC g k n s b c && decide (g.data.toList = [61]) && keyedV k s
/-- Do two criteria that have keys fit the same values? -/
def sameK (k n : Int) (s : ByteArray) (b : Bool) (c k' n' : Int) (s' : ByteArray) (b' : Bool) (c' : Int) : Bool :=
  decide (k = k') && (if k = 2 then decide (tameT s = tameT s') else decide (n = n') && decide (b = b') && decide (c = c'))
theorem itoa_kind {k : Int} (h : k = 0 ∨ k = 1 ∨ k = 2 ∨ k = 3 ∨ k = 4) : Lib.itoa k = [48 + UInt8.ofNat k.toNat] := by
  rcases h with rfl | rfl | rfl | rfl | rfl <;> kernel_rfl
theorem right_kind {k n : Int} {s : ByteArray} {b : Bool} {c : Int} (h : rightB k n s b c = true) : k = 0 ∨ k = 1 ∨ k = 2 ∨ k = 3 ∨ k = 4 := by
  rcases right_cases h with ⟨h, _⟩ | ⟨h, _⟩ | ⟨h, _⟩ | ⟨h, _⟩ | ⟨h, _⟩ <;> simp [h]
theorem kind_digit {k k' : Int} (h : k = 0 ∨ k = 1 ∨ k = 2 ∨ k = 3 ∨ k = 4) (h' : k' = 0 ∨ k' = 1 ∨ k' = 2 ∨ k' = 3 ∨ k' = 4) (e : (48 : UInt8) + UInt8.ofNat k.toNat = 48 + UInt8.ofNat k'.toNat) : k = k' := by
  rcases h with rfl | rfl | rfl | rfl | rfl <;> rcases h' with rfl | rfl | rfl | rfl | rfl <;> first | rfl | (exfalso; revert e; decide)
theorem name_inj {c c' : Int} (h1 : 1 ≤ c) (h7 : c ≤ 7) (h1' : 1 ≤ c') (h7' : c' ≤ 7) (e : nameL c.toNat = nameL c'.toNat) : c = c' := by
  have a : c = 1 ∨ c = 2 ∨ c = 3 ∨ c = 4 ∨ c = 5 ∨ c = 6 ∨ c = 7 := by omega
  have a' : c' = 1 ∨ c' = 2 ∨ c' = 3 ∨ c' = 4 ∨ c' = 5 ∨ c' = 6 ∨ c' = 7 := by omega
  rcases a with rfl | rfl | rfl | rfl | rfl | rfl | rfl <;> rcases a' with rfl | rfl | rfl | rfl | rfl | rfl | rfl <;> first | rfl | (exfalso; revert e; decide)
theorem show_inj {k n : Int} {s : ByteArray} {b : Bool} {c n' : Int} {s' : ByteArray} {b' : Bool} {c' : Int} (h : rightB k n s b c = true) (h' : rightB k n' s' b' c' = true) (h2 : k ≠ 2) (e : (showV k n s b c).1 = (showV k n' s' b' c').1) : n = n' ∧ b = b' ∧ c = c' := by
  unfold showV wordsV at e
  rw [h, h'] at e
  rcases right_cases h with ⟨rfl, rfl, rfl, rfl, rfl⟩ | ⟨rfl, hf, rfl, rfl, rfl⟩ | ⟨hk, _⟩ | ⟨rfl, rfl, rfl, rfl⟩ | ⟨rfl, rfl, rfl, rfl, hc⟩
  · rcases right_cases h' with ⟨_, rfl, rfl, rfl, rfl⟩ | ⟨hk, _⟩ | ⟨hk, _⟩ | ⟨hk, _⟩ | ⟨hk, _⟩
    · exact ⟨rfl, rfl, rfl⟩
    all_goals exact absurd hk (by decide)
  · rcases right_cases h' with ⟨hk, _⟩ | ⟨_, hf', rfl, rfl, rfl⟩ | ⟨hk, _⟩ | ⟨hk, _⟩ | ⟨hk, _⟩
    · exact absurd hk (by decide)
    · refine ⟨?_, rfl, rfl⟩
      have e1 : textOf n = textOf n' := by simpa using e
      have p1 := parse_print hf
      have p2 := parse_print hf'
      rw [e1, p2] at p1
      exact (congrArg Prod.fst p1).symm
    all_goals exact absurd hk (by decide)
  · exact absurd hk h2
  · rcases right_cases h' with ⟨hk, _⟩ | ⟨hk, _⟩ | ⟨hk, _⟩ | ⟨_, rfl, rfl, rfl⟩ | ⟨hk, _⟩
    · exact absurd hk (by decide)
    · exact absurd hk (by decide)
    · exact absurd hk (by decide)
    · refine ⟨rfl, ?_, rfl⟩
      cases b <;> cases b' <;> first | rfl | (exfalso; revert e; decide)
    · exact absurd hk (by decide)
  · rcases right_cases h' with ⟨hk, _⟩ | ⟨hk, _⟩ | ⟨hk, _⟩ | ⟨hk, _⟩ | ⟨_, rfl, rfl, rfl, hc'⟩
    · exact absurd hk (by decide)
    · exact absurd hk (by decide)
    · exact absurd hk (by decide)
    · exact absurd hk (by decide)
    · refine ⟨rfl, rfl, name_inj hc.1 hc.2 hc'.1 hc'.2 (by simpa using e)⟩
theorem key_same {k n : Int} {s : ByteArray} {b : Bool} {c k' n' : Int} {s' : ByteArray} {b' : Bool} {c' : Int} (h : rightB k n s b c = true) (h' : rightB k' n' s' b' c' = true) :
    decide (keyT k n s b c = keyT k' n' s' b' c') = sameK k n s b c k' n' s' b' c' := by
  have q := right_kind h
  have q' := right_kind h'
  unfold keyT sameK
  rw [itoa_kind q, itoa_kind q']
  by_cases hk : k = k'
  · subst hk
    rw [decide_eq_true rfl, Bool.true_and]
    by_cases h2 : k = 2
    · rw [if_pos h2, if_pos h2, if_pos h2]
      simp
    · rw [if_neg h2, if_neg h2, if_neg h2]
      rw [Bool.eq_iff_iff]
      simp only [decide_eq_true_eq, Bool.and_eq_true]
      constructor
      · intro e
        obtain ⟨a1, a2, a3⟩ := show_inj h h' h2 (by simpa using e)
        exact ⟨⟨a1, a2⟩, a3⟩
      · rintro ⟨⟨rfl, rfl⟩, rfl⟩
        have e1 : s = s' := by
          rcases right_cases h with ⟨_, _, e, _⟩ | ⟨_, _, e, _⟩ | ⟨e, _⟩ | ⟨_, _, e, _⟩ | ⟨_, _, e, _⟩ <;> rcases right_cases h' with ⟨_, _, f, _⟩ | ⟨_, _, f, _⟩ | ⟨f, _⟩ | ⟨_, _, f, _⟩ | ⟨_, _, f, _⟩ <;> first | exact absurd e h2 | exact absurd f h2 | rw [e, f]
        rw [e1]
  · rw [decide_eq_false hk, Bool.false_and, decide_eq_false_iff_not]
    intro e
    exact hk (kind_digit q q' (by simpa using (List.cons.inj e).1))
end Go.Proofs.YtpghgjibpbimeaaGreatDoor
