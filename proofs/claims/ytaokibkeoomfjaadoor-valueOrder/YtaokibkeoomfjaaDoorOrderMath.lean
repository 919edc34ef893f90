/-
  Values that are no faults and no blanks stand in order.
-/
import Derived.Test.YtaokibkeoomfjaaDoorCompMath
namespace Go.Proofs.YtaokibkeoomfjaaDoor
open Go.RowKit

/-- Right, no fault, no blank? -/
def plainB (k n : Int) (s : ByteArray) (b : Bool) (c : Int) : Bool := rightB k n s b c && decide (k ≠ 4) && decide (k ≠ 0)
theorem plain_cases {k n : Int} {s : ByteArray} {b : Bool} {c : Int} (h : plainB k n s b c = true) :
    rightB k n s b c = true ∧ c = 0 ∧ ((k = 1 ∧ s = ⟨#[]⟩ ∧ b = false) ∨ (k = 2 ∧ n = 0 ∧ b = false) ∨ (k = 3 ∧ n = 0 ∧ s = ⟨#[]⟩)) := by
  simp [plainB] at h
  obtain ⟨⟨hr, h4⟩, h0⟩ := h
  refine ⟨hr, ?_⟩
  rcases right_cases hr with ⟨rfl, _⟩ | ⟨rfl, _, hs, hb, hc⟩ | ⟨rfl, hn, _, hb, hc⟩ | ⟨rfl, hn, hs, hc⟩ | ⟨rfl, _⟩
  · exact absurd rfl h0
  · exact ⟨hc, .inl ⟨rfl, hs, hb⟩⟩
  · exact ⟨hc, .inr (.inl ⟨rfl, hn, hb⟩)⟩
  · exact ⟨hc, .inr (.inr ⟨rfl, hn, hs⟩)⟩
  · exact absurd rfl h4
theorem compare_plain {k n : Int} {s : ByteArray} {b : Bool} {c : Int} {k' n' : Int} {s' : ByteArray} {b' : Bool} {c' : Int} (h : plainB k n s b c = true) (h' : plainB k' n' s' b' c' = true) :
    compareV k n s b c k' n' s' b' c' = (ordV k n s b k' n' s' b', 0) := by
  obtain ⟨hr, hc, hk⟩ := plain_cases h
  obtain ⟨hr', hc', hk'⟩ := plain_cases h'
  have t : troubleV2 k n s b c k' n' s' b' c' = 0 := by rw [trouble2_yes hr hr', hc, hc']; rfl
  have e : besK k k' = k := by simp only [besK]; rw [if_neg (by omega)]
  have e' : besK k' k = k' := by simp only [besK]; rw [if_neg (by omega)]
  simp [compareV, t, e, e']
theorem ordV_kind {k n : Int} {s : ByteArray} {b : Bool} {k' n' : Int} {s' : ByteArray} {b' : Bool} (h : k ≠ k') : ordV k n s b k' n' s' b' = cmpI k k' := by simp [ordV, h]
theorem ordV_1 (n : Int) (s : ByteArray) (b : Bool) (n' : Int) (s' : ByteArray) (b' : Bool) : ordV 1 n s b 1 n' s' b' = cmpI n n' := by simp [ordV]
theorem ordV_2 (n : Int) (s : ByteArray) (b : Bool) (n' : Int) (s' : ByteArray) (b' : Bool) : ordV 2 n s b 2 n' s' b' = cmpL (foldL s.data.toList) (foldL s'.data.toList) := by simp [ordV]
theorem ordV_3 (n : Int) (s : ByteArray) (b : Bool) (n' : Int) (s' : ByteArray) (b' : Bool) : ordV 3 n s b 3 n' s' b' = cmpB b b' := by simp [ordV]
theorem ordV_turn (k n : Int) (s : ByteArray) (b : Bool) (k' n' : Int) (s' : ByteArray) (b' : Bool) : ordV k n s b k' n' s' b' = - ordV k' n' s' b' k n s b := by
  by_cases e : k = k'
  · subst e
    by_cases h1 : k = 1
    · subst h1; rw [ordV_1, ordV_1]; exact cmpI_turn _ _
    · by_cases h2 : k = 2
      · subst h2; rw [ordV_2, ordV_2]; exact cmpL_turn _ _
      · by_cases h3 : k = 3
        · subst h3; rw [ordV_3, ordV_3]; exact cmpB_turn _ _
        · simp [ordV, h1, h2, h3]
  · rw [ordV_kind e, ordV_kind (Ne.symm e)]; exact cmpI_turn _ _
theorem ordV_one (k n : Int) (s : ByteArray) (b : Bool) (k' n' : Int) (s' : ByteArray) (b' : Bool) : ordV k n s b k' n' s' b' = -1 ∨ ordV k n s b k' n' s' b' = 0 ∨ ordV k n s b k' n' s' b' = 1 := by
  unfold ordV
  split
  · exact cmpI_one _ _
  · split
    · exact cmpI_one _ _
    · split
      · exact cmpL_one _ _
      · split
        · exact cmpB_one _ _
        · exact .inr (.inl rfl)
/-- Those that are the same stand alike. -/
theorem alike_plain {k n : Int} {s : ByteArray} {b : Bool} {c : Int} {k' n' : Int} {s' : ByteArray} {b' : Bool} {c' : Int} (h : plainB k n s b c = true) (h' : plainB k' n' s' b' c' = true) :
    alikeV k n s b c k' n' s' b' c' = decide (ordV k n s b k' n' s' b' = 0) := by
  obtain ⟨hr, rfl, hk⟩ := plain_cases h
  obtain ⟨hr', rfl, hk'⟩ := plain_cases h'
  rw [Bool.eq_iff_iff]
  simp only [alikeV, hr, hr', Bool.true_and, Bool.and_eq_true, decide_eq_true_eq]
  by_cases e : k = k'
  · subst e
    rcases hk with ⟨rfl, rfl, rfl⟩ | ⟨rfl, rfl, rfl⟩ | ⟨rfl, rfl, rfl⟩
    · rcases hk' with ⟨_, rfl, rfl⟩ | ⟨h, _⟩ | ⟨h, _⟩
      · rw [ordV_1, cmpI_zero]; simp
      · exact absurd h (by decide)
      · exact absurd h (by decide)
    · rcases hk' with ⟨h, _⟩ | ⟨_, rfl, rfl⟩ | ⟨h, _⟩
      · exact absurd h (by decide)
      · rw [ordV_2, cmpL_zero]; simp
      · exact absurd h (by decide)
    · rcases hk' with ⟨h, _⟩ | ⟨h, _⟩ | ⟨_, rfl, rfl⟩
      · exact absurd h (by decide)
      · exact absurd h (by decide)
      · rw [ordV_3, cmpB_zero]; simp
  · rw [ordV_kind e, cmpI_zero]
    constructor
    · intro x; exact x.1.1.1.1
    · intro x; exact absurd x e
theorem ordV_stands (k n : Int) (s : ByteArray) (b : Bool) (k' n' : Int) (s' : ByteArray) (b' : Bool) (l m : Int) (t : ByteArray) (d : Bool) :
    Stands (ordV k n s b k' n' s' b') (ordV k' n' s' b' l m t d) (ordV k n s b l m t d) := by
  by_cases e : k = k'
  · subst e
    by_cases f : k = l
    · subst f
      by_cases h1 : k = 1
      · subst h1; rw [ordV_1, ordV_1, ordV_1]; exact cmpI_stands _ _ _
      · by_cases h2 : k = 2
        · subst h2; rw [ordV_2, ordV_2, ordV_2]; exact cmpL_stands _ _ _
        · by_cases h3 : k = 3
          · subst h3; rw [ordV_3, ordV_3, ordV_3]; exact cmpB_stands _ _ _
          · simp only [ordV, h1, h2, h3, if_false, ne_eq, not_true_eq_false]
            constructor <;> intro x y <;> omega
    · rw [ordV_kind f, ordV_kind f]
      have : cmpI k l ≠ 0 := fun z => f ((cmpI_zero k l).1 z)
      generalize cmpI k l = u at *
      constructor <;> intro x y <;> omega
  · by_cases f : k' = l
    · subst f
      rw [ordV_kind e, ordV_kind e]
      have : cmpI k k' ≠ 0 := fun z => e ((cmpI_zero k k').1 z)
      generalize cmpI k k' = u at *
      constructor <;> intro x y <;> omega
    · by_cases g : k = l
      · subst g
        rw [ordV_kind e, ordV_kind f]
        have a := cmpI_turn k k'
        have z : cmpI k k' ≠ 0 := fun z => e ((cmpI_zero k k').1 z)
        generalize cmpI k k' = u at *
        generalize cmpI k' k = v at *
        constructor <;> intro x y <;> omega
      · rw [ordV_kind e, ordV_kind f, ordV_kind g]
        exact cmpI_stands _ _ _
/-- How three stand, in one word. -/
theorem order_ways (a b c d : Int) (al : Bool) (h1 : a = -b) (ha : a = -1 ∨ a = 0 ∨ a = 1) (hc : c = -1 ∨ c = 0 ∨ c = 1) (hd : d = -1 ∨ d = 0 ∨ d = 1) (hal : al = decide (a = 0)) (h : Stands a c d) :
    (a = 1 ∧ b = -1 ∧ al = false) ∨ (a = 0 ∧ b = 0 ∧ al = true ∧ c = 1) ∨ (a = 0 ∧ b = 0 ∧ al = true ∧ c = 0 ∧ d = 0) ∨ (a = 0 ∧ b = 0 ∧ al = true ∧ c = -1 ∧ d = -1) ∨ (a = -1 ∧ b = 1 ∧ al = false ∧ c = 1) ∨ (a = -1 ∧ b = 1 ∧ al = false ∧ c = 0 ∧ d = -1) ∨ (a = -1 ∧ b = 1 ∧ al = false ∧ c = -1 ∧ d = -1) := by
  have e : b = -a := by omega
  subst e hal
  obtain ⟨q1, q2, q3, q4⟩ := h
  rcases ha with rfl | rfl | rfl <;> rcases hc with rfl | rfl | rfl <;> rcases hd with rfl | rfl | rfl <;> simp at *
end Go.Proofs.YtaokibkeoomfjaaDoor
