/-
  How two values stand, and whether they are the same, in plain words.
-/
import Derived.Test.YtaokibkeoomfjaaDoorValMath
import Derived.Test.YtaokibkeoomfjaaDoorOrdMath
namespace Go.Proofs.YtaokibkeoomfjaaDoor
open Go.RowKit

/-- How values of which none is a fault stand, once a blank is what it is beside the other. -/
def ordV (k n : Int) (s : ByteArray) (b : Bool) (k' n' : Int) (s' : ByteArray) (b' : Bool) : Int :=
  if k ≠ k' then cmpI k k' else if k = 1 then cmpI n n' else if k = 2 then cmpL (foldL s.data.toList) (foldL s'.data.toList) else if k = 3 then cmpB b b' else 0
/-- Why two values do not stand. -/
def troubleV2 (k n : Int) (s : ByteArray) (b : Bool) (c : Int) (k' n' : Int) (s' : ByteArray) (b' : Bool) (c' : Int) : Int :=
  if rightB k n s b c && rightB k' n' s' b' c' then (if c = 0 then c' else c) else 2
/-- A kind beside another. -/
def besK (k k' : Int) : Int := if k = 0 then k' else k
/-- What Compare says. -/
def compareV (k n : Int) (s : ByteArray) (b : Bool) (c : Int) (k' n' : Int) (s' : ByteArray) (b' : Bool) (c' : Int) : Int × Int :=
  if troubleV2 k n s b c k' n' s' b' c' ≠ 0 then (0, troubleV2 k n s b c k' n' s' b' c') else (ordV (besK k k') n s b (besK k' k) n' s' b', 0)
/-- What Alike says. -/
def alikeV (k n : Int) (s : ByteArray) (b : Bool) (c : Int) (k' n' : Int) (s' : ByteArray) (b' : Bool) (c' : Int) : Bool :=
  rightB k n s b c && rightB k' n' s' b' c' && (decide (k = k') && decide (n = n') && decide (foldL s.data.toList = foldL s'.data.toList) && decide (b = b') && decide (c = c'))
theorem trouble2_no {k n : Int} {s : ByteArray} {b : Bool} {c : Int} {k' n' : Int} {s' : ByteArray} {b' : Bool} {c' : Int} (h : rightB k n s b c = false ∨ rightB k' n' s' b' c' = false) : troubleV2 k n s b c k' n' s' b' c' = 2 := by
  rcases h with h | h <;> simp [troubleV2, h]
theorem trouble2_yes {k n : Int} {s : ByteArray} {b : Bool} {c : Int} {k' n' : Int} {s' : ByteArray} {b' : Bool} {c' : Int} (h : rightB k n s b c = true) (h' : rightB k' n' s' b' c' = true) : troubleV2 k n s b c k' n' s' b' c' = if c = 0 then c' else c := by
  simp [troubleV2, h, h']
/-- A right value that is no fault has no code. -/
theorem right_code {k n : Int} {s : ByteArray} {b : Bool} {c : Int} (h : rightB k n s b c = true) : (k = 4 ∧ 1 ≤ c ∧ c ≤ 7) ∨ (k ≠ 4 ∧ c = 0) := by
  rcases right_cases h with ⟨rfl, _, _, _, h⟩ | ⟨rfl, _, _, _, h⟩ | ⟨rfl, _, _, _, h⟩ | ⟨rfl, _, _, h⟩ | ⟨rfl, _, _, _, h⟩
  · exact .inr ⟨by decide, h⟩
  · exact .inr ⟨by decide, h⟩
  · exact .inr ⟨by decide, h⟩
  · exact .inr ⟨by decide, h⟩
  · exact .inl ⟨rfl, h⟩
theorem right_zero {n : Int} {s : ByteArray} {b : Bool} {c : Int} (h : rightB 0 n s b c = true) : n = 0 ∧ s = ⟨#[]⟩ ∧ b = false ∧ c = 0 := by
  rcases right_cases h with ⟨_, h⟩ | ⟨h, _⟩ | ⟨h, _⟩ | ⟨h, _⟩ | ⟨h, _⟩
  · exact h
  all_goals exact absurd h (by decide)
end Go.Proofs.YtaokibkeoomfjaaDoor
