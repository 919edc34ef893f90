/-
  What the document says of values, in plain words: what a value counts for, how values stand, how they are shown and read.
-/
import Derived.Test.YtaokibkeoomfjaaDoorVal2
import Derived.Test.YtaokibkeoomfjaaDoorFoldMath
import Derived.Test.YtaokibkeoomfjaaDoorNumTextsWalk
namespace Go.Proofs.YtaokibkeoomfjaaDoor
open Go.RowKit

theorem right_cases {k n : Int} {s : ByteArray} {b : Bool} {c : Int} (h : rightB k n s b c = true) :
    (k = 0 ∧ n = 0 ∧ s = ⟨#[]⟩ ∧ b = false ∧ c = 0) ∨ (k = 1 ∧ fitsB n = true ∧ s = ⟨#[]⟩ ∧ b = false ∧ c = 0) ∨ (k = 2 ∧ n = 0 ∧ s.size ≤ 255 ∧ b = false ∧ c = 0) ∨ (k = 3 ∧ n = 0 ∧ s = ⟨#[]⟩ ∧ c = 0) ∨ (k = 4 ∧ n = 0 ∧ s = ⟨#[]⟩ ∧ b = false ∧ 1 ≤ c ∧ c ≤ 7) := by
  rcases kind_or k with rfl | rfl | rfl | rfl | rfl | hk
  · left; simp [rightB] at h; exact ⟨rfl, h.1.1.1, h.1.1.2, h.1.2, h.2⟩
  · right; left; simp [rightB] at h; exact ⟨rfl, h.1.1.1, h.1.1.2, h.1.2, h.2⟩
  · right; right; left; simp [rightB] at h; exact ⟨rfl, h.1.1.1, h.1.1.2, h.1.2, h.2⟩
  · right; right; right; left; simp [rightB] at h; exact ⟨rfl, h.1.1, h.1.2, h.2⟩
  · right; right; right; right; simp [rightB] at h; exact ⟨rfl, h.1.1.1.1, h.1.1.1.2, h.1.1.2, h.1.2, h.2⟩
  · rw [right_none hk] at h; cases h

theorem ba_eta (s : ByteArray) : (⟨s.data.toList.toArray⟩ : ByteArray) = s := by cases s; rfl

/-- Why a value counts for nothing. -/
def troubleV (k n : Int) (s : ByteArray) (b : Bool) (c : Int) : Int := if rightB k n s b c then c else 2
theorem troubleV_no {k n : Int} {s : ByteArray} {b : Bool} {c : Int} (h : rightB k n s b c = false) : troubleV k n s b c = 2 := by simp [troubleV, h]
theorem troubleV_yes {k n : Int} {s : ByteArray} {b : Bool} {c : Int} (h : rightB k n s b c = true) : troubleV k n s b c = c := by simp [troubleV, h]

/-- The number that a text counts for. -/
def countR (l : List UInt8) : Int × Int := if (parseR l).2 = 0 then ((parseR l).1, 0) else (0, 2)
/-- The truth that a text names. -/
def namedR (l : List UInt8) : Bool × Bool := if foldL l = [84, 82, 85, 69] then (true, true) else if foldL l = [70, 65, 76, 83, 69] then (false, true) else (false, false)
def numberV (k n : Int) (s : ByteArray) (b : Bool) (c : Int) : Int × Int :=
  if rightB k n s b c = false then (0, 2) else if k = 4 then (0, c) else if k = 2 then countR s.data.toList else if k = 3 then (if b then 1000000 else 0, 0) else (n, 0)
def wordsV (k n : Int) (s : ByteArray) (b : Bool) (c : Int) : List UInt8 × Int :=
  if rightB k n s b c = false then ([], 2) else if k = 4 then ([], c) else if k = 1 then (textOf n, 0) else if k = 3 then (if b then [84, 82, 85, 69] else [70, 65, 76, 83, 69], 0) else (s.data.toList, 0)
def truthV (k n : Int) (s : ByteArray) (b : Bool) (c : Int) : Bool × Int :=
  if rightB k n s b c = false then (false, 2) else if k = 4 then (false, c) else if k = 1 then (n != 0, 0) else if k = 2 then ((namedR s.data.toList).1, if (namedR s.data.toList).2 then 0 else 2) else (b, 0)
/-- Check. -/
def checkV (k n : Int) (s : ByteArray) (b : Bool) (c : Int) : Int := if rightB k n s b c then 0 else 2

theorem countR_yes {l : List UInt8} (h : (parseR l).2 = 0) : countR l = ((parseR l).1, 0) := by simp [countR, h]
theorem countR_no {l : List UInt8} (h : ¬ (parseR l).2 = 0) : countR l = (0, 2) := by simp [countR, h]
theorem namedR_t {l : List UInt8} (h : foldL l = [84, 82, 85, 69]) : namedR l = (true, true) := by simp [namedR, h]
theorem namedR_f {l : List UInt8} (h : foldL l = [70, 65, 76, 83, 69]) : namedR l = (false, true) := by simp [namedR, h]
theorem namedR_no {l : List UInt8} (h : ¬ foldL l = [84, 82, 85, 69]) (h' : ¬ foldL l = [70, 65, 76, 83, 69]) : namedR l = (false, false) := by simp [namedR, h, h']

theorem right_blank : rightB 0 0 ⟨#[]⟩ false 0 = true := by decide
theorem right_num {n : Int} (h : fitsB n = true) : rightB 1 n ⟨#[]⟩ false 0 = true := by simp [rightB, h]
theorem right_text {s : ByteArray} (h : s.size ≤ 255) : rightB 2 0 s false 0 = true := by simp [rightB, h]
theorem right_truth (b : Bool) : rightB 3 0 ⟨#[]⟩ b 0 = true := by cases b <;> decide
theorem right_fault {c : Int} (h : 1 ≤ c) (h' : c ≤ 7) : rightB 4 0 ⟨#[]⟩ false c = true := by simp [rightB, h, h']
end Go.Proofs.YtaokibkeoomfjaaDoor
