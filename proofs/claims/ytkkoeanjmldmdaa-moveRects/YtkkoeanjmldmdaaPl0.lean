/-
  Layer 5, the plain words: what a place is, a right rectangle, two places' rectangle, what two rectangles have together.
-/
import Derived.Test.YtkkoeanjmldmdaaProg
import Derived.WalkKit
import Derived.WalkSpells
import Derived.WalkLawsBesides
import Derived.Lib.MinMax
import Derived.Deep.RegionHeld3
namespace Go.Proofs.Ytkkoeanjmldmdaa
open Go.RowKit

theorem hide {p : Prop} (h : p) : Hid p := h
theorem size_alloc (w : World) (o : Obj) : w.heap.size ≤ (w.alloc o).heap.size := by simp
theorem size_set (w : World) (a : Addr) (v : Value) : w.heap.size ≤ (w.setCell a v).heap.size := by simp
theorem size_drewN (w : World) (n : Nat) : w.heap.size ≤ (w.drewN n).heap.size := by simp
theorem size_drew (w : World) : w.heap.size ≤ w.drew.heap.size := by simp
theorem below_drewN {B : Nat} {w w' : World} (h : Below B w w') (n : Nat) : Below B w (w'.drewN n) := by
  induction n with
  | zero => exact h
  | succ n ih => exact ih.drew
/-- A column. -/
def colB (c : Int) : Bool := decide (1 ≤ c) && decide (c ≤ 16384)
/-- A row. -/
def rowB (r : Int) : Bool := decide (1 ≤ r) && decide (r ≤ 1048576)
/-- A place. -/
def placeB (r c : Int) : Bool := rowB r && colB c
/-- A right rectangle. -/
def rightB (t l b r : Int) : Bool := placeB t l && placeB b r && decide (t ≤ b) && decide (l ≤ r)
theorem colB_iff {c : Int} : colB c = true ↔ 1 ≤ c ∧ c ≤ 16384 := by unfold colB; simp
theorem rowB_iff {c : Int} : rowB c = true ↔ 1 ≤ c ∧ c ≤ 1048576 := by unfold rowB; simp
theorem colB_no {c : Int} : colB c = false ↔ c < 1 ∨ 16384 < c := by unfold colB; simp; omega
theorem rowB_no {c : Int} : rowB c = false ↔ c < 1 ∨ 1048576 < c := by unfold rowB; simp; omega
theorem placeB_iff {r c : Int} : placeB r c = true ↔ 1 ≤ r ∧ r ≤ 1048576 ∧ 1 ≤ c ∧ c ≤ 16384 := by unfold placeB; rw [Bool.and_eq_true, rowB_iff, colB_iff]; omega
theorem placeB_no {r c : Int} : placeB r c = false ↔ r < 1 ∨ 1048576 < r ∨ c < 1 ∨ 16384 < c := by unfold placeB; rw [Bool.and_eq_false_iff, rowB_no, colB_no]; omega
theorem rightB_iff {t l b r : Int} : rightB t l b r = true ↔ 1 ≤ t ∧ b ≤ 1048576 ∧ 1 ≤ l ∧ r ≤ 16384 ∧ t ≤ b ∧ l ≤ r := by
  unfold rightB; rw [Bool.and_eq_true, Bool.and_eq_true, Bool.and_eq_true, placeB_iff, placeB_iff]; simp; omega
theorem rightB_no {t l b r : Int} : rightB t l b r = false ↔ t < 1 ∨ 1048576 < b ∨ l < 1 ∨ 16384 < r ∨ b < t ∨ r < l := by
  rw [← Bool.not_eq_true, rightB_iff]; omega
/-- The rectangle of two places, and why there is none. -/
def ofR (a b c d : Int) : Int × Int × Int × Int × Int := if placeB a b && placeB c d then (min a c, min b d, max a c, max b d, 0) else (0, 0, 0, 0, 2)
/-- What two rectangles have together. -/
def meetR (t l b r t' l' b' r' : Int) : Int × Int × Int × Int × Bool :=
  if rightB t l b r && rightB t' l' b' r' && rightB (max t t') (max l l') (min b b') (min r r') then (max t t', max l l', min b b', min r r', true) else (0, 0, 0, 0, false)
/-- Is it right, as an error? -/
def checkR (t l b r : Int) : Int := if rightB t l b r then 0 else 2
/-- Is a place in a rectangle? -/
def inB (t l b r x y : Int) : Bool := rightB t l b r && decide (t ≤ x) && decide (x ≤ b) && decide (l ≤ y) && decide (y ≤ r)
/-- The area. -/
def areaR (t l b r : Int) : Int × Int := if rightB t l b r then ((b - t + 1) * (r - l + 1), 0) else (0, 2)
theorem checkR_yes {t l b r : Int} (h : rightB t l b r = true) : checkR t l b r = 0 := by simp [checkR, h]
theorem checkR_no {t l b r : Int} (h : rightB t l b r = false) : checkR t l b r = 2 := by simp [checkR, h]
theorem inB_iff {t l b r x y : Int} : inB t l b r x y = true ↔ rightB t l b r = true ∧ t ≤ x ∧ x ≤ b ∧ l ≤ y ∧ y ≤ r := by unfold inB; simp [Bool.and_eq_true, and_assoc]
theorem area_small {t l b r : Int} (h : rightB t l b r = true) : 0 ≤ (b - t + 1) * (r - l + 1) ∧ (b - t + 1) * (r - l + 1) ≤ 17179869184 := by
  obtain ⟨h1, h2, h3, h4, h5, h6⟩ := rightB_iff.1 h
  have p1 : 0 ≤ b - t + 1 := by omega
  have p2 : 0 ≤ r - l + 1 := by omega
  have := Int.mul_le_mul (show b - t + 1 ≤ 1048576 by omega) (show r - l + 1 ≤ 16384 by omega) p2 (by decide)
  exact ⟨Int.mul_nonneg p1 p2, this⟩
end Go.Proofs.Ytkkoeanjmldmdaa
