/-
  How numbers, texts and truths stand, in plain words; that they stand in order.
-/
import Derived.Test.YtaokibkeoomfjaaDoorFoldMath
namespace Go.Proofs.YtaokibkeoomfjaaDoor
open Go.RowKit

/-- How two numbers stand. -/
def cmpI (a b : Int) : Int := if a < b then -1 else if b < a then 1 else 0
/-- How two texts stand. -/
def cmpL (a b : List UInt8) : Int := if Op.bytesLess a b then -1 else if a = b then 0 else 1
/-- How two truths stand. -/
def cmpB (a b : Bool) : Int := if a = b then 0 else if b then -1 else 1

theorem bl_irrefl : ∀ l : List UInt8, Op.bytesLess l l = false
  | [] => rfl
  | a :: l => by simp [Op.bytesLess, bl_irrefl l]
theorem bl_asymm : ∀ x y : List UInt8, Op.bytesLess x y = true → Op.bytesLess y x = false
  | _, [], h => by simp [Op.bytesLess] at h
  | [], _ :: _, _ => rfl
  | a :: x, b :: y, h => by
    have ih := bl_asymm x y
    simp [Op.bytesLess, UInt8.lt_iff_toNat_lt, ← UInt8.toNat_inj] at *
    rcases h with h | ⟨h, h'⟩
    · exact ⟨by omega, fun e => by omega⟩
    · exact ⟨by omega, fun _ => ih h'⟩
theorem bl_total : ∀ x y : List UInt8, Op.bytesLess x y = false → x ≠ y → Op.bytesLess y x = true
  | [], [], _, n => absurd rfl n
  | [], _ :: _, h, _ => by simp [Op.bytesLess] at h
  | _ :: _, [], _, _ => rfl
  | a :: x, b :: y, h, n => by
    have ih := bl_total x y
    simp only [Op.bytesLess, Bool.or_eq_false_iff, decide_eq_false_iff_not, Bool.or_eq_true, decide_eq_true_eq, Bool.and_eq_true, beq_iff_eq, UInt8.lt_iff_toNat_lt] at *
    by_cases e : a = b
    · subst e
      refine .inr ⟨rfl, ih (by simpa using h.2) (fun e => n (by rw [e]))⟩
    · have : a.toNat ≠ b.toNat := fun x => e (UInt8.toNat_inj.1 x)
      exact .inl (by omega)
theorem bl_trans : ∀ x y z : List UInt8, Op.bytesLess x y = true → Op.bytesLess y z = true → Op.bytesLess x z = true
  | _, [], _, h, _ => by simp [Op.bytesLess] at h
  | _, _ :: _, [], _, h => by simp [Op.bytesLess] at h
  | [], _ :: _, _ :: _, _, _ => rfl
  | a :: x, b :: y, c :: z, h, k => by
    have ih := bl_trans x y z
    simp only [Op.bytesLess, Bool.or_eq_true, decide_eq_true_eq, Bool.and_eq_true, beq_iff_eq, UInt8.lt_iff_toNat_lt] at *
    rcases h with h | ⟨rfl, h⟩ <;> rcases k with k | ⟨rfl, k⟩
    · exact .inl (by omega)
    · exact .inl h
    · exact .inl k
    · exact .inr ⟨rfl, ih h k⟩
theorem bl_prefix : ∀ p x y : List UInt8, Op.bytesLess (p ++ x) (p ++ y) = Op.bytesLess x y
  | [], _, _ => rfl
  | a :: p, x, y => by
    have := bl_prefix p x y
    simp [Op.bytesLess, this]

/-- An order: what stands so. -/
structure Stands (f : Int) (g : Int) (h : Int) : Prop where
  le : f ≤ 0 → g ≤ 0 → h ≤ 0
  lt : f < 0 → g ≤ 0 → h < 0
  lt' : f ≤ 0 → g < 0 → h < 0
  eq : f = 0 → g = 0 → h = 0
theorem cmpI_turn (a b : Int) : cmpI a b = - cmpI b a := by unfold cmpI; split <;> split <;> (try split) <;> omega
theorem cmpI_zero (a b : Int) : cmpI a b = 0 ↔ a = b := by unfold cmpI; split <;> (try split) <;> omega
theorem cmpI_one (a b : Int) : cmpI a b = -1 ∨ cmpI a b = 0 ∨ cmpI a b = 1 := by unfold cmpI; split <;> (try split) <;> omega
theorem cmpI_stands (a b c : Int) : Stands (cmpI a b) (cmpI b c) (cmpI a c) := by
  unfold cmpI
  constructor <;> intro x y <;> (repeat' split at x) <;> (repeat' split at y) <;> (repeat' split) <;> omega
theorem cmpL_turn (a b : List UInt8) : cmpL a b = - cmpL b a := by
  unfold cmpL
  by_cases e : a = b
  · subst e; rw [bl_irrefl]; simp
  · have e' : ¬ b = a := fun x => e x.symm
    cases h : Op.bytesLess a b
    · rw [bl_total a b h e]; simp [e]
    · rw [bl_asymm a b h]; simp [e']
theorem cmpL_zero (a b : List UInt8) : cmpL a b = 0 ↔ a = b := by
  unfold cmpL
  by_cases e : a = b
  · subst e; rw [bl_irrefl]; simp
  · simp [e]; split <;> omega
theorem cmpL_one (a b : List UInt8) : cmpL a b = -1 ∨ cmpL a b = 0 ∨ cmpL a b = 1 := by unfold cmpL; split <;> (try split) <;> omega
theorem cmpL_neg (a b : List UInt8) : cmpL a b < 0 ↔ Op.bytesLess a b = true := by
  unfold cmpL; split
  · simp [*]
  · rename_i h; simp [h]; split <;> omega
theorem cmpL_le (a b : List UInt8) : cmpL a b ≤ 0 ↔ Op.bytesLess a b = true ∨ a = b := by
  unfold cmpL; split
  · simp [*]
  · rename_i h; simp [h]; split <;> simp [*]
theorem cmpL_stands (a b c : List UInt8) : Stands (cmpL a b) (cmpL b c) (cmpL a c) := by
  constructor
  · intro x y
    rw [cmpL_le] at *
    rcases x with x | rfl
    · rcases y with y | rfl
      · exact .inl (bl_trans _ _ _ x y)
      · exact .inl x
    · exact y
  · intro x y
    rw [cmpL_neg] at *
    rw [cmpL_le] at y
    rcases y with y | rfl
    · exact bl_trans _ _ _ x y
    · exact x
  · intro x y
    rw [cmpL_neg] at *
    rw [cmpL_le] at x
    rcases x with x | rfl
    · exact bl_trans _ _ _ x y
    · exact y
  · intro x y
    rw [cmpL_zero] at *
    rw [x, y]
theorem cmpB_turn (a b : Bool) : cmpB a b = - cmpB b a := by cases a <;> cases b <;> decide
theorem cmpB_zero (a b : Bool) : cmpB a b = 0 ↔ a = b := by cases a <;> cases b <;> decide
theorem cmpB_one (a b : Bool) : cmpB a b = -1 ∨ cmpB a b = 0 ∨ cmpB a b = 1 := by cases a <;> cases b <;> decide
theorem cmpB_stands (a b c : Bool) : Stands (cmpB a b) (cmpB b c) (cmpB a c) := by
  cases a <;> cases b <;> cases c <;> constructor <;> decide
end Go.Proofs.YtaokibkeoomfjaaDoor
