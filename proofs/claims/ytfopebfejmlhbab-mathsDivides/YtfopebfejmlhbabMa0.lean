/-
  What maths promises, said by plain functions.
-/
import Derived.Test.YtfopebfejmlhbabMDiv
namespace Go.Proofs.Ytfopebfejmlhbab
open Go.RowKit

theorem tm_bd (y d : Int) (h : 0 < d) : -d < y.tmod d ∧ y.tmod d < d := by
  have h1 := Int.natAbs_tmod y d
  have h2 := Nat.mod_lt y.natAbs (show 0 < d.natAbs by omega)
  omega
theorem tm_sg (y d : Int) : (0 ≤ y → 0 ≤ y.tmod d) ∧ (y ≤ 0 → y.tmod d ≤ 0) := by
  refine ⟨fun h => Int.tmod_nonneg d h, fun h => ?_⟩
  have := Int.tmod_nonneg d (show 0 ≤ -y by omega)
  rw [Int.neg_tmod] at this
  omega
theorem tm_le (y d : Int) : (y.tmod d).natAbs ≤ y.natAbs := by
  rw [Int.natAbs_tmod]; exact Nat.mod_le _ _
theorem tm_self {y d : Int} (h : y.natAbs < d.natAbs) : y.tmod d = y := by
  have h1 := Int.natAbs_tmod y d
  rw [Nat.mod_eq_of_lt h] at h1
  have h2 := tm_sg y d
  omega
theorem td_bd (n d : Int) (h1 : -1000000000000000000 ≤ n) (h2 : n ≤ 1000000000000000000) : -1000000000000000000 ≤ n.tdiv d ∧ n.tdiv d ≤ 1000000000000000000 := by
  have h := Int.natAbs_tdiv n d
  have : (n.tdiv d).natAbs ≤ n.natAbs := by rw [h]; exact Nat.div_le_self _ _
  omega

/-- Towards 0, to a multiple of s. -/
def inR (n s : Int) : Int := n - n.tmod s
/-- Away from 0. -/
def outR (n s : Int) : Int := if n.tmod s = 0 then n else if n < 0 then n - n.tmod s - s else n - n.tmod s + s
/-- Up. -/
def upwR (n s : Int) : Int := if n < 0 then inR n s else outR n s
/-- Down. -/
def dwnR (n s : Int) : Int := -(upwR (-n) s)
/-- An error, as a formula shows it. -/
def codeR (e : Int) : Int := if e = 4 then 1 else 5
/-- What a formula is told of a number, or of why there is none. -/
def shown (x : Int × Int) : Int × Int := if x.2 = 0 then (if fitsB x.1 then (x.1, 0) else (0, 5)) else (0, codeR x.2)
def shown1 (n : Int) (x : Int × Int) : Int × Int := if fitsB n then shown x else (0, 5)
def shown2 (n m : Int) (x : Int × Int) : Int × Int := if fitsB n then (if fitsB m then shown x else (0, 5)) else (0, 5)
/-- 10^-p, in millionths. -/
def unitR (p : Int) : Int := 10 ^ (6 - p).toNat
def placesR (F : Int → Int → Int) (n p : Int) : Int × Int := if p < -12 ∨ 6 < p then (0, 2) else (F n (unitR p), 0)
def mevenR (n : Int) : Int × Int := (outR n 2000000, 0)
def moddA (n : Int) : Int := outR (max (absI n - 1000000) 0) 2000000 + 1000000
def moddR (n : Int) : Int × Int := (if n < 0 then -(moddA n) else moddA n, 0)
def msignR (n : Int) : Int := if n < 0 then -1000000 else if 0 < n then 1000000 else 0
def stepsR (F : Int → Int → Int) (n s : Int) : Int × Int := if n = 0 then (0, 0) else if s = 0 then (0, 4) else if 0 < n ∧ s < 0 then (0, 2) else (F n (absI s), 0)
def mquotR (a b : Int) : Int × Int := if b = 0 then (0, 4) else mulR (a.tdiv b) 1000000000000

theorem shown_no {x : Int × Int} (h : x.2 ≠ 0) : shown x = (0, codeR x.2) := if_neg h
theorem shown_fit {x : Int × Int} (h : x.2 = 0) (hf : fitsB x.1 = true) : shown x = (x.1, 0) := by unfold shown; rw [if_pos h, if_pos hf]
theorem shown_over {x : Int × Int} (h : x.2 = 0) (hf : fitsB x.1 = false) : shown x = (0, 5) := by unfold shown; rw [if_pos h, if_neg (by rw [hf]; decide)]

theorem unitR_bd {p : Int} (h1 : -12 ≤ p) (h2 : p ≤ 6) : 1 ≤ unitR p ∧ unitR p ≤ 1000000000000000000 := by
  have key : p = -12 ∨ p = -11 ∨ p = -10 ∨ p = -9 ∨ p = -8 ∨ p = -7 ∨ p = -6 ∨ p = -5 ∨ p = -4 ∨ p = -3 ∨ p = -2 ∨ p = -1 ∨ p = 0 ∨ p = 1 ∨ p = 2 ∨ p = 3 ∨ p = 4 ∨ p = 5 ∨ p = 6 := by omega
  rcases key with rfl | rfl | rfl | rfl | rfl | rfl | rfl | rfl | rfl | rfl | rfl | rfl | rfl | rfl | rfl | rfl | rfl | rfl | rfl <;> decide
theorem unitR_step {p : Int} (h : p < 6) : unitR p = unitR (p + 1) * 10 := by
  unfold unitR
  rw [show (6 - p).toNat = (6 - (p + 1)).toNat + 1 by omega, Int.pow_succ]
theorem unitR_six : unitR 6 = 1 := rfl
theorem inR_bd {n s B : Int} (h1 : -B ≤ n) (h2 : n ≤ B) : -B ≤ inR n s ∧ inR n s ≤ B := by
  unfold inR
  have a := tm_le n s
  have b := tm_sg n s
  omega
theorem outR_bd {n s B : Int} (hs : 0 < s) (h1 : -B ≤ n) (h2 : n ≤ B) : -(B + s) ≤ outR n s ∧ outR n s ≤ B + s := by
  have a := tm_le n s
  have b := tm_sg n s
  unfold outR
  split
  · omega
  · split <;> omega
theorem upwR_bd {n s B : Int} (hs : 0 < s) (h1 : -B ≤ n) (h2 : n ≤ B) : -(B + s) ≤ upwR n s ∧ upwR n s ≤ B + s := by
  unfold upwR
  split
  · have := inR_bd (s := s) h1 h2; omega
  · exact outR_bd hs h1 h2
end Go.Proofs.Ytfopebfejmlhbab
