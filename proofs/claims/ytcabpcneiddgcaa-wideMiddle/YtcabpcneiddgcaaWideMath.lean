/-
  Sums: what is right, and what the functions of layer 3 tell, as plain functions of whole numbers; their laws.
-/
import Derived.Test.YtcabpcneiddgcaaNear
namespace Go.Proofs.Ytcabpcneiddgcaa
open Go.RowKit

/-- Is a sum right? -/
def rightB (h l : Int) : Bool := decide (0 ≤ l) && decide (l < 1000000000000000000) && decide (-2147483648 ≤ h) && decide (h < 2147483648)
theorem rightB_true {h l : Int} (r : rightB h l = true) : 0 ≤ l ∧ l < 1000000000000000000 ∧ -2147483648 ≤ h ∧ h < 2147483648 := by
  unfold rightB at r; simp at r; omega
theorem rightB_of {h l : Int} (a : 0 ≤ l) (b : l < 1000000000000000000) (c : -2147483648 ≤ h) (d : h < 2147483648) : rightB h l = true := by
  unfold rightB; simp; omega
theorem rightB_not {h l : Int} (a : l < 0 ∨ 1000000000000000000 ≤ l ∨ h < -2147483648 ∨ 2147483648 ≤ h) : rightB h l = false := by
  cases r : rightB h l
  · rfl
  · have := rightB_true r; omega
theorem rightB_false {h l : Int} (r : rightB h l = false) : l < 0 ∨ 1000000000000000000 ≤ l ∨ h < -2147483648 ∨ 2147483648 ≤ h := by
  by_cases k : l < 0 ∨ 1000000000000000000 ≤ l ∨ h < -2147483648 ∨ 2147483648 ≤ h
  · exact k
  · rw [rightB_of (by omega) (by omega) (by omega) (by omega)] at r; cases r
/-- What Check tells. -/
def checkR (h l : Int) : Int := if rightB h l then 0 else 2
theorem checkR_yes {h l : Int} (r : rightB h l = true) : checkR h l = 0 := by simp [checkR, r]
theorem checkR_no {h l : Int} (r : rightB h l = false) : checkR h l = 2 := by simp [checkR, r]
/-- High times 10^18 and a low part, as a sum that is right, or why there is none. -/
def madeR (h x : Int) : Int × Int × Int :=
  if -2147483648 ≤ h + x / 1000000000000000000 ∧ h + x / 1000000000000000000 < 2147483648 then (h + x / 1000000000000000000, x % 1000000000000000000, 0) else (0, 0, 3)
theorem madeR_yes {h x : Int} (a : -2147483648 ≤ h + x / 1000000000000000000) (b : h + x / 1000000000000000000 < 2147483648) : madeR h x = (h + x / 1000000000000000000, x % 1000000000000000000, 0) := by
  unfold madeR; rw [if_pos ⟨a, b⟩]
theorem madeR_no {h x : Int} (a : h + x / 1000000000000000000 < -2147483648 ∨ 2147483648 ≤ h + x / 1000000000000000000) : madeR h x = (0, 0, 3) := by
  unfold madeR; rw [if_neg (by omega)]
theorem madeR_shift (h l n : Int) : madeR (h + n / 1000000000000000000) (l + n % 1000000000000000000) = madeR h (l + n) := by
  have e1 : h + n / 1000000000000000000 + (l + n % 1000000000000000000) / 1000000000000000000 = h + (l + n) / 1000000000000000000 := by omega
  have e2 : (l + n % 1000000000000000000) % 1000000000000000000 = (l + n) % 1000000000000000000 := by omega
  unfold madeR; rw [e1, e2]
/-- A sum and a number. -/
def addW (h l n : Int) : Int × Int × Int := if rightB h l && fitsB n then madeR h (l + n) else (0, 0, 2)
/-- A sum less a number. -/
def subW (h l n : Int) : Int × Int × Int := if rightB h l && fitsB n then madeR h (l - n) else (0, 0, 2)
/-- Two sums as one. -/
def joinW (h l g m : Int) : Int × Int × Int := if rightB h l && rightB g m then madeR (h + g) (l + m) else (0, 0, 2)
/-- A sum as a number. -/
def totalW (h l : Int) : Int × Int := if rightB h l then told (h * 1000000000000000000 + l) else (0, 2)
/-- The mean. -/
def meanW (h l c : Int) : Int × Int := if rightB h l && (decide (1 ≤ c) && decide (c ≤ 2147483648)) then told (halfEven (h * 1000000000000000000 + l) c) else (0, 2)
/-- How two sums stand. -/
def compW (h l g m : Int) : Int × Int := if rightB h l && rightB g m then (if h = g ∧ l = m then 0 else if h < g ∨ (h = g ∧ l < m) then -1 else 1, 0) else (0, 2)
theorem addW_no {h l n : Int} (r : rightB h l = false) : addW h l n = (0, 0, 2) := by simp [addW, r]
theorem addW_no2 {h l n : Int} (r : fitsB n = false) : addW h l n = (0, 0, 2) := by simp [addW, r]
theorem addW_yes {h l n : Int} (r : rightB h l = true) (f : fitsB n = true) : addW h l n = madeR h (l + n) := by simp [addW, r, f]
theorem subW_no {h l n : Int} (r : rightB h l = false) : subW h l n = (0, 0, 2) := by simp [subW, r]
theorem subW_no2 {h l n : Int} (r : fitsB n = false) : subW h l n = (0, 0, 2) := by simp [subW, r]
theorem subW_yes {h l n : Int} (r : rightB h l = true) (f : fitsB n = true) : subW h l n = madeR h (l - n) := by simp [subW, r, f]
theorem joinW_no {h l g m : Int} (r : rightB h l = false) : joinW h l g m = (0, 0, 2) := by simp [joinW, r]
theorem joinW_no2 {h l g m : Int} (r : rightB g m = false) : joinW h l g m = (0, 0, 2) := by simp [joinW, r]
theorem joinW_yes {h l g m : Int} (r : rightB h l = true) (f : rightB g m = true) : joinW h l g m = madeR (h + g) (l + m) := by simp [joinW, r, f]
theorem compW_no {h l g m : Int} (r : rightB h l = false) : compW h l g m = (0, 2) := by simp [compW, r]
theorem compW_no2 {h l g m : Int} (r : rightB g m = false) : compW h l g m = (0, 2) := by simp [compW, r]
theorem fits_flip (n : Int) : fitsB (-n) = fitsB n := by
  unfold fitsB; rw [Bool.eq_iff_iff]; simp; omega

/-- What 'rightness' and the error say of a made sum: her value. -/
theorem madeR_ok {h x : Int} (e : (madeR h x).2.2 = 0) : rightB (madeR h x).1 (madeR h x).2.1 = true ∧ (madeR h x).1 * 1000000000000000000 + (madeR h x).2.1 = h * 1000000000000000000 + x := by
  unfold madeR at e ⊢
  split
  · rename_i k
    refine ⟨rightB_of ?_ ?_ k.1 k.2, ?_⟩
    · show 0 ≤ x % 1000000000000000000; omega
    · show x % 1000000000000000000 < 1000000000000000000; omega
    · show (h + x / 1000000000000000000) * 1000000000000000000 + x % 1000000000000000000 = h * 1000000000000000000 + x; omega
  · rename_i k; rw [if_neg k] at e; exact absurd e (by decide)
theorem madeR_cases (h x : Int) : ((madeR h x).2.2 = 0) ∨ madeR h x = (0, 0, 3) := by
  unfold madeR; split
  · exact .inl rfl
  · exact .inr rfl
/-- Sums that are right and of one value are one. -/
theorem right_one {h l g m : Int} (r : rightB h l = true) (s : rightB g m = true) (e : h * 1000000000000000000 + l = g * 1000000000000000000 + m) : h = g ∧ l = m := by
  have := rightB_true r; have := rightB_true s; omega

/-- Go's division, rounded down. -/
theorem part_neg {n d : Int} (hd : 0 < d) (h : n.tmod d < 0) : n.tdiv d - 1 = n / d ∧ n.tmod d + d = n % d := by
  have a : n = d * n.tdiv d + n.tmod d := (Int.mul_tdiv_add_tmod n d).symm
  have b : -d < n.tmod d := by
    have := Int.lt_tmod_of_pos n hd; omega
  have u := (Int.ediv_emod_unique hd (a := n) (r := n.tmod d + d) (q := n.tdiv d - 1)).2 ⟨by rw [Int.mul_sub]; omega, by omega, by omega⟩
  exact ⟨u.1.symm, u.2.symm⟩
theorem part_pos {n d : Int} (hd : 0 < d) (h : 0 ≤ n.tmod d) : n.tdiv d = n / d ∧ n.tmod d = n % d := by
  have a : n = d * n.tdiv d + n.tmod d := (Int.mul_tdiv_add_tmod n d).symm
  have b : n.tmod d < d := Int.tmod_lt_of_pos n hd
  have u := (Int.ediv_emod_unique hd (a := n) (r := n.tmod d) (q := n.tdiv d)).2 ⟨by omega, h, b⟩
  exact ⟨u.1.symm, u.2.symm⟩
end Go.Proofs.Ytcabpcneiddgcaa
