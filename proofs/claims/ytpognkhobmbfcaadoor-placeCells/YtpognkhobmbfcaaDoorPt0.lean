/-
  Layer 5, the plain words: a column's letters, the column of letters.
-/
import Derived.Test.YtpognkhobmbfcaaDoorPl0
namespace Go.Proofs.YtpognkhobmbfcaaDoor
open Go.RowKit

/-- A column's letters. -/
def lettersN (n : Nat) : List UInt8 := if n = 0 then [] else lettersN ((n - 1) / 26) ++ [UInt8.ofNat (65 + (n - 1) % 26)]
termination_by n
decreasing_by omega
theorem letters_zero : lettersN 0 = [] := by rw [lettersN]; rfl
theorem letters_succ {n : Nat} (h : 0 < n) : lettersN n = lettersN ((n - 1) / 26) ++ [UInt8.ofNat (65 + (n - 1) % 26)] := by
  conv => lhs; rw [lettersN]
  rw [if_neg (by omega)]
theorem letters_one {n : Nat} (h : 0 < n) (h' : n ≤ 26) : lettersN n = [UInt8.ofNat (64 + n)] := by
  rw [letters_succ h, show (n - 1) / 26 = 0 by omega, letters_zero, show 65 + (n - 1) % 26 = 64 + n by omega]; rfl
theorem letters_two {n : Nat} (h : 26 < n) (h' : n ≤ 702) : lettersN n = [UInt8.ofNat (64 + (n - 1) / 26), UInt8.ofNat (65 + (n - 1) % 26)] := by
  rw [letters_succ (by omega), letters_one (by omega) (by omega)]; rfl
theorem letters_three {n : Nat} (h : 702 < n) (h' : n ≤ 16384) : lettersN n = [UInt8.ofNat (64 + ((n - 1) / 26 - 1) / 26), UInt8.ofNat (65 + ((n - 1) / 26 - 1) % 26), UInt8.ofNat (65 + (n - 1) % 26)] := by
  rw [letters_succ (by omega), letters_two (by omega) (by omega)]; rfl
theorem letters_cases {n : Nat} (h : 0 < n) (h' : n ≤ 16384) : n ≤ 26 ∨ (26 < n ∧ n ≤ 702) ∨ 702 < n := by omega
theorem letters_len {n : Nat} (h : 0 < n) (h' : n ≤ 16384) : 1 ≤ (lettersN n).length ∧ (lettersN n).length ≤ 3 := by
  rcases letters_cases h h' with a | ⟨a, b⟩ | a
  · rw [letters_one h a]; simp
  · rw [letters_two a b]; simp
  · rw [letters_three a h']; simp

/-- A letter. -/
def letB (c : UInt8) : Bool := decide (65 ≤ c.toNat ∧ c.toNat ≤ 90) || decide (97 ≤ c.toNat ∧ c.toNat ≤ 122)
theorem letB_iff {c : UInt8} : letB c = true ↔ (65 ≤ c.toNat ∧ c.toNat ≤ 90) ∨ (97 ≤ c.toNat ∧ c.toNat ≤ 122) := by unfold letB; simp
theorem letB_no {c : UInt8} : letB c = false ↔ ¬ ((65 ≤ c.toNat ∧ c.toNat ≤ 90) ∨ (97 ≤ c.toNat ∧ c.toNat ≤ 122)) := by rw [← Bool.not_eq_true, letB_iff]
/-- A letter's number. -/
def letV (c : UInt8) : Nat := if 97 ≤ c.toNat then c.toNat - 96 else c.toNat - 64
/-- The column that letters name. -/
def colV (l : List UInt8) : Nat := l.foldl (fun n c => n * 26 + letV c) 0
theorem letV_bd {c : UInt8} (h : letB c = true) : 1 ≤ letV c ∧ letV c ≤ 26 := by
  rw [letB_iff] at h; unfold letV; split <;> omega
theorem colV_nil : colV [] = 0 := rfl
theorem colV_snoc (l : List UInt8) (c : UInt8) : colV (l ++ [c]) = colV l * 26 + letV c := by simp [colV]
theorem colV_app (l m : List UInt8) : colV (l ++ m) = m.foldl (fun n c => n * 26 + letV c) (colV l) := by simp [colV]
theorem ofNat_nat {n : Nat} (h : n < 256) : (UInt8.ofNat n).toNat = n := by simp; omega
theorem letter_up {k : Nat} (h : k < 26) : letB (UInt8.ofNat (65 + k)) = true ∧ letV (UInt8.ofNat (65 + k)) = k + 1 := by
  have e := ofNat_nat (n := 65 + k) (by omega)
  refine ⟨letB_iff.2 (by omega), ?_⟩
  unfold letV; rw [e]; split <;> omega
theorem letters_all (n : Nat) : (lettersN n).all letB = true := by
  induction n using Nat.strongRecOn with
  | _ n ih =>
    by_cases h : n = 0
    · rw [h, letters_zero]; rfl
    · rw [letters_succ (by omega), List.all_append, ih _ (by omega)]
      simp only [List.all_cons, List.all_nil, Bool.and_true, Bool.true_and]
      exact (letter_up (Nat.mod_lt _ (by decide))).1
theorem letters_col (n : Nat) : colV (lettersN n) = n := by
  induction n using Nat.strongRecOn with
  | _ n ih =>
    by_cases h : n = 0
    · rw [h, letters_zero]; rfl
    · rw [letters_succ (by omega), colV_snoc, ih _ (by omega), (letter_up (Nat.mod_lt _ (by decide))).2]
      omega
theorem col_pos {l : List UInt8} (h : l ≠ []) (ha : l.all letB = true) : 1 ≤ colV l := by
  rcases List.eq_nil_or_concat l with e | ⟨m, c, e⟩
  · exact absurd e h
  · rw [List.concat_eq_append] at e
    subst e
    rw [List.all_append] at ha
    simp at ha
    rw [colV_snoc]
    have := (letV_bd ha.2).1
    omega
theorem col_bd (l : List UInt8) (ha : l.all letB = true) : l.length ≤ 3 → colV l ≤ 18278 := by
  intro h
  rcases l with _ | ⟨a, _ | ⟨b, _ | ⟨c, _ | ⟨d, l⟩⟩⟩⟩
  · decide
  · simp [List.all_cons] at ha; have := letV_bd ha; simp [colV]; omega
  · simp [List.all_cons] at ha; have := letV_bd ha.1; have := letV_bd ha.2; simp [colV]; omega
  · simp [List.all_cons] at ha; have := letV_bd ha.1; have := letV_bd ha.2.1; have := letV_bd ha.2.2; simp [colV]; omega
  · simp at h
end Go.Proofs.YtpognkhobmbfcaaDoor
