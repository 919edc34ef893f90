/-
  A formula at another place, and back, in plain words.
-/
import Derived.Test.YtfpmmckpobpokaaGreatBRwK1
namespace Go.Proofs.YtfpmmckpobpokaaGreat
open Go.RowKit
structure Sound (D : Do) : Prop where
 c : ∀ h, (D.c h).2.2 = true → Pla.placeB (D.c h).1 (D.c h).2.1 = true
 s : ∀ h, (D.s h).2.2.2.2 = true → Pla.placeB (D.s h).1 (D.s h).2.1 = true ∧ Pla.placeB (D.s h).2.2.1 (D.s h).2.2.2.1 = true
theorem lost_alone : aloneB lostH 0 = true := by kernel_rfl
theorem rem_alone (D : Do) (hD : Sound D) (h : Hd) (n : Nat) (ha : aloneB h n = true) : aloneB (remH D h) (if leafB h then 0 else n) = true := by
 obtain ⟨kind, vk, vn, vs, vb, vc, row, col, fr, fc, row2, col2, fr2, fc2, txt⟩ := h
 by_cases k2 : kind = 2
 ·
  subst k2
  simp only [remH, leafB, if_true, decide_true, Bool.true_or]
  split
  ·
   rename_i q
   have := hD.c _ q
   simp [aloneB, cellN, noVal, noTo, this]
  ·
   exact lost_alone
 by_cases k3 : kind = 3
 ·
  subst k3
  simp only [remH, leafB, show ¬ (3 : Int) = 2 by omega, if_false, if_true, decide_true, Bool.or_true]
  split
  ·
   rename_i q
   have := hD.s _ q
   simp [aloneB, rangeN, noVal, this]
  ·
   exact lost_alone
 have e : leafB (⟨kind, vk, vn, vs, vb, vc, row, col, fr, fc, row2, col2, fr2, fc2, txt⟩ : Hd) = false := by simp [leafB, k2, k3]
 rw [e]
 unfold aloneB noVal noCell noTo constB at *
 simp only [remH, k2, k3, if_false, bareH] at *
 by_cases k1 : kind = 1
 ·
  subst k1
  simp at ha ⊢
  simp [ha]
 rw [if_neg k1] at ha ⊢
 by_cases k4 : kind = 4
 ·
  subst k4
  simp at ha ⊢
  simp [ha]
 rw [if_neg k4] at ha ⊢
 by_cases k5 : kind = 5
 ·
  subst k5
  simp at ha ⊢
  simp [ha]
 rw [if_neg k5] at ha ⊢
 by_cases k6 : kind = 6
 ·
  subst k6
  simp at ha ⊢
  simp [ha]
 rw [if_neg k6] at ha
 cases ha
theorem rem_all (D : Do) (hD : Sound D) : ∀ k : Fo, allB k = true → allB (remF D k) = true ∧ (remF D k).deep ≤ k.deep ∧ (remF D k).many ≤ k.many
 | .nil, _ => ⟨rfl, Nat.le_refl _, Nat.le_refl _⟩
 | .cons h k r, ha => by
  simp only [allB, Bool.and_eq_true] at ha
  obtain ⟨⟨h1, h2⟩, h3⟩ := ha
  obtain ⟨a1, a2, a3⟩ := rem_all D hD k h2
  obtain ⟨b1, b2, b3⟩ := rem_all D hD r h3
  have g := rem_alone D hD h k.len h1
  cases hl : leafB h
  ·
   rw [hl] at g
   simp only [Bool.false_eq_true, if_false] at g
   simp only [remF, hl, Bool.false_eq_true, if_false, allB, Fo.deep, Fo.many, Bool.and_eq_true, remF_len]
   exact ⟨⟨⟨g, a1⟩, b1⟩, by omega, by omega⟩
  ·
   rw [hl] at g
   simp only [if_true] at g
   simp only [remF, hl, if_true, allB, Fo.deep, Fo.many, Bool.and_eq_true, Fo.len]
   exact ⟨⟨⟨g, trivial⟩, b1⟩, by omega, by omega⟩
theorem rem_check (D : Do) (hD : Sound D) (h : Hd) (k : Fo) (hc : checkN h k = 0) : checkN (remH D h) (remK D h k) = 0 ∧ (remK D h k).many ≤ k.many := by
 have hr := check_rightN hc
 have hdp : ¬ 40 < k.deep + 1 := by
  intro q
  unfold checkN at hc
  rw [hr] at hc
  simp only [Bool.true_eq_false, if_false, if_pos q] at hc
  split at hc <;> omega
 simp only [rightN, Bool.and_eq_true] at hr
 obtain ⟨a1, a2, a3⟩ := rem_all D hD k hr.2
 have g := rem_alone D hD h k.len hr.1
 unfold remK
 cases hl : leafB h
 ·
  rw [hl] at g
  simp only [Bool.false_eq_true, if_false] at g ⊢
  refine ⟨?_, a3⟩
  unfold checkN
  rw [show rightN (remH D h) (remF D k) = true by simp [rightN, remF_len, g, a1]]
  rw [if_neg (by omega), if_neg (by simp), if_neg (by omega)]
 ·
  rw [hl] at g
  simp only [if_true] at g ⊢
  refine ⟨?_, Nat.zero_le _⟩
  unfold checkN
  rw [show rightN (remH D h) .nil = true by simp [rightN, Fo.len, g, allB]]
  rw [if_neg (by simp [Fo.deep]), if_neg (by simp), if_neg (by simp [Fo.deep])]
theorem rem_okH (D : Do) (h : Hd) (q : h.vs.length ≤ maxLen ∧ h.txt.length ≤ maxLen) : (remH D h).vs.length ≤ maxLen ∧ (remH D h).txt.length ≤ maxLen := by
 unfold remH
 split
 ·
  split <;> simp [cellN, lostH]
 ·
  split
  ·
   split <;> simp [rangeN, lostH]
  ·
   exact q
theorem rem_ok (D : Do) : ∀ k : Fo, okF k → okF (remF D k)
 | .nil, _ => trivial
 | .cons h k r, ⟨q, q1, q2⟩ => by
  refine ⟨rem_okH D h q, ?_, rem_ok D r q2⟩
  split
  ·
   exact trivial
  ·
   exact rem_ok D k q1
theorem rem_okK (D : Do) (h : Hd) (k : Fo) (q : okF k) : okF (remK D h k) := by
 unfold remK
 split
 ·
  exact trivial
 ·
  exact rem_ok D k q
structure Back (D E : Do) : Prop where
 c : ∀ h, Pla.placeB h.row h.col = true → (D.c h).2.2 = true → E.c (cellN (D.c h).1 (D.c h).2.1 h.fr h.fc) = (h.row, h.col, true)
 s : ∀ h, Pla.placeB h.row h.col = true → Pla.placeB h.row2 h.col2 = true → (D.s h).2.2.2.2 = true → E.s (rangeN (D.s h).1 (D.s h).2.1 h.fr h.fc (D.s h).2.2.1 (D.s h).2.2.2.1 h.fr2 h.fc2) = (h.row, h.col, h.row2, h.col2, true)
end Go.Proofs.YtfpmmckpobpokaaGreat
