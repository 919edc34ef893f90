/-
  A formula at another place, and back, in plain words.
-/
import Derived.Test.YtfpmmckpobpokaaGreatRRwK1
namespace Go.Proofs.YtfpmmckpobpokaaGreat
open Go.RowKit
structure Sound (D : Do) : Prop where
 c : ∀ h, (D.c h).2.2 = true → Pla.placeB (D.c h).1 (D.c h).2.1 = true
 s : ∀ h, (D.s h).2.2.2.2 = true → Pla.placeB (D.s h).1 (D.s h).2.1 = true ∧ Pla.placeB (D.s h).2.2.1 (D.s h).2.2.2.1 = true
theorem sound_shift (dr dc : Int) : Sound (shiftD dr dc) := ⟨fun h q => q, fun h q => by simpa [shiftD] using q⟩
theorem lost_alone : aloneB lostH 0 = true := by kernel_rfl
theorem rem_alone (D : Do) (hD : Sound D) (h : Hd) (n : Nat) (ha : aloneB h n = true) : aloneB (remH D h) (if leafB h then 0 else n) = true := by
  obtain ⟨kind, vk, vn, vs, vb, vc, row, col, fr, fc, row2, col2, fr2, fc2, txt⟩ := h
  by_cases k2 : kind = 2
  · subst k2
    simp only [remH, leafB, if_true, decide_true, Bool.true_or]
    split
    · rename_i q
      have := hD.c _ q
      simp [aloneB, cellN, noVal, noTo, this]
    · exact lost_alone
  by_cases k3 : kind = 3
  · subst k3
    simp only [remH, leafB, show ¬ (3 : Int) = 2 by omega, if_false, if_true, decide_true, Bool.or_true]
    split
    · rename_i q
      have := hD.s _ q
      simp [aloneB, rangeN, noVal, this]
    · exact lost_alone
  have e : leafB (⟨kind, vk, vn, vs, vb, vc, row, col, fr, fc, row2, col2, fr2, fc2, txt⟩ : Hd) = false := by simp [leafB, k2, k3]
  rw [e]
  unfold aloneB noVal noCell noTo constB at *
  simp only [remH, k2, k3, if_false, bareH] at *
  by_cases k1 : kind = 1
  · subst k1
    simp at ha ⊢
    simp [ha]
  rw [if_neg k1] at ha ⊢
  by_cases k4 : kind = 4
  · subst k4
    simp at ha ⊢
    simp [ha]
  rw [if_neg k4] at ha ⊢
  by_cases k5 : kind = 5
  · subst k5
    simp at ha ⊢
    simp [ha]
  rw [if_neg k5] at ha ⊢
  by_cases k6 : kind = 6
  · subst k6
    simp at ha ⊢
    simp [ha]
  rw [if_neg k6] at ha
  cases ha
theorem rem_all (D : Do) (hD : Sound D) : ∀ k : Fo, allB k = true → allB (remF D k) = true ∧ (remF D k).deep ≤ k.deep ∧ (remF D k).many ≤ k.many
  | .nil, _ => ⟨rfl, Nat.le_refl _, Nat.le_refl _⟩
  | .cons h k r, ha => by
    simp only [allB, Bool.and_eq_true] at ha
    obtain ⟨⟨h1, h2⟩, h3⟩ := ha
    obtain ⟨a1, a2, a3⟩ := rem_all D hD k h2
    obtain ⟨b1, b2, b3⟩ := rem_all D hD r h3
    have g := rem_alone D hD h k.len h1
    cases hl : leafB h
    · rw [hl] at g
      simp only [Bool.false_eq_true, if_false] at g
      simp only [remF, hl, Bool.false_eq_true, if_false, allB, Fo.deep, Fo.many, Bool.and_eq_true, remF_len]
      exact ⟨⟨⟨g, a1⟩, b1⟩, by omega, by omega⟩
    · rw [hl] at g
      simp only [if_true] at g
      simp only [remF, hl, if_true, allB, Fo.deep, Fo.many, Bool.and_eq_true, Fo.len]
      exact ⟨⟨⟨g, trivial⟩, b1⟩, by omega, by omega⟩
theorem rem_check (D : Do) (hD : Sound D) (h : Hd) (k : Fo) (hc : checkN h k = 0) : checkN (remH D h) (remK D h k) = 0 ∧ (remK D h k).many ≤ k.many := by
  have hr := check_rightN hc
  have hdp : ¬ 40 < k.deep + 1 := by
    intro q
    unfold checkN at hc
    rw [hr] at hc
    simp only [Bool.true_eq_false, if_false, if_pos q] at hc
    split at hc <;> omega
  simp only [rightN, Bool.and_eq_true] at hr
  obtain ⟨a1, a2, a3⟩ := rem_all D hD k hr.2
  have g := rem_alone D hD h k.len hr.1
  unfold remK
  cases hl : leafB h
  · rw [hl] at g
    simp only [Bool.false_eq_true, if_false] at g ⊢
    refine ⟨?_, a3⟩
    unfold checkN
    rw [show rightN (remH D h) (remF D k) = true by simp [rightN, remF_len, g, a1]]
    rw [if_neg (by omega), if_neg (by simp), if_neg (by omega)]
  · rw [hl] at g
    simp only [if_true] at g ⊢
    refine ⟨?_, Nat.zero_le _⟩
    unfold checkN
    rw [show rightN (remH D h) .nil = true by simp [rightN, Fo.len, g, allB]]
    rw [if_neg (by simp [Fo.deep]), if_neg (by simp), if_neg (by simp [Fo.deep])]
theorem rem_okH (D : Do) (h : Hd) (q : h.vs.length ≤ maxLen ∧ h.txt.length ≤ maxLen) : (remH D h).vs.length ≤ maxLen ∧ (remH D h).txt.length ≤ maxLen := by
  unfold remH
  split
  · split <;> simp [cellN, lostH]
  · split
    · split <;> simp [rangeN, lostH]
    · exact q
theorem rem_ok (D : Do) : ∀ k : Fo, okF k → okF (remF D k)
  | .nil, _ => trivial
  | .cons h k r, ⟨q, q1, q2⟩ => by
    refine ⟨rem_okH D h q, ?_, rem_ok D r q2⟩
    split
    · exact trivial
    · exact rem_ok D k q1
theorem rem_okK (D : Do) (h : Hd) (k : Fo) (q : okF k) : okF (remK D h k) := by
  unfold remK
  split
  · exact trivial
  · exact rem_ok D k q
structure Back (D E : Do) : Prop where
 c : ∀ h, Pla.placeB h.row h.col = true → (D.c h).2.2 = true → E.c (cellN (D.c h).1 (D.c h).2.1 h.fr h.fc) = (h.row, h.col, true)
 s : ∀ h, Pla.placeB h.row h.col = true → Pla.placeB h.row2 h.col2 = true → (D.s h).2.2.2.2 = true → E.s (rangeN (D.s h).1 (D.s h).2.1 h.fr h.fc (D.s h).2.2.1 (D.s h).2.2.2.1 h.fr2 h.fc2) = (h.row, h.col, h.row2, h.col2, true)
theorem back_head (D E : Do) (hB : Back D E) (h : Hd) (n : Nat) (ha : aloneB h n = true) : lost1 h ≤ lost1 (remH D h) ∧ (lost1 (remH D h) ≤ lost1 h → remH E (remH D h) = h ∧ leafB (remH D h) = leafB h) ∧ (leafB h = true → n = 0) := by
  obtain ⟨kind, vk, vn, vs, vb, vc, row, col, fr, fc, row2, col2, fr2, fc2, txt⟩ := h
  by_cases k2 : kind = 2
  · subst k2
    have ha' := ha
    simp [aloneB, noVal, noTo] at ha'
    have hb := hB.c ⟨2, vk, vn, vs, vb, vc, row, col, fr, fc, row2, col2, fr2, fc2, txt⟩ (by simp [ha'])
    cases q : (D.c ⟨2, vk, vn, vs, vb, vc, row, col, fr, fc, row2, col2, fr2, fc2, txt⟩).2.2
    · refine ⟨by simp [lost1], fun w => ?_, fun _ => by simp [ha']⟩
      simp [lost1, remH, q, lostH] at w
    · have hb := hb q
      refine ⟨by simp [lost1], fun _ => ?_, fun _ => by simp [ha']⟩
      simp only [remH, if_true, q]
      rw [show (cellN (D.c ⟨2, vk, vn, vs, vb, vc, row, col, fr, fc, row2, col2, fr2, fc2, txt⟩).1 (D.c ⟨2, vk, vn, vs, vb, vc, row, col, fr, fc, row2, col2, fr2, fc2, txt⟩).2.1 fr fc).kind = 2 from rfl, if_pos rfl, hb]
      simp [cellN, leafB, ha']
  by_cases k3 : kind = 3
  · subst k3
    have ha' := ha
    simp [aloneB, noVal] at ha'
    have hb := hB.s ⟨3, vk, vn, vs, vb, vc, row, col, fr, fc, row2, col2, fr2, fc2, txt⟩ (by simp [ha']) (by simp [ha'])
    cases q : (D.s ⟨3, vk, vn, vs, vb, vc, row, col, fr, fc, row2, col2, fr2, fc2, txt⟩).2.2.2.2
    · refine ⟨by simp [lost1], fun w => ?_, fun _ => by simp [ha']⟩
      simp [lost1, remH, q, lostH] at w
    · have hb := hb q
      refine ⟨by simp [lost1], fun _ => ?_, fun _ => by simp [ha']⟩
      simp only [remH, show ¬ (3 : Int) = 2 by omega, if_false, if_true, q]
      rw [show (rangeN (D.s ⟨3, vk, vn, vs, vb, vc, row, col, fr, fc, row2, col2, fr2, fc2, txt⟩).1 (D.s ⟨3, vk, vn, vs, vb, vc, row, col, fr, fc, row2, col2, fr2, fc2, txt⟩).2.1 fr fc (D.s ⟨3, vk, vn, vs, vb, vc, row, col, fr, fc, row2, col2, fr2, fc2, txt⟩).2.2.1 (D.s ⟨3, vk, vn, vs, vb, vc, row, col, fr, fc, row2, col2, fr2, fc2, txt⟩).2.2.2.1 fr2 fc2).kind = 3 from rfl, if_neg (by omega), if_pos rfl, hb]
      simp [rangeN, leafB, ha']
  have e : leafB (⟨kind, vk, vn, vs, vb, vc, row, col, fr, fc, row2, col2, fr2, fc2, txt⟩ : Hd) = false := by simp [leafB, k2, k3]
  have e2 : ∀ G : Do, remH G (⟨kind, vk, vn, vs, vb, vc, row, col, fr, fc, row2, col2, fr2, fc2, txt⟩ : Hd) = ⟨kind, vk, vn, vs, vb, vc, row, col, fr, fc, row2, col2, fr2, fc2, txt⟩ := fun G => by
    unfold aloneB noVal noCell noTo at ha
    simp only [k2, k3, if_false] at ha
    simp only [remH, k2, k3, if_false, bareH]
    by_cases k1 : kind = 1
    · subst k1
      simp at ha
      simp [ha]
    rw [if_neg k1] at ha
    by_cases k4 : kind = 4
    · subst k4
      simp at ha
      simp [ha]
    rw [if_neg k4] at ha
    by_cases k5 : kind = 5
    · subst k5
      simp at ha
      simp [ha]
    rw [if_neg k5] at ha
    by_cases k6 : kind = 6
    · subst k6
      simp at ha
      simp [ha]
    rw [if_neg k6] at ha
    cases ha
  rw [e2 D, e2 E]
  exact ⟨Nat.le_refl _, fun _ => ⟨rfl, rfl⟩, fun q => by rw [e] at q; cases q⟩
theorem back_all (D E : Do) (hB : Back D E) : ∀ k : Fo, allB k = true → lostF k ≤ lostF (remF D k) ∧ (lostF (remF D k) ≤ lostF k → remF E (remF D k) = k)
  | .nil, _ => ⟨Nat.le_refl _, fun _ => rfl⟩
  | .cons h k r, ha => by
    simp only [allB, Bool.and_eq_true] at ha
    obtain ⟨⟨h1, h2⟩, h3⟩ := ha
    obtain ⟨a1, a2⟩ := back_all D E hB k h2
    obtain ⟨b1, b2⟩ := back_all D E hB r h3
    obtain ⟨c1, c2, c3⟩ := back_head D E hB h k.len h1
    cases hl : leafB h
    · simp only [remF, hl, Bool.false_eq_true, if_false, lostF]
      refine ⟨by omega, fun w => ?_⟩
      obtain ⟨d1, d2⟩ := c2 (by omega)
      rw [d2, hl, d1, a2 (by omega), b2 (by omega)]
      simp
    · have hn := len_nil (c3 hl)
      subst hn
      simp only [remF, hl, if_true, lostF]
      refine ⟨by omega, fun w => ?_⟩
      obtain ⟨d1, d2⟩ := c2 (by omega)
      rw [d2, hl, d1, b2 (by omega)]
      simp
theorem back_node (D E : Do) (hB : Back D E) (h : Hd) (k : Fo) (hr : rightN h k = true) (hl : lost1 (remH D h) + lostF (remK D h k) ≤ lost1 h + lostF k) : remH E (remH D h) = h ∧ remK E (remH D h) (remK D h k) = k := by
 have := back_all D E hB (.cons h k .nil) (by simp only [rightN, Bool.and_eq_true] at hr; simp [allB, hr])
 have e : remF D (.cons h k .nil) = .cons (remH D h) (remK D h k) .nil := rfl
 rw [e] at this
 have := this.2 (by simp only [lostF]; omega)
 simp only [remF, Fo.cons.injEq, and_true] at this
 exact this
end Go.Proofs.YtfpmmckpobpokaaGreat
