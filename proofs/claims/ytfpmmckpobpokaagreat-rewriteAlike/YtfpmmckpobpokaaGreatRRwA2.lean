/-
  A formula shifted by nothing; shifted there and back.
-/
import Derived.Test.YtfpmmckpobpokaaGreatRRwA1
namespace Go.Proofs.YtfpmmckpobpokaaGreat
open Go.RowKit
theorem withB_iff {s m : Int} : withB s m = true ↔ -m ≤ s ∧ s ≤ m := by simp [withB]
theorem slide_back (x : Bool) (r d : Int) (h1 : 1 ≤ r) (h2 : r ≤ 1048576) : slideI x (slideI x r d) (-d) = r := by
  cases x
  · simp only [slideI, Bool.false_eq_true, if_false]
    rw [IntKind.wrap_i64, IntKind.wrap_i64]
    omega
  · simp [slideI]
theorem slide_none (x : Bool) (r : Int) (h1 : 1 ≤ r) (h2 : r ≤ 1048576) : slideI x r 0 = r := by
  cases x
  · simp only [slideI, Bool.false_eq_true, if_false]
    rw [IntKind.wrap_i64]
    omega
  · simp [slideI]
theorem back_shift (dr dc : Int) : Back (shiftD dr dc) (shiftD (-dr) (-dc)) := by
  refine ⟨fun h p _ => ?_, fun h p p2 _ => ?_⟩
  · obtain ⟨q1, q2, q3, q4⟩ := Pla.placeB_iff.1 p
    have e1 := slide_back h.fr h.row dr q1 q2
    have e2 := slide_back h.fc h.col dc q3 (by omega)
    simp [shiftD, cellN, e1, e2, p]
  · obtain ⟨q1, q2, q3, q4⟩ := Pla.placeB_iff.1 p
    obtain ⟨r1, r2, r3, r4⟩ := Pla.placeB_iff.1 p2
    have e1 := slide_back h.fr h.row dr q1 q2
    have e2 := slide_back h.fc h.col dc q3 (by omega)
    have e3 := slide_back h.fr2 h.row2 dr r1 r2
    have e4 := slide_back h.fc2 h.col2 dc r3 (by omega)
    simp [shiftD, rangeN, e1, e2, e3, e4, p, p2]
structure Still (D : Do) : Prop where
 c : ∀ h, Pla.placeB h.row h.col = true → D.c h = (h.row, h.col, true)
 s : ∀ h, Pla.placeB h.row h.col = true → Pla.placeB h.row2 h.col2 = true → D.s h = (h.row, h.col, h.row2, h.col2, true)
theorem still_shift : Still (shiftD 0 0) := by
  refine ⟨fun h p => ?_, fun h p p2 => ?_⟩
  · obtain ⟨q1, q2, q3, q4⟩ := Pla.placeB_iff.1 p
    simp [shiftD, slide_none h.fr h.row q1 q2, slide_none h.fc h.col q3 (by omega), p]
  · obtain ⟨q1, q2, q3, q4⟩ := Pla.placeB_iff.1 p
    obtain ⟨r1, r2, r3, r4⟩ := Pla.placeB_iff.1 p2
    simp [shiftD, slide_none h.fr h.row q1 q2, slide_none h.fc h.col q3 (by omega), slide_none h.fr2 h.row2 r1 r2, slide_none h.fc2 h.col2 r3 (by omega), p, p2]
theorem still_head (D : Do) (hD : Still D) (h : Hd) (n : Nat) (ha : aloneB h n = true) : remH D h = h ∧ (leafB h = true → n = 0) := by
  obtain ⟨kind, vk, vn, vs, vb, vc, row, col, fr, fc, row2, col2, fr2, fc2, txt⟩ := h
  by_cases k2 : kind = 2
  · subst k2
    simp [aloneB, noVal, noTo] at ha
    have hb := hD.c ⟨2, vk, vn, vs, vb, vc, row, col, fr, fc, row2, col2, fr2, fc2, txt⟩ (by simp [ha])
    refine ⟨?_, fun _ => by simp [ha]⟩
    simp only [remH, if_true, hb]
    simp [cellN, ha]
  by_cases k3 : kind = 3
  · subst k3
    simp [aloneB, noVal] at ha
    have hb := hD.s ⟨3, vk, vn, vs, vb, vc, row, col, fr, fc, row2, col2, fr2, fc2, txt⟩ (by simp [ha]) (by simp [ha])
    refine ⟨?_, fun _ => by simp [ha]⟩
    simp only [remH, show ¬ (3 : Int) = 2 by omega, if_false, if_true, hb]
    simp [rangeN, ha]
  refine ⟨?_, fun q => by simp [leafB, k2, k3] at q⟩
  unfold aloneB noVal noCell noTo at ha
  simp only [k2, k3, if_false] at ha
  simp only [remH, k2, k3, if_false, bareH]
  by_cases k1 : kind = 1
  · subst k1
    simp at ha
    simp [ha]
  rw [if_neg k1] at ha
  by_cases k4 : kind = 4
  · subst k4
    simp at ha
    simp [ha]
  rw [if_neg k4] at ha
  by_cases k5 : kind = 5
  · subst k5
    simp at ha
    simp [ha]
  rw [if_neg k5] at ha
  by_cases k6 : kind = 6
  · subst k6
    simp at ha
    simp [ha]
  rw [if_neg k6] at ha
  cases ha
theorem still_all (D : Do) (hD : Still D) : ∀ k : Fo, allB k = true → remF D k = k
  | .nil, _ => rfl
  | .cons h k r, ha => by
    simp only [allB, Bool.and_eq_true] at ha
    obtain ⟨⟨h1, h2⟩, h3⟩ := ha
    obtain ⟨g1, g2⟩ := still_head D hD h k.len h1
    simp only [remF, g1, still_all D hD r h3]
    cases hl : leafB h
    · simp [still_all D hD k h2]
    · simp [len_nil (g2 hl)]
theorem still_node (D : Do) (hD : Still D) (h : Hd) (k : Fo) (hr : rightN h k = true) : remH D h = h ∧ remK D h k = k := by
  simp only [rightN, Bool.and_eq_true] at hr
  obtain ⟨g1, g2⟩ := still_head D hD h k.len hr.1
  refine ⟨g1, ?_⟩
  unfold remK
  cases hl : leafB h
  · simp [still_all D hD k hr.2]
  · simp [len_nil (g2 hl)]
end Go.Proofs.YtfpmmckpobpokaaGreat
