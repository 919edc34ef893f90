/-
  An insertion that pushes nothing of what a formula names off is undone by its Back.
-/
import Derived.Test.YtfpmmckpobpokaaGreatBRwB1
namespace Go.Proofs.YtfpmmckpobpokaaGreat
open Go.RowKit
theorem other_same (D : Do) (h : Hd) (n : Nat) (ha : aloneB h n = true) (k2 : h.kind ≠ 2) (k3 : h.kind ≠ 3) : remH D h = h ∧ leafB h = false := by
 obtain ⟨kind, vk, vn, vs, vb, vc, row, col, fr, fc, row2, col2, fr2, fc2, txt⟩ := h
 simp only at k2 k3
 refine ⟨?_, by simp [leafB, k2, k3]⟩
 unfold aloneB noVal noCell noTo at ha
 simp only [k2, k3, if_false] at ha
 simp only [remH, k2, k3, if_false, bareH]
 by_cases k1 : kind = 1
 ·
  subst k1
  simp at ha
  simp [ha]
 rw [if_neg k1] at ha
 by_cases k4 : kind = 4
 ·
  subst k4
  simp at ha
  simp [ha]
 rw [if_neg k4] at ha
 by_cases k5 : kind = 5
 ·
  subst k5
  simp at ha
  simp [ha]
 rw [if_neg k5] at ha
 by_cases k6 : kind = 6
 ·
  subst k6
  simp at ha
  simp [ha]
 rw [if_neg k6] at ha
 cases ha
theorem ins_stays {k a n f l x : Int} (he : Pla.editB k a n = true) (hi : Pla.insB k = true) (hfl : f ≤ l) (hl : l ≤ Pla.topE k) (hc : Pla.clipB k a n f l = false) (hx : x ≤ l) : Pla.takenB k a n x = false := by
 obtain ⟨d, _, _⟩ := Pla.whole_left he hfl hc
 obtain ⟨e1, e2, _⟩ := Pla.lost_ins he hi
 exact Pla.taken_no.2 (by omega)
theorem rect_back {k a n t l b r : Int} (he : Pla.editB k a n = true) (hi : Pla.insB k = true) (hR : Pla.rightB t l b r = true) (hc : (Pla.clipR k a n t l b r).1 = false) :
  ∃ t' l' b' r', Pla.rectR k a n t l b r = (t', l', b', r', true, 0) ∧ Pla.rightB t' l' b' r' = true ∧ Pla.rectR (Pla.backK k) a n t' l' b' r' = (t, l, b, r, true, 0) ∧ (t < b → t' < b') ∧ (l < r → l' < r') := by
 have g := Pla.rightB_iff.1 hR
 have hb := Pla.edit_back he
 obtain ⟨w1, w2, _, _⟩ := Pla.back_words he
 cases hw : Pla.rowsB k
 ·
  have tt := Pla.top_cols hw
  rw [Pla.clipR_col he hR hw] at hc
  simp only at hc
  have s1 := ins_stays he hi g.2.2.2.2.2 (by omega) hc (x := l) (by omega)
  have s2 := ins_stays he hi g.2.2.2.2.2 (by omega) hc (x := r) (by omega)
  have f1 := Pla.carry_fits he (x := l) (by omega) (by omega) s1
  have f2 := Pla.carry_fits he (x := r) (by omega) (by omega) s2
  have o := Pla.carry_lt he (x := l) (y := r) (by omega) (by omega) s1 (by omega) (by omega) s2
  have o2 := Pla.carry_lt he (x := r) (y := l) (by omega) (by omega) s2 (by omega) (by omega) s1
  obtain ⟨b1, b2⟩ := Pla.line_back he (x := l) (by omega) (by omega) s1
  obtain ⟨b3, b4⟩ := Pla.line_back he (x := r) (by omega) (by omega) s2
  have hR' : Pla.rightB t (Pla.carryR k a n l) b (Pla.carryR k a n r) = true := Pla.rightB_iff.2 (by omega)
  refine ⟨t, Pla.carryR k a n l, b, Pla.carryR k a n r, ?_, hR', ?_, fun q => q, fun q => by omega⟩
  ·
   rw [Pla.rectR_col he hR hw, Pla.linesR_yes (by rw [Pla.leftF_no s1, Pla.leftL_no s2]; omega), Pla.leftF_no s1, Pla.leftL_no s2]
   rfl
  ·
   rw [Pla.rectR_col hb hR' (by rw [w1]; exact hw), Pla.linesR_yes (by rw [Pla.leftF_no b1, Pla.leftL_no b3]; omega), Pla.leftF_no b1, Pla.leftL_no b3, b2, b4]
   rfl
 ·
  have tt := Pla.top_rows hw
  rw [Pla.clipR_row he hR hw] at hc
  simp only at hc
  have s1 := ins_stays he hi g.2.2.2.2.1 (by omega) hc (x := t) (by omega)
  have s2 := ins_stays he hi g.2.2.2.2.1 (by omega) hc (x := b) (by omega)
  have f1 := Pla.carry_fits he (x := t) (by omega) (by omega) s1
  have f2 := Pla.carry_fits he (x := b) (by omega) (by omega) s2
  have o := Pla.carry_lt he (x := t) (y := b) (by omega) (by omega) s1 (by omega) (by omega) s2
  have o2 := Pla.carry_lt he (x := b) (y := t) (by omega) (by omega) s2 (by omega) (by omega) s1
  obtain ⟨b1, b2⟩ := Pla.line_back he (x := t) (by omega) (by omega) s1
  obtain ⟨b3, b4⟩ := Pla.line_back he (x := b) (by omega) (by omega) s2
  have hR' : Pla.rightB (Pla.carryR k a n t) l (Pla.carryR k a n b) r = true := Pla.rightB_iff.2 (by omega)
  refine ⟨Pla.carryR k a n t, l, Pla.carryR k a n b, r, ?_, hR', ?_, fun q => by omega, fun q => q⟩
  ·
   rw [Pla.rectR_row he hR hw, Pla.linesR_yes (by rw [Pla.leftF_no s1, Pla.leftL_no s2]; omega), Pla.leftF_no s1, Pla.leftL_no s2]
   rfl
  ·
   rw [Pla.rectR_row hb hR' (by rw [w1]; exact hw), Pla.linesR_yes (by rw [Pla.leftF_no b1, Pla.leftL_no b3]; omega), Pla.leftF_no b1, Pla.leftL_no b3, b2, b4]
   rfl
def wholeH (k a n : Int) (h : Hd) : Prop := (rectH h).2 = true → (Pla.clipR k a n (rectH h).1.1 (rectH h).1.2.1 (rectH h).1.2.2.1 (rectH h).1.2.2.2).1 = false
theorem spot_whole {k a n r c : Int} (he : Pla.editB k a n = true) (hi : Pla.insB k = true) (hp : Pla.placeB r c = true) (hc : (Pla.clipR k a n r c r c).1 = false) : (Pla.spotR k a n r c).2.2.1 = 0 := by
 have p := Pla.placeB_iff.1 hp
 have hR : Pla.rightB r c r c = true := Pla.rightB_iff.2 (by omega)
 cases hw : Pla.rowsB k
 ·
  have tt := Pla.top_cols hw
  rw [Pla.clipR_col he hR hw] at hc
  rw [Pla.spotR_col he hp hw, ins_stays he hi (Int.le_refl c) (by omega) hc (Int.le_refl c)]
  rfl
 ·
  have tt := Pla.top_rows hw
  rw [Pla.clipR_row he hR hw] at hc
  rw [Pla.spotR_row he hp hw, ins_stays he hi (Int.le_refl r) (by omega) hc (Int.le_refl r)]
  rfl
theorem undo_head {k a n : Int} (he : Pla.editB k a n = true) (hi : Pla.insB k = true) {h : Hd} {m : Nat} (ha : aloneB h m = true) (hw : wholeH k a n h) : remH (moveD (Pla.backK k) a n) (remH (moveD k a n) h) = h ∧ leafB (remH (moveD k a n) h) = leafB h := by
 by_cases k2 : h.kind = 2
 ·
  have hp := alone_cell ha k2
  have hc := hw (by rw [rect_cell k2 hp])
  rw [rect_cell k2 hp] at hc
  obtain ⟨q1, q2⟩ := spot_place he hp (spot_whole he hi hp hc)
  have hf : (Pla.spotR k a n h.row h.col).2.2.1 = 0 := by rw [q2]
  have e : remH (moveD k a n) h = cellN (Pla.spotR k a n h.row h.col).1 (Pla.spotR k a n h.row h.col).2.1 h.fr h.fc := by
   unfold remH
   rw [if_pos k2, if_pos (show ((moveD k a n).c h).2.2 = true by simp [moveD, hf])]
   rfl
  have b := Pla.spot_back q2
  rw [e]
  generalize (Pla.spotR k a n h.row h.col).1 = r' at *
  generalize (Pla.spotR k a n h.row h.col).2.1 = c' at *
  have e2 : remH (moveD (Pla.backK k) a n) (cellN r' c' h.fr h.fc) = cellN h.row h.col h.fr h.fc := by
   unfold remH
   rw [if_pos (show (cellN r' c' h.fr h.fc).kind = 2 from rfl)]
   have : (moveD (Pla.backK k) a n).c (cellN r' c' h.fr h.fc) = (h.row, h.col, true) := by
    show ((Pla.spotR (Pla.backK k) a n r' c').1, (Pla.spotR (Pla.backK k) a n r' c').2.1, (Pla.spotR (Pla.backK k) a n r' c').2.2.1 == 0) = _
    rw [b]
    rfl
   rw [this]
   rfl
  rw [e2]
  refine ⟨?_, by simp [leafB, cellN, k2]⟩
  obtain ⟨kind, vk, vn, vs, vb, vc, row, col, fr, fc, row2, col2, fr2, fc2, txt⟩ := h
  subst k2
  simp [aloneB, noVal, noTo] at ha
  simp [cellN, ha]
 by_cases k3 : h.kind = 3
 ·
  obtain ⟨h1, h2⟩ := alone_range ha k3
  have hc := hw (by rw [rect_range k3 h1 h2])
  rw [rect_range k3 h1 h2] at hc
  simp only at hc
  obtain ⟨o1, o2⟩ := of_right h1 h2
  obtain ⟨t, l, b, r, e1, hR, e2, e3, e4⟩ := rect_back he hi o2 hc
  have es : spanR k a n h.row h.col h.row2 h.col2 = (if h.row ≤ h.row2 then t else b, if h.col ≤ h.col2 then l else r, if h.row ≤ h.row2 then b else t, if h.col ≤ h.col2 then r else l, true) := by
   unfold spanR
   rw [o1]
   simp only [e1]
  have e : remH (moveD k a n) h = rangeN (if h.row ≤ h.row2 then t else b) (if h.col ≤ h.col2 then l else r) h.fr h.fc (if h.row ≤ h.row2 then b else t) (if h.col ≤ h.col2 then r else l) h.fr2 h.fc2 := by
   unfold remH
   rw [if_neg k2, if_pos k3, if_pos (show ((moveD k a n).s h).2.2.2.2 = true by show (spanR k a n h.row h.col h.row2 h.col2).2.2.2.2 = true; rw [es])]
   show rangeN (spanR k a n h.row h.col h.row2 h.col2).1 _ _ _ _ _ _ _ = _
   simp only [moveD, es]
  obtain ⟨_, _, q3⟩ := of_turned hR (h.row ≤ h.row2) (h.col ≤ h.col2)
  rw [e]
  have g := Pla.rightB_iff.1 hR
  have x1 : (if (if h.row ≤ h.row2 then t else b) ≤ (if h.row ≤ h.row2 then b else t) then min h.row h.row2 else max h.row h.row2) = h.row := by
   by_cases q : h.row ≤ h.row2
   ·
    rw [if_pos q, if_pos q, if_pos (by omega)]; omega
   ·
    rw [if_neg q, if_neg q, if_neg (by have := e3 (by omega); omega)]; omega
  have x2 : (if (if h.col ≤ h.col2 then l else r) ≤ (if h.col ≤ h.col2 then r else l) then min h.col h.col2 else max h.col h.col2) = h.col := by
   by_cases q : h.col ≤ h.col2
   ·
    rw [if_pos q, if_pos q, if_pos (by omega)]; omega
   ·
    rw [if_neg q, if_neg q, if_neg (by have := e4 (by omega); omega)]; omega
  have x3 : (if (if h.row ≤ h.row2 then t else b) ≤ (if h.row ≤ h.row2 then b else t) then max h.row h.row2 else min h.row h.row2) = h.row2 := by
   by_cases q : h.row ≤ h.row2
   ·
    rw [if_pos q, if_pos q, if_pos (by omega)]; omega
   ·
    rw [if_neg q, if_neg q, if_neg (by have := e3 (by omega); omega)]; omega
  have x4 : (if (if h.col ≤ h.col2 then l else r) ≤ (if h.col ≤ h.col2 then r else l) then max h.col h.col2 else min h.col h.col2) = h.col2 := by
   by_cases q : h.col ≤ h.col2
   ·
    rw [if_pos q, if_pos q, if_pos (by omega)]; omega
   ·
    rw [if_neg q, if_neg q, if_neg (by have := e4 (by omega); omega)]; omega
  generalize (if h.row ≤ h.row2 then t else b) = A at *
  generalize (if h.col ≤ h.col2 then l else r) = B at *
  generalize (if h.row ≤ h.row2 then b else t) = A2 at *
  generalize (if h.col ≤ h.col2 then r else l) = B2 at *
  have e5 : spanR (Pla.backK k) a n A B A2 B2 = (h.row, h.col, h.row2, h.col2, true) := by
   unfold spanR
   rw [q3]
   simp only [e2, x1, x2, x3, x4]
  have e6 : remH (moveD (Pla.backK k) a n) (rangeN A B h.fr h.fc A2 B2 h.fr2 h.fc2) = rangeN h.row h.col h.fr h.fc h.row2 h.col2 h.fr2 h.fc2 := by
   unfold remH
   rw [if_neg (show ¬ (rangeN A B h.fr h.fc A2 B2 h.fr2 h.fc2).kind = 2 from (by omega : ¬ (3 : Int) = 2)), if_pos (show (rangeN A B h.fr h.fc A2 B2 h.fr2 h.fc2).kind = 3 from rfl)]
   have : (moveD (Pla.backK k) a n).s (rangeN A B h.fr h.fc A2 B2 h.fr2 h.fc2) = (h.row, h.col, h.row2, h.col2, true) := e5
   rw [this]
   rfl
  rw [e6]
  refine ⟨?_, by simp [leafB, rangeN, k3]⟩
  clear e e1 e2 e3 e4 e5 e6 es x1 x2 x3 x4 q3 o1 o2 hc hw hR g
  obtain ⟨kind, vk, vn, vs, vb, vc, row, col, fr, fc, row2, col2, fr2, fc2, txt⟩ := h
  subst k3
  simp [aloneB, noVal] at ha
  simp [rangeN, ha]
 ·
  rw [(other_same (moveD k a n) h m ha k2 k3).1, (other_same (moveD (Pla.backK k) a n) h m ha k2 k3).1]
  exact ⟨rfl, rfl⟩
theorem undo_all {k a n : Int} (he : Pla.editB k a n = true) (hi : Pla.insB k = true) : ∀ F : Fo, allB F = true → (∀ x ∈ preF F, wholeH k a n x.1) → remF (moveD (Pla.backK k) a n) (remF (moveD k a n) F) = F
 | .nil, _, _ => rfl
 | .cons h q r, ha, hw => by
  simp only [allB, Bool.and_eq_true] at ha
  simp only [preF, List.mem_cons, List.mem_append] at hw
  obtain ⟨c1, c2⟩ := undo_head he hi ha.1.1 (hw (h, q) (.inl rfl))
  have c3 := undo_all he hi q ha.1.2 (fun x hx => hw x (.inr (.inl hx)))
  have c4 := undo_all he hi r ha.2 (fun x hx => hw x (.inr (.inr hx)))
  cases hl : leafB h
  ·
   simp only [remF, hl, Bool.false_eq_true, if_false]
   rw [c2, hl, c1, c3, c4]
   simp
  ·
   have := leaf_nil ha.1.1 hl
   subst this
   simp only [remF, hl, if_true]
   rw [c2, hl, c1, c4]
   simp
theorem undo_node {k a n : Int} (he : Pla.editB k a n = true) (hi : Pla.insB k = true) (h : Hd) (q : Fo) (hc : checkN h q = 0) (hw : ∀ s ∈ rectsN h q, (Pla.clipR k a n s.1 s.2.1 s.2.2.1 s.2.2.2).1 = false) :
  remH (moveD (Pla.backK k) a n) (remH (moveD k a n) h) = h ∧ remK (moveD (Pla.backK k) a n) (remH (moveD k a n) h) (remK (moveD k a n) h q) = q := by
 have hr := check_rightN hc
 simp only [rightN, Bool.and_eq_true] at hr
 have hA : allB (.cons h q .nil) = true := by simp [allB, hr.1, hr.2]
 have := undo_all he hi (.cons h q .nil) hA (fun x hx h2 => by
  refine hw _ ?_
  unfold rectsN
  rw [if_pos hc]
  exact (rectsL_mem _ _).2 ⟨x, hx, h2, rfl⟩)
 have e : remF (moveD k a n) (.cons h q .nil) = .cons (remH (moveD k a n) h) (remK (moveD k a n) h q) .nil := rfl
 rw [e] at this
 simp only [remF, Fo.cons.injEq, and_true] at this
 exact this
end Go.Proofs.YtfpmmckpobpokaaGreat
