/-
  Behind an edit: what a formula names goes with its places; an insertion that pushes nothing off is undone.
-/
import Derived.Test.YtfpmmckpobpokaaGreatBRwA1
import Derived.Test.YtfpmmckpobpokaaGreatBRwM4
namespace Go.Proofs.YtfpmmckpobpokaaGreat
open Go.RowKit
def moveS (k a n : Int) : Do := ⟨fun h => if Pla.placeB h.row h.col = true then (moveD k a n).c h else (0, 0, false), fun h => if (Pla.placeB h.row h.col && Pla.placeB h.row2 h.col2) = true then (moveD k a n).s h else (0, 0, 0, 0, false)⟩
theorem alone_cell {h : Hd} {m : Nat} (ha : aloneB h m = true) (k2 : h.kind = 2) : Pla.placeB h.row h.col = true := by
 unfold aloneB at ha
 rw [if_neg (by omega), if_pos k2] at ha
 simp only [Bool.and_eq_true] at ha
 exact ha.1.1.1.1
theorem alone_range {h : Hd} {m : Nat} (ha : aloneB h m = true) (k3 : h.kind = 3) : Pla.placeB h.row h.col = true ∧ Pla.placeB h.row2 h.col2 = true := by
 unfold aloneB at ha
 rw [if_neg (by omega), if_neg (by omega), if_pos k3] at ha
 simp only [Bool.and_eq_true] at ha
 exact ⟨ha.1.1.1.1, ha.1.1.1.2⟩
theorem move_same (k a n : Int) {h : Hd} {m : Nat} (ha : aloneB h m = true) : remH (moveS k a n) h = remH (moveD k a n) h := by
 unfold remH
 by_cases k2 : h.kind = 2
 ·
  have e : (moveS k a n).c h = (moveD k a n).c h := by
   show (if _ then _ else _) = _
   rw [if_pos (alone_cell ha k2)]
  rw [if_pos k2, if_pos k2, e]
 ·
  rw [if_neg k2, if_neg k2]
  by_cases k3 : h.kind = 3
  ·
   obtain ⟨p1, p2⟩ := alone_range ha k3
   have e : (moveS k a n).s h = (moveD k a n).s h := by
    show (if _ then _ else _) = _
    rw [if_pos (by rw [p1, p2]; rfl)]
   rw [if_pos k3, if_pos k3, e]
  ·
   rw [if_neg k3, if_neg k3]
theorem move_sameF (k a n : Int) : ∀ F : Fo, allB F = true → remF (moveS k a n) F = remF (moveD k a n) F
 | .nil, _ => rfl
 | .cons h q r, ha => by
  simp only [allB, Bool.and_eq_true] at ha
  simp only [remF]
  rw [move_same k a n ha.1.1, move_sameF k a n q ha.1.2, move_sameF k a n r ha.2]
theorem move_sameK (k a n : Int) (h : Hd) (q : Fo) (ha : allB q = true) : remK (moveS k a n) h q = remK (moveD k a n) h q := by
 unfold remK
 rw [move_sameF k a n q ha]
theorem spot_place {k a n r c : Int} (he : Pla.editB k a n = true) (hp : Pla.placeB r c = true) (hf : (Pla.spotR k a n r c).2.2.1 = 0) : Pla.placeB (Pla.spotR k a n r c).1 (Pla.spotR k a n r c).2.1 = true ∧ Pla.spotR k a n r c = ((Pla.spotR k a n r c).1, (Pla.spotR k a n r c).2.1, 0, 0) := by
 have p := Pla.placeB_iff.1 hp
 rcases Pla.spot_cases k a n r c with ⟨_, h1 | h1⟩ | ⟨_, _, f, h1, e⟩ | ⟨_, _, hr, ht, e⟩ | ⟨_, _, hr, ht, e⟩
 ·
  rw [he] at h1; cases h1
 ·
  rw [hp] at h1; cases h1
 ·
  rw [e] at hf; simp only at hf; omega
 ·
  have tt := Pla.top_rows hr
  have g := Pla.carry_fits he (x := r) (by omega) (by omega) ht
  rw [e]
  exact ⟨Pla.placeB_iff.2 (by simp only; omega), rfl⟩
 ·
  have tt := Pla.top_cols hr
  have g := Pla.carry_fits he (x := c) (by omega) (by omega) ht
  rw [e]
  exact ⟨Pla.placeB_iff.2 (by simp only; omega), rfl⟩
theorem rect_ok {k a n t l b r : Int} (h : (Pla.rectR k a n t l b r).2.2.2.2.1 = true) : Pla.editB k a n = true ∧ Pla.rightB t l b r = true ∧ ∃ t' l' b' r', Pla.rectR k a n t l b r = (t', l', b', r', true, 0) ∧ Pla.rightB t' l' b' r' = true := by
 rcases Pla.rect_cases k a n t l b r with ⟨e, _⟩ | ⟨_, _, _, _, e, _⟩ | ⟨_, _, _, _, e, _⟩ | ⟨he, hR, hw, hq, e, _⟩ | ⟨he, hR, hw, hq, e, _⟩
 ·
  rw [e] at h; cases h
 ·
  rw [e] at h; cases h
 ·
  rw [e] at h; cases h
 ·
  have g := Pla.rightB_iff.1 hR
  have tt := Pla.top_rows hw
  have o := Pla.lines_ok he (f := t) (l := b) (by omega) (by omega) hq
  exact ⟨he, hR, _, _, _, _, e, Pla.rightB_iff.2 (by omega)⟩
 ·
  have g := Pla.rightB_iff.1 hR
  have tt := Pla.top_cols hw
  have o := Pla.lines_ok he (f := l) (l := r) (by omega) (by omega) hq
  exact ⟨he, hR, _, _, _, _, e, Pla.rightB_iff.2 (by omega)⟩
theorem of_right {r c r2 c2 : Int} (h1 : Pla.placeB r c = true) (h2 : Pla.placeB r2 c2 = true) : Pla.ofR r c r2 c2 = (min r r2, min c c2, max r r2, max c c2, 0) ∧ Pla.rightB (min r r2) (min c c2) (max r r2) (max c c2) = true := by
 refine ⟨by unfold Pla.ofR; rw [h1, h2]; rfl, ?_⟩
 have p1 := Pla.placeB_iff.1 h1
 have p2 := Pla.placeB_iff.1 h2
 exact Pla.rightB_iff.2 (by omega)
theorem of_turned {t l b r : Int} (hR : Pla.rightB t l b r = true) (x y : Prop) [Decidable x] [Decidable y] : Pla.placeB (if x then t else b) (if y then l else r) = true ∧ Pla.placeB (if x then b else t) (if y then r else l) = true ∧ Pla.ofR (if x then t else b) (if y then l else r) (if x then b else t) (if y then r else l) = (t, l, b, r, 0) := by
 have g := Pla.rightB_iff.1 hR
 have p1 : Pla.placeB (if x then t else b) (if y then l else r) = true := Pla.placeB_iff.2 (by split <;> split <;> omega)
 have p2 : Pla.placeB (if x then b else t) (if y then r else l) = true := Pla.placeB_iff.2 (by split <;> split <;> omega)
 refine ⟨p1, p2, ?_⟩
 rw [(of_right p1 p2).1]
 simp only [Prod.mk.injEq, and_true]
 refine ⟨?_, ?_, ?_, ?_⟩ <;> split <;> omega
theorem span_ok {k a n r c r2 c2 : Int} (h1 : Pla.placeB r c = true) (h2 : Pla.placeB r2 c2 = true) (h : (spanR k a n r c r2 c2).2.2.2.2 = true) : ∃ t l b r', Pla.rectR k a n (min r r2) (min c c2) (max r r2) (max c c2) = (t, l, b, r', true, 0) ∧ Pla.rightB t l b r' = true ∧ spanR k a n r c r2 c2 = (if r ≤ r2 then t else b, if c ≤ c2 then l else r', if r ≤ r2 then b else t, if c ≤ c2 then r' else l, true) := by
 unfold spanR at h ⊢
 rw [(of_right h1 h2).1] at h ⊢
 simp only at h ⊢
 obtain ⟨_, _, t, l, b, r', e, hR⟩ := rect_ok h
 rw [e]
 exact ⟨t, l, b, r', rfl, hR, rfl⟩
theorem sound_move {k a n : Int} (he : Pla.editB k a n = true) : Sound (moveS k a n) := by
 refine ⟨fun h q => ?_, fun h q => ?_⟩
 ·
  by_cases hp : Pla.placeB h.row h.col = true
  ·
   have e : (moveS k a n).c h = (moveD k a n).c h := by
    show (if _ then _ else _) = _
    rw [if_pos hp]
   rw [e] at q ⊢
   exact (spot_place he hp (by simpa [moveD] using q)).1
  ·
   have e : (moveS k a n).c h = (0, 0, false) := by
    show (if _ then _ else _) = _
    rw [if_neg hp]
   rw [e] at q
   cases q
 ·
  by_cases hp : (Pla.placeB h.row h.col && Pla.placeB h.row2 h.col2) = true
  ·
   have e : (moveS k a n).s h = spanR k a n h.row h.col h.row2 h.col2 := by
    show (if _ then _ else _) = _
    rw [if_pos hp]
    rfl
   rw [e] at q ⊢
   simp only [Bool.and_eq_true] at hp
   obtain ⟨t, l, b, r, _, hR, e2⟩ := span_ok hp.1 hp.2 q
   rw [e2]
   have := of_turned hR (h.row ≤ h.row2) (h.col ≤ h.col2)
   exact ⟨this.1, this.2.1⟩
  ·
   have e : (moveS k a n).s h = (0, 0, 0, 0, false) := by
    show (if _ then _ else _) = _
    rw [if_neg hp]
   rw [e] at q
   cases q
theorem move_check {k a n : Int} (he : Pla.editB k a n = true) (h : Hd) (q : Fo) (hc : checkN h q = 0) : checkN (remH (moveD k a n) h) (remK (moveD k a n) h q) = 0 ∧ (remK (moveD k a n) h q).many ≤ q.many := by
 have := rem_check (moveS k a n) (sound_move he) h q hc
 have hr := check_rightN hc
 simp only [rightN, Bool.and_eq_true] at hr
 rwa [move_same k a n hr.1, move_sameK k a n h q hr.2] at this
theorem rect_cell {h : Hd} (k2 : h.kind = 2) (hp : Pla.placeB h.row h.col = true) : rectH h = ((h.row, h.col, h.row, h.col), true) := by
 unfold rectH rangeB ofH
 rw [if_pos k2, (of_right hp hp).1]
 simp [k2]
theorem rect_range {h : Hd} (k3 : h.kind = 3) (h1 : Pla.placeB h.row h.col = true) (h2 : Pla.placeB h.row2 h.col2 = true) : rectH h = ((min h.row h.row2, min h.col h.col2, max h.row h.row2, max h.col h.col2), true) := by
 unfold rectH rangeB ofH
 simp only [k3, (of_right h1 h2).1]
 simp
theorem leaf_nil {h : Hd} {q : Fo} (ha : aloneB h q.len = true) (hl : leafB h = true) : q = .nil := by
 refine len_nil ?_
 unfold leafB at hl
 unfold aloneB at ha
 by_cases k2 : h.kind = 2
 ·
  rw [if_neg (by omega), if_pos k2] at ha
  simp only [Bool.and_eq_true, decide_eq_true_eq] at ha
  exact ha.2
 ·
  have k3 : h.kind = 3 := by simpa [k2] using hl
  rw [if_neg (by omega), if_neg k2, if_pos k3] at ha
  simp only [Bool.and_eq_true, decide_eq_true_eq] at ha
  exact ha.2
end Go.Proofs.YtfpmmckpobpokaaGreat
