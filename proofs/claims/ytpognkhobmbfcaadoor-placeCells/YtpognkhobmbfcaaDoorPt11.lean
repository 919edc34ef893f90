/-
  How the answer reads a cell, and that it is what Parse tells: the mathematics.
-/
import Derived.Test.YtpognkhobmbfcaaDoorPt10
namespace Go.Proofs.YtpognkhobmbfcaaDoor
open Go.RowKit

theorem syn_col {l : List UInt8} (h : pCol l = 0) : parseR l = (0, 0, false, false, 5) := by unfold parseR; rw [if_pos (Or.inl h)]
theorem syn_row {l : List UInt8} (h : pRow l = 0) : parseR l = (0, 0, false, false, 5) := by unfold parseR; rw [if_pos (Or.inr (Or.inl h))]
theorem syn_rest {l : List UInt8} (h : p4 l ≠ []) : parseR l = (0, 0, false, false, 5) := by unfold parseR; rw [if_pos (Or.inr (Or.inr h))]
/-- No letter. -/
theorem none_let {l : List UInt8} (h : ∀ h : 0 < (p1 l).length, letB (p1 l)[0] = false) : parseR l = (0, 0, false, false, 5) := by
  apply syn_col
  have := pre_at (p := letB) (m := 3) (k := 0) (l := p1 l) (Nat.zero_le _) (by decide) (by simp) (Or.inr h)
  unfold pCol; rw [this]; rfl
/-- Four letters, or more. -/
theorem four_let {l : List UInt8} {k : Nat} (hk : k ≤ (p1 l).length) (h3 : 3 < k) (ha : ((p1 l).take k).all letB = true) : parseR l = (0, 0, false, false, 5) := by
  apply syn_row
  have h0 := pre_at (p := letB) (m := 3) (k := 3) (l := p1 l) (by omega) (by decide) (by
    have := all_take 3 ha
    rw [List.take_take, Nat.min_eq_left (by omega)] at this
    exact this) (Or.inl rfl)
  have e2 : p2 l = (p1 l).drop 3 := rest_at (by omega) h0
  have hh : letB ((p1 l)[3]'(by omega)) = true := by
    rw [List.all_eq_true] at ha
    refine ha _ ?_
    rw [List.mem_take_iff_getElem]
    exact ⟨3, by omega, rfl⟩
  have e3 : p2 l = (p1 l)[3]'(by omega) :: (p1 l).drop 4 := by rw [e2, List.drop_eq_getElem_cons (by omega)]
  have hl := letB_iff.1 hh
  clear hh e2
  generalize (p1 l)[3]'(by omega) = q at *
  have e4 : p3 l = p2 l := by
    have := fix_no (l := p2 l) (by rw [e3]; intro c hc; rw [List.head?_cons] at hc; rw [← Option.some.inj hc]; omega)
    exact this.2
  have e5 := pre_app (p := digB) (m := 7) [] (p3 l) (by simp) (by decide) (Or.inr (by rw [e4, e3]; intro c hc; rw [List.head?_cons] at hc; rw [← Option.some.inj hc, digB_no]; omega))
  unfold pRow
  rw [List.nil_append] at e5
  rw [e5.1]; rfl
/-- One to three letters. -/
theorem some_let {l : List UInt8} {k : Nat} (hk : k ≤ (p1 l).length) (h3 : k ≤ 3) (ha : ((p1 l).take k).all letB = true) (hn : ∀ h : k < (p1 l).length, letB (p1 l)[k] = false) : pCol l = colV ((p1 l).take k) ∧ p2 l = (p1 l).drop k := by
  have h0 := pre_at (p := letB) (m := 3) (k := k) (l := p1 l) hk h3 ha (Or.inr hn)
  exact ⟨by unfold pCol; rw [h0], rest_at hk h0⟩
theorem bad_len {l : List UInt8} (h : (p3 l).length = 0 ∨ 7 < (p3 l).length) : parseR l = (0, 0, false, false, 5) := by
  rcases h with h | h
  · apply syn_row
    unfold pRow
    rw [List.eq_nil_of_length_eq_zero h]; rfl
  · apply syn_rest
    intro e
    have h1 := congrArg List.length e
    have h2 := pre_len digB 7 (p3 l)
    unfold p4 rest at h1
    simp at h1; omega
theorem bad_nought {l : List UInt8} (h0 : 0 < (p3 l).length) (h : (p3 l)[0].toNat = 48) : parseR l = (0, 0, false, false, 5) := by
  apply syn_row
  have e : p3 l = (p3 l)[0] :: (p3 l).drop 1 := by
    conv => lhs; rw [← List.drop_zero (l := p3 l), List.drop_eq_getElem_cons h0]
  have hc : (p3 l)[0] = 48 := UInt8.toNat_inj.1 h
  rw [hc] at e
  unfold pRow
  rw [e]
  show rowV ((48 :: ((p3 l).drop 1).take 6).takeWhile digB) = 0
  rw [List.takeWhile_cons, if_pos (by decide)]
  exact rowV_zero _
theorem bad_digit {l : List UInt8} {k : Nat} (hk : k < (p3 l).length) (h : digB (p3 l)[k] = false) : parseR l = (0, 0, false, false, 5) := by
  apply syn_rest
  intro e
  have e1 : (pre digB 7 (p3 l)).length = (p3 l).length := by
    have := congrArg List.length e
    have h2 : (pre digB 7 (p3 l)).length ≤ (p3 l).length := by
      unfold pre
      have := (List.takeWhile_sublist digB (l := (p3 l).take 7)).length_le
      rw [List.length_take] at this; omega
    unfold p4 rest at this
    simp at this; omega
  have e2 : pre digB 7 (p3 l) = p3 l := by
    unfold pre at *
    exact ((List.takeWhile_sublist digB).trans (List.take_sublist 7 (p3 l))).eq_of_length e1
  have := pre_all digB 7 (p3 l)
  rw [e2, List.all_eq_true] at this
  rw [this _ (List.getElem_mem hk)] at h
  cases h
theorem dec_pos {l : List UInt8} (h0 : 0 < l.length) (hn : l[0].toNat ≠ 48) (ha : l.all digB = true) : 1 ≤ decV l := by
  have e : l = l[0] :: l.drop 1 := by
    conv => lhs; rw [← List.drop_zero (l := l), List.drop_eq_getElem_cons h0]
  have hd := digB_iff.1 (List.all_eq_true.1 ha _ (List.getElem_mem h0))
  have : ∀ (t : List UInt8) (acc : Nat), acc ≤ t.foldl (fun n c => n * 10 + (c.toNat - 48)) acc := by
    intro t
    induction t with
    | nil => intro acc; exact Nat.le_refl _
    | cons c t ih => intro acc; exact Nat.le_trans (show acc ≤ acc * 10 + (c.toNat - 48) by omega) (ih _)
  have h1 := this (l.drop 1) (0 * 10 + (l[0].toNat - 48))
  rw [e]
  unfold decV
  rw [List.foldl_cons]
  omega
/-- All digits. -/
theorem good_digits {l : List UInt8} (h0 : 0 < (p3 l).length) (h7 : (p3 l).length ≤ 7) (hn : (p3 l)[0].toNat ≠ 48) (ha : (p3 l).all digB = true) (hc : pCol l ≠ 0) :
    parseR l = if placeB (decV (p3 l)) (pCol l) then ((decV (p3 l) : Int), (pCol l : Int), pFixR l, pFixC l, 0) else (0, 0, false, false, 11) := by
  have k := pre_app (p := digB) (m := 7) (p3 l) [] ha h7 (Or.inr (by simp))
  rw [List.append_nil] at k
  have e : p3 l = (p3 l)[0] :: (p3 l).drop 1 := by
    conv => lhs; rw [← List.drop_zero (l := p3 l), List.drop_eq_getElem_cons h0]
  have er : pRow l = decV (p3 l) := by
    unfold pRow
    rw [k.1, e, rowV_dec (fun x => hn (by rw [x]; rfl))]
  have e4 : p4 l = [] := k.2
  have hpos : pRow l ≠ 0 := by rw [er]; have := dec_pos h0 hn ha; omega
  unfold parseR
  rw [e4, if_neg (by simp [hc, hpos]), er]
theorem dec_take {l : List UInt8} {k : Nat} (hk : k < l.length) : decV (l.take (k + 1)) = decV (l.take k) * 10 + (l[k].toNat - 48) := by
  rw [List.take_succ_eq_append_getElem hk, decV_snoc]
theorem dec_bd (l : List UInt8) (ha : l.all digB = true) : decV l < 10 ^ l.length := by
  have h := dec_from l 0 ha
  have := Lib.decFrom_lt l 0 _ h
  unfold decV; omega
end Go.Proofs.YtpognkhobmbfcaaDoor
