/-
  Numbers that fit, rounded; what a format of one number's place writes; its digits read again.
-/
import Derived.Test.YtmjjdcfobdcdpaaGreatDoorCd10
namespace Go.Proofs.YtmjjdcfobdcdpaaGreatDoor
open Go.RowKit
set_option linter.unusedSimpArgs false

theorem half_top {N d K : Int} (hd : 0 < d) (h : N ≤ K * d) : halfEven N d ≤ K := by
  have h1 := Int.emod_add_mul_ediv N d
  have h2 := Int.emod_nonneg N (Int.ne_of_gt hd)
  unfold halfEven
  have hle : N / d ≤ K := by
    have := Int.ediv_le_ediv hd h
    rwa [Int.mul_ediv_cancel _ (Int.ne_of_gt hd)] at this
  split
  · rename_i hc
    have hr : 0 < N % d := by omega
    have : N / d < K := by
      rcases Int.lt_or_eq_of_le hle with g | g
      · exact g
      · rw [g, Int.mul_comm d K] at h1; omega
    omega
  · exact hle
theorem check_num {n : Int} (h : fitsB n = true) : checkV 1 n ⟨#[]⟩ false 0 = 0 := by
  unfold checkV rightB
  simp [h]
theorem half_one (N : Int) : halfEven N 1 = N := by
  unfold halfEven
  rw [Int.emod_one, Int.ediv_one, if_neg (by omega)]
theorem maxabs {n : Int} : max n (-n) = absI n := by unfold absI; split <;> omega
theorem round_fit {n p d K : Int} (hf : fitsB n = true) (h0 : 0 ≤ n) (hp : plB p = true) (hd : p10 (6 - p).toNat = d) (hd0 : 0 < d) (hK : K * d = 1000000000000000000) :
    ∃ m : Nat, roundR n p = ((m : Int), 0) ∧ (m : Int) = halfEven n d * d ∧ m ≤ 1000000000000000000 := by
  obtain ⟨_, f2⟩ := fitsB_true hf
  have h1 := half_top (N := n) (K := K) hd0 (by rw [hK]; exact f2)
  have h2 := halfEven_nn (N := n) h0 hd0
  have h3 : halfEven n d * d ≤ K * d := Int.mul_le_mul_of_nonneg_right h1 (Int.le_of_lt hd0)
  have h4 : 0 ≤ halfEven n d * d := Int.mul_nonneg h2 (Int.le_of_lt hd0)
  rw [hK] at h3
  refine ⟨(halfEven n d * d).toNat, ?_, by omega, by omega⟩
  unfold roundR
  rw [hf, hp, hd, absI_pos h0, Bool.and_self, if_pos rfl]
  have hg : decide (n < 0) = false := decide_eq_false (by omega)
  rw [hg, show put false (halfEven n d * d) = halfEven n d * d from rfl, told_yes (fitsB_of (by omega) h3), Int.toNat_of_nonneg h4]
theorem sized_plain {ps : List Pc} {n p m : Int} (h : cntK ps 2 = 0) (hd : decsI ps = p) (hr : roundR n p = (m, 0)) : sizedR ps n = (m, 0) := by
  unfold sizedR
  rw [h, hd]
  simp [hundF, hr]
theorem secT_one (p : Plc) (n y m d : Nat) (x t : List UInt8) : secT p n y m d x [⟨1, t⟩] = numT p n := by simp [secT, pieceT]
/-- A whole part of at least one digit. -/
theorem pad_one (u : Nat) : padTo (digL u) 1 = Lib.decDigits u := by
  unfold digL
  by_cases h : 0 < u
  · rw [if_pos h]
    have := dec_pos u
    unfold padTo
    rw [show 1 - (Lib.decDigits u).length = 0 by omega]
    rfl
  · obtain rfl : u = 0 := by omega
    kernel_rfl
theorem rep_facts (k : Nat) : (Lib.repeatL [48] k).all isDig = true ∧ val (Lib.repeatL [48] k) = 0 ∧ (Lib.repeatL [48] k).length = k := by
  induction k with
  | zero => exact ⟨rfl, rfl, rfl⟩
  | succ k ih =>
    have e : Lib.repeatL [48] (k + 1) = 48 :: Lib.repeatL [48] k := by
      simp [Lib.repeatL, List.replicate_succ]
    rw [e]
    refine ⟨by rw [List.all_cons, ih.1]; rfl, ?_, by rw [List.length_cons, ih.2.2]⟩
    rw [val_cons, ih.2.1]
    have : ((48 : UInt8).toNat : Int) - 48 = 0 := by decide
    rw [this, Int.zero_mul]; rfl
theorem pad_facts (u w : Nat) : (padTo (Lib.decDigits u) w).all isDig = true ∧ val (padTo (Lib.decDigits u) w) = u ∧ (padTo (Lib.decDigits u) w).length = max (Lib.decDigits u).length w := by
  obtain ⟨r1, r2, r3⟩ := rep_facts (w - (Lib.decDigits u).length)
  refine ⟨by unfold padTo; rw [List.all_append, r1, dec_all]; rfl, by unfold padTo; rw [val_app, r2, dec_val, Int.zero_mul, Int.zero_add], padTo_len _ _⟩
theorem six_len {r : Nat} (h : r < 1000000) : (padTo (Lib.decDigits r) 6).length = 6 := by
  rw [padTo_len]
  have := cnd_le 5 r (by omega)
  have e := Lib.decDigits_length (u := r)
  omega
theorem take_self {α : Type} {l : List α} {n : Nat} (h : l.length = n) : l.take n = l := by subst h; exact List.take_length
theorem drop_self {α : Type} {l : List α} {n : Nat} (h : l.length = n) : l.drop n = [] := by subst h; exact List.drop_length
theorem frac_six {c q : Bool} {k f : Nat} {r : Nat} (h : r < 1000000) : fracP ⟨c, q, k, 6, f⟩ r = padTo (Lib.decDigits r) 6 := by
  have h6 := six_len h
  have e : fracD ⟨c, q, k, 6, f⟩ r = padTo (Lib.decDigits r) 6 := by unfold fracD; simp [Lib.repeatL]
  unfold fracP
  rw [e, take_self h6, drop_self h6]
  simp [Lib.trimRightB]
/-- Digits, a point and six digits are read as the number that they make. -/
theorem parse_six {W F : List UInt8} (neg : Bool) (hW : W.all isDig = true) (hn : W ≠ []) (hF : F.all isDig = true) (h6 : F.length = 6) (hl : W.length ≤ 20) (hb : val (W ++ F) ≤ 1000000000000000000) :
    parseR ((if neg then [45] else []) ++ (W ++ 46 :: F)) = (put neg (val (W ++ F)), 0) := by
  have hall : (W ++ F).all isDig = true := by rw [List.all_append, hW, hF]; rfl
  have h0 := (val_bd hall).1
  have hg : gatherN (W ++ F) = val (W ++ F) := by rw [gather_val hall]; omega
  have hFn : F ≠ [] := fun e => by rw [e] at h6; cases h6
  have hok : okB (W, F, true) = true := by simp [okB, digB_of hW hn, digB_of hF hFn, h6]
  have hal : allDigits (W, F, true) = W ++ F := by unfold allDigits; simp [h6]
  have hfit : fitsB (put neg (val (W ++ F))) = true := by
    unfold put
    cases neg
    · exact fitsB_of (by simp only [Bool.false_eq_true, if_false]; omega) (by simp only [Bool.false_eq_true, if_false]; omega)
    · exact fitsB_of (by simp only [if_true]; omega) (by simp only [if_true]; omega)
  have key : Lib.trimPrefix ((if neg then [45] else []) ++ (W ++ 46 :: F)) [45] = W ++ 46 :: F ∧ Lib.hasPrefix ((if neg then [45] else []) ++ (W ++ 46 :: F)) [45] = neg := by
    unfold Lib.trimPrefix Lib.hasPrefix
    cases neg
    · match W, hW, hn with
      | c :: W, hW, _ =>
        rw [List.all_cons, Bool.and_eq_true] at hW
        have hc := isDig_iff.1 hW.1
        have hne : (45 : UInt8) ≠ c := fun e => by subst e; simp at hc
        simp [List.isPrefixOf, hne]
    · simp
  have hlen : ¬ 40 < ((if neg then [45] else []) ++ (W ++ 46 :: F)).length := by
    cases neg <;> simp <;> omega
  unfold parseR
  rw [if_neg hlen, key.1, key.2, cut_dot hW, if_pos hok, hal, hg, told_yes hfit]
theorem left_one (ps : List Pc) (h : textB ps = false) : leftS [ps] = [ps] := by simp [leftS, h]
theorem left_two (ps qs : List Pc) (h : textB ps = false) (k : textB qs = false) : leftS [ps, qs] = [ps, qs] := by simp [leftS, h, k]
end Go.Proofs.YtmjjdcfobdcdpaaGreatDoor
