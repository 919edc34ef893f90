/-
  The answer's write.
  The answer's count, padded; grouping from the left (plain words), and its whole.
  Digits of one length and value; a fraction's noughts (plain words).
  The answer's whole and fraction.
  The answer's fraction.
  The answer's number.
  The answer's words of a place and the program's are the same (plain words).
  The answer's part of a day.
-/
import Derived.Test.YtnhaapcpklfkpaaGreatDoorCd1
import Derived.Test.YtnhaapcpklfkpaaGreatDoorVNum
import Derived.Test.YtnhaapcpklfkpaaGreatDoorRc2
import Derived.Test.YtnhaapcpklfkpaaGreatDoorCd4b
import Derived.Test.YtnhaapcpklfkpaaGreatDoorRc6
import Derived.Test.YtnhaapcpklfkpaaGreatDoorVDat2
import Derived.Test.YtnhaapcpklfkpaaGreatDoorCd9d
namespace Go.Proofs.YtnhaapcpklfkpaaGreatDoor
open Go.RowKit
set_option linter.unusedSimpArgs false

theorem byte12_eq (a b : UInt8) : ((a.toNat : Int) == (b.toNat : Int)) = (a == b) := by
  by_cases h : a = b
  · subst h; simp
  · have : a.toNat ≠ b.toNat := fun e => h (UInt8.toNat_inj.1 e)
    have e : ((a.toNat : Int) == (b.toNat : Int)) = false := by rw [beq_eq_false_iff_ne]; omega
    rw [e]; simp [h]
theorem cb_step {S : List UInt8} {k : Nat} (c : UInt8) (h : k < S.length) : Lib.countByte (S.take (k + 1)) c = Lib.countByte (S.take k) c + if S[k] = c then 1 else 0 := by
  unfold Lib.countByte
  rw [List.take_succ_eq_append_getElem h, List.count_append]
  by_cases e : S[k] = c
  · subst e; simp
  · simp [e, List.count_singleton]
theorem cb_le (S : List UInt8) (c : UInt8) : Lib.countByte S c ≤ S.length := List.count_le_length
set_option maxRecDepth 100000 in
set_option maxHeartbeats 2000000 in
theorem rcount_any (S : List UInt8) (c : UInt8) (w : World) (hs : S.length ≤ 100000) :
    Calls Tryz.prog 96 #[.string ⟨S.toArray⟩, .int .u8 (c.toNat : Int)] w fun e w' => e = .returned (.int .i64 (Lib.countByte S c)) ∧ Below w.heap.size w w' := by
  have sz := mk_size S
  go_enter Tryz.func96, Tryz.ntmps96
  go_wp2
  go_loopw [5, 6] (fun nv iv wr => ∃ k m : Nat, k ≤ S.length ∧ m ≤ k ∧ iv = .int .i64 k ∧ nv = .int .i64 m ∧ Hid (m = Lib.countByte (S.take k) c) ∧ Below w.heap.size w wr) (fun _ iv _ => S.length - (intOf iv).toNat)
  case atStart => exact ⟨0, 0, Nat.zero_le _, Nat.le_refl _, rfl, rfl, by rw [Hid]; simp [Lib.countByte], Below.refl _ w⟩
  case round =>
    obtain ⟨k, m, hk, hm, rfl, rfl, HQ, hB⟩ := hrel
    by_cases hlt : k < S.length
    · have g1 : (k : Int) < (S.length : Int) := by omega
      have hx : ∀ h, (⟨S.toArray⟩ : ByteArray)[k]'h = S[k] := fun h => rfl
      have hst := cb_step c hlt
      by_cases c1 : S[k] = c
      · have b1 : ((S[k].toNat : Int) == (c.toNat : Int)) = true := by rw [byte12_eq, c1]; simp
        have b2 : (S[k].toNat : Int) = (c.toNat : Int) := by rw [c1]
        have HQ2 : Hid (m + 1 = Lib.countByte (S.take (k + 1)) c) := by show _ = _; rw [hst, if_pos c1, HQ.out]
        clear HQ c1 hst
        go_wp2
        go_roundw
        case rel => exact ⟨k + 1, m + 1, hlt, by omega, by go_num, by go_num, HQ2, hB⟩
        case measure => simp [intOf] <;> omega
      · have b1 : ((S[k].toNat : Int) == (c.toNat : Int)) = false := by rw [byte12_eq]; simpa using c1
        have HQ2 : Hid (m = Lib.countByte (S.take (k + 1)) c) := by show _ = _; rw [hst, if_neg c1, HQ.out]; rfl
        clear HQ c1 hst
        go_wp2
        go_roundw
        case rel => exact ⟨k + 1, m, hlt, by omega, by go_num, rfl, HQ2, hB⟩
        case measure => simp [intOf] <;> omega
    · have HF : Hid (m = Lib.countByte S c) := by
        have hq := HQ.out
        rw [show k = S.length by omega, List.take_length] at hq
        exact hq
      have g1 : ¬ (k : Int) < (S.length : Int) := by omega
      clear HQ
      go_wp2
      go_ret
      exact ⟨ret_num (by rw [HF.out]), hB⟩
theorem rep_more12 (c : Nat) (D : List UInt8) : (⟨#[48]⟩ : ByteArray) ++ ⟨(Lib.repeatL [48] c ++ D).toArray⟩ = ⟨(Lib.repeatL [48] (c + 1) ++ D).toArray⟩ := by
  show (⟨[48].toArray⟩ : ByteArray) ++ _ = _
  rw [ba_app]
  rfl
theorem rep_size (c : Nat) (D : List UInt8) : (⟨(Lib.repeatL [48] c ++ D).toArray⟩ : ByteArray).size = c + D.length := by
  rw [mk_size, List.length_append, Lib.repeatL_length]; simp
set_option maxHeartbeats 2000000 in
theorem rpadded12_any (n wd : Nat) (w : World) (hn : n ≤ 4000000000000000000) (hw : wd ≤ 100000) :
    Calls Tryz.prog 73 #[.int .i64 n, .int .i64 wd] w fun e w' => e = .returned (.string ⟨(padTo (Lib.decDigits n) wd).toArray⟩) ∧ Below w.heap.size w w' := by
  have HI : Hid (∀ W : World, Calls Tryz.prog 67 #[.int .i64 n] W fun e w' => e = .returned (.string ⟨(Lib.decDigits n).toArray⟩) ∧ Below W.heap.size W w') := fun W => by have := rdigits_any n W (by omega) (by omega); rwa [Int.toNat_natCast] at this
  unfold padTo
  generalize Lib.decDigits n = D at *
  go_enter Tryz.func73, Tryz.ntmps73
  go_wp2_with (go_at_call 67; refine (HI.out _).mono ?_; rintro e w1 ⟨rfl, hb1⟩)
  go_loopw [5] (fun sv wr => ∃ c : Nat, c ≤ wd - D.length ∧ sv = .string ⟨(Lib.repeatL [48] c ++ D).toArray⟩ ∧ Below w.heap.size w wr) (fun sv _ => wd - (match sv with | .string b => b.size | _ => 0))
  case atStart => exact ⟨0, by omega, rfl, hb1⟩
  case round =>
    obtain ⟨c, hc, rfl, hB⟩ := hrel
    have hz := rep_size c D
    have HS' := hide (rep_size (c + 1) D)
    have HM := hide (rep_more12 c D)
    by_cases hlt : c + D.length < wd
    · obtain ⟨T, hT⟩ : ∃ T : ByteArray, T = ⟨(Lib.repeatL [48] c ++ D).toArray⟩ := ⟨_, rfl⟩
      rw [← hT] at hz HM ⊢
      clear hT
      have l1 : ((T.size : Nat) : Int) < (wd : Int) := by omega
      have n1 : ¬ 9223372036854775807 < 1 + T.size := by omega
      have HZ := hide hz
      clear hz
      go_wp2
      go_roundw
      case rel => exact ⟨c + 1, by omega, by rw [HM.out], by assumption⟩
      case measure =>
        have h1 := HZ.out
        have h2 := HS'.out
        show wd - ((⟨#[48]⟩ : ByteArray) ++ T).size < wd - T.size
        rw [HM.out, h2, h1]
        omega
    · have HC : Hid (c = wd - D.length) := by show c = _; omega
      obtain ⟨T, hT⟩ : ∃ T : ByteArray, T = ⟨(Lib.repeatL [48] c ++ D).toArray⟩ := ⟨_, rfl⟩
      have HTE := hide hT
      rw [← hT] at hz ⊢
      clear hT HM HS'
      have l1 : ¬ ((T.size : Nat) : Int) < (wd : Int) := by omega
      clear hz
      go_wp2
      go_ret
      refine ⟨?_, by assumption⟩
      rw [← HC.out, ← HTE.out]
      rfl
/-- Digits in groups of three, told from the left. -/
def grpL : Bool → List UInt8 → List UInt8
  | _, [] => []
  | f, c :: r => (if f = false ∧ (r.length + 1) % 3 = 0 then [44] else []) ++ c :: grpL false r
theorem grp_tail {y : List UInt8} (hy : y.length = 3) : ∀ x : List UInt8, grpL false (x ++ y) = grpL false x ++ 44 :: y
  | [] => by
    match y, hy with
    | [a, b, c], _ => simp [grpL]
  | c :: x => by
    rw [List.cons_append, grpL, grpL, grp_tail hy x, List.length_append, hy]
    have : (x.length + 3 + 1) % 3 = (x.length + 1) % 3 := by omega
    rw [this]; simp
theorem grp_small : ∀ d : List UInt8, d.length ≤ 3 → grpL true d = d
  | [], _ => rfl
  | [a], _ => by simp [grpL]
  | [a, b], _ => by simp [grpL]
  | [a, b, c], _ => by simp [grpL]
  | a :: b :: c :: e :: r, h => by simp at h
theorem grp_head (c : UInt8) (z : List UInt8) : grpL true (c :: z) = c :: grpL false z := by simp [grpL]
theorem group_left : ∀ (n : Nat) (d out : List UInt8), d.length ≤ n → groupF n d out = grpL true d ++ out
  | 0, d, out, h => by
    have : d = [] := List.eq_nil_of_length_eq_zero (by omega)
    subst this; rfl
  | n + 1, d, out, h => by
    by_cases h3 : 3 < d.length
    · rw [group_big n d out h3, group_left n _ _ (by rw [List.length_take]; omega)]
      have hy : (d.drop (d.length - 3)).length = 3 := by rw [List.length_drop]; omega
      have hx : d = d.take (d.length - 3) ++ d.drop (d.length - 3) := (List.take_append_drop _ _).symm
      have hl : (d.take (d.length - 3)).length ≠ 0 := by rw [List.length_take]; omega
      generalize d.take (d.length - 3) = x at *
      generalize d.drop (d.length - 3) = y at *
      subst hx
      cases x with
      | nil => exact absurd rfl hl
      | cons c x =>
        have e1 := grp_head c (x ++ y)
        rw [← List.cons_append] at e1
        rw [e1, grp_head, grp_tail hy x]
        simp
    · rw [group_small _ d out h3, grp_small d (by omega)]
theorem groupR_left (d : List UInt8) : groupR d = grpL true d := by
  unfold groupR
  rw [group_left _ _ _ (Nat.le_refl _), List.append_nil]
theorem grp_le : ∀ (d : List UInt8) (f : Bool), (grpL f d).length ≤ 2 * d.length
  | [], f => by simp [grpL]
  | c :: r, f => by
    have := grp_le r false
    rw [grpL, List.length_append, List.length_cons, List.length_cons]
    split
    · simp only [List.length_cons, List.length_nil]; omega
    · simp only [List.length_nil]; omega
end Go.Proofs.YtnhaapcpklfkpaaGreatDoor
namespace Go.Proofs.YtnhaapcpklfkpaaGreatDoor
open Go.RowKit
set_option linter.unusedSimpArgs false

theorem val_same : ∀ {a b : List UInt8}, a.length = b.length → a.all isDig = true → b.all isDig = true → val a = val b → a = b
  | [], [], _, _, _, _ => rfl
  | [], _ :: _, h, _, _, _ => by simp at h
  | _ :: _, [], h, _, _, _ => by simp at h
  | c :: a, d :: b, h, ha, hb, e => by
    have hl : a.length = b.length := by simpa using h
    rw [List.all_cons, Bool.and_eq_true] at ha hb
    rw [val_cons, val_cons, hl] at e
    obtain ⟨a1, a2⟩ := val_bd ha.2
    obtain ⟨b1, b2⟩ := val_bd hb.2
    rw [hl] at a2
    have hP := p10_pos b.length
    generalize p10 b.length = P at *
    generalize hx : (c.toNat : Int) - 48 = x at *
    generalize hy : (d.toNat : Int) - 48 = y at *
    have hxy : x = y := by
      rcases Int.lt_trichotomy x y with q | q | q
      · have := Int.mul_le_mul_of_nonneg_right (show x + 1 ≤ y by omega) (Int.le_of_lt hP)
        rw [Int.add_mul, Int.one_mul] at this
        omega
      · exact q
      · have := Int.mul_le_mul_of_nonneg_right (show y + 1 ≤ x by omega) (Int.le_of_lt hP)
        rw [Int.add_mul, Int.one_mul] at this
        omega
    rw [hxy] at e
    have hv : val a = val b := by omega
    have hcd : c = d := UInt8.toNat_inj.1 (by omega)
    rw [hcd, val_same hl ha.2 hb.2 hv]
theorem rep12_facts (k : Nat) : (Lib.repeatL [48] k).all isDig = true ∧ val (Lib.repeatL [48] k) = 0 ∧ (Lib.repeatL [48] k).length = k := by
  induction k with
  | zero => exact ⟨rfl, rfl, rfl⟩
  | succ k ih =>
    have e : Lib.repeatL [48] (k + 1) = 48 :: Lib.repeatL [48] k := by
      simp [Lib.repeatL, List.replicate_succ]
    rw [e]
    refine ⟨by rw [List.all_cons, ih.1]; rfl, ?_, by rw [List.length_cons, ih.2.2]⟩
    rw [val_cons, ih.2.1]
    have : ((48 : UInt8).toNat : Int) - 48 = 0 := by decide
    rw [this, Int.zero_mul]; rfl
theorem pad12_facts (u w : Nat) : (padTo (Lib.decDigits u) w).all isDig = true ∧ val (padTo (Lib.decDigits u) w) = u ∧ (padTo (Lib.decDigits u) w).length = max (Lib.decDigits u).length w := by
  obtain ⟨r1, r2, r3⟩ := rep12_facts (w - (Lib.decDigits u).length)
  refine ⟨by unfold padTo; rw [List.all_append, r1, dec_all]; rfl, by unfold padTo; rw [val_app, r2, dec_val, Int.zero_mul, Int.zero_add], padTo_len _ _⟩
theorem six12_len {r : Nat} (h : r < 1000000) : (padTo (Lib.decDigits r) 6).length = 6 := by
  rw [padTo_len]
  have := cnd_le 5 r (by omega)
  have e := Lib.decDigits_length (u := r)
  omega
/-- Six digits by way of a seventh. -/
theorem six_tail {m : Nat} (h : m < 1000000) : (Lib.decDigits (1000000 + m)).drop 1 = padTo (Lib.decDigits m) 6 := by
  have hf := frac6_facts (m : Int)
  have e : frac6 (m : Int) = (Lib.decDigits (1000000 + m)).drop 1 := by
    unfold frac6
    have : ((m : Int) % 1000000 + 1000000).toNat = 1000000 + m := by omega
    rw [this, List.drop_one]
  rw [e] at hf
  obtain ⟨p1, p2, _⟩ := pad12_facts m 6
  exact val_same (by rw [hf.1, six12_len h]) hf.2.1 p1 (by rw [hf.2.2, p2]; omega)
/-- Behind a place that a number is rounded to there are noughts. -/
theorem zero_tail {l : List UInt8} {q : Nat} (hd : l.all isDig = true) (_hq : q ≤ l.length) (hz : val l % p10 (l.length - q) = 0) : l.drop q = Lib.repeatL [48] (l.length - q) := by
  have hs : val l = val (l.take q) * p10 (l.drop q).length + val (l.drop q) := by
    conv => lhs; rw [← List.take_append_drop q l]
    exact val_app _ _
  have hdd : (l.drop q).all isDig = true := by
    rw [List.all_eq_true] at hd ⊢
    exact fun x hx => hd x (List.mem_of_mem_drop hx)
  obtain ⟨v1, v2⟩ := val_bd hdd
  have hl : (l.drop q).length = l.length - q := List.length_drop
  rw [hl] at hs v2
  obtain ⟨r1, r2, r3⟩ := rep12_facts (l.length - q)
  refine val_same (by rw [hl, r3]) hdd r1 ?_
  rw [r2]
  rw [hs, Int.add_comm, Int.add_mul_emod_self_right, Int.emod_eq_of_lt v1 v2] at hz
  exact hz
theorem rep12_is : ∀ k : Nat, Lib.repeatL [48] k = List.replicate k 48
  | 0 => rfl
  | k + 1 => by simp [Lib.repeatL, List.replicate_succ, rep12_is k]
theorem trim_rep (x : List UInt8) (k : Nat) : Lib.trimRightB (x ++ Lib.repeatL [48] k) 48 = Lib.trimRightB x 48 := by
  rw [rep12_is]
  unfold Lib.trimRightB
  rw [List.reverse_append, List.reverse_replicate]
  congr 1
  induction k with
  | zero => rfl
  | succ k ih =>
    rw [List.replicate_succ, List.cons_append, List.dropWhile_cons]
    simp only [BEq.rfl, if_true]
    exact ih
/-- What the answer's fraction makes of six digits and a place's part. -/
def fracA (F P : List UInt8) : List UInt8 := (F ++ Lib.repeatL [48] (P.length - F.length)).take P.length
def fracB (F P : List UInt8) : List UInt8 := (fracA F P).take (Lib.countByte P 48) ++ Lib.trimRightB ((fracA F P).drop (Lib.countByte P 48)) 48
theorem frac_is {p : Plc} {P : List UInt8} {m : Nat} (h1 : p.fixed = Lib.countByte P 48) (hm : m < 1000000) (hz : (m : Int) % p10 (6 - P.length) = 0) : fracB (padTo (Lib.decDigits m) 6) P = fracP p m := by
  have h6 := six12_len hm
  obtain ⟨d1, d2, _⟩ := pad12_facts m 6
  have hk : Lib.countByte P 48 ≤ P.length := cb_le P 48
  unfold fracB fracP fracD
  rw [← h1] at hk ⊢
  generalize padTo (Lib.decDigits m) 6 = F at *
  unfold fracA
  rw [h6]
  by_cases hl : P.length < 6
  · have e0 : P.length - 6 = 0 := by omega
    have e1 : p.fixed - 6 = 0 := by omega
    rw [e0, e1]
    have er : Lib.repeatL [48] 0 = [] := rfl
    rw [er, List.append_nil]
    have ht := zero_tail d1 (q := P.length) (by omega) (by rw [h6, d2]; exact hz)
    have hF : F = F.take P.length ++ Lib.repeatL [48] (6 - P.length) := by
      conv => lhs; rw [← List.take_append_drop P.length F, ht, h6]
    have hx : (F.take P.length).length = P.length := by rw [List.length_take]; omega
    generalize F.take P.length = X at *
    rw [hF, List.take_append_of_le_length (by omega), List.drop_append_of_le_length (by omega), trim_rep]
  · have hT : (F ++ Lib.repeatL [48] (P.length - 6)).length = P.length := by rw [List.length_append, h6, (rep12_facts _).2.2]; omega
    have hT2 : (F ++ Lib.repeatL [48] (P.length - 6)).take P.length = F ++ Lib.repeatL [48] (P.length - 6) := List.take_of_length_le (by omega)
    rw [hT2]
    have hs : Lib.repeatL [48] (P.length - 6) = Lib.repeatL [48] (p.fixed - 6) ++ Lib.repeatL [48] (P.length - 6 - (p.fixed - 6)) := by
      rw [rep12_is, rep12_is, rep12_is, List.replicate_append_replicate]
      congr 1; omega
    rw [hs, ← List.append_assoc]
    have hlen : p.fixed ≤ (F ++ Lib.repeatL [48] (p.fixed - 6)).length := by rw [List.length_append, h6, (rep12_facts _).2.2]; omega
    rw [List.take_append_of_le_length hlen, List.drop_append_of_le_length hlen, trim_rep]
end Go.Proofs.YtnhaapcpklfkpaaGreatDoor
namespace Go.Proofs.YtnhaapcpklfkpaaGreatDoor
open Go.RowKit
set_option linter.unusedSimpArgs false

theorem upW {w0 w w' : World} (h : Below w0.heap.size w0 w) (k : Below w.heap.size w w') : Below w0.heap.size w0 w' := h.trans (k.mono h.size)
theorem byteSlice (D : List UInt8) (k : Nat) (h : k < D.length) : (⟨D.toArray⟩ : ByteArray).extract k (k + 1) = ⟨[D[k]].toArray⟩ := by
  rw [Lib.extract_mk]
  have : (D.drop k).take 1 = [D[k]] := by rw [List.drop_eq_getElem_cons h]; rfl
  apply ByteArray.ext
  simp [this]
/-- Digits in a place's whole part. -/
def wholeB (P D : List UInt8) : List UInt8 := if Lib.countByte P 44 = 0 then padTo D (Lib.countByte P 48) else groupR (padTo D (Lib.countByte P 48))
def wholeA (P : List UInt8) (n : Nat) : List UInt8 := wholeB P (digL n)
theorem wholeA_len {P : List UInt8} {n : Nat} (hn : n ≤ 4000000000000000000) (hP : P.length ≤ 1000) : (wholeA P n).length ≤ 2100 := by
  have h1 := digL_len (n := n) (by omega)
  have h2 := cb_le P 48
  have h3 := padTo_len (digL n) (Lib.countByte P 48)
  unfold wholeA wholeB
  split
  · omega
  · rw [groupR_left]
    have := grp_le (padTo (digL n) (Lib.countByte P 48)) true
    omega
theorem grp_at {D : List UInt8} {i : Nat} (h : i < D.length) : grpL (decide (i = 0)) (D.drop i) = (if 0 < i ∧ (D.length - i) % 3 = 0 then [44] else []) ++ D[i] :: grpL (decide (i + 1 = 0)) (D.drop (i + 1)) := by
  rw [List.drop_eq_getElem_cons h]
  have e1 : decide (i + 1 = 0) = false := by simp
  rw [e1, grpL]
  have hl : (D.drop (i + 1)).length + 1 = D.length - i := by rw [List.length_drop]; omega
  rw [hl]
  by_cases hi : i = 0
  · subst hi; simp
  · have : 0 < i := by omega
    simp [hi, this]
set_option maxRecDepth 100000 in
set_option maxHeartbeats 4000000 in
theorem rwhole_any (n : Nat) (P : List UInt8) (w : World) (hn : n ≤ 4000000000000000000) (hP : P.length ≤ 1000) :
    Calls Tryz.prog 70 #[.int .i64 n, .string ⟨P.toArray⟩] w fun e w' => e = .returned (.string ⟨(wholeA P n).toArray⟩) ∧ Below w.heap.size w w' := by
  have HI : Hid (∀ W : World, Calls Tryz.prog 67 #[.int .i64 n] W fun e w' => e = .returned (.string ⟨(Lib.decDigits n).toArray⟩) ∧ Below W.heap.size W w') := fun W => by have := rdigits_any n W (by omega) (by omega); rwa [Int.toNat_natCast] at this
  have HC : Hid (∀ (c : UInt8) (W : World), Calls Tryz.prog 96 #[.string ⟨P.toArray⟩, .int .u8 (c.toNat : Int)] W fun e w' => e = .returned (.int .i64 (Lib.countByte P c)) ∧ Below W.heap.size W w') := fun c W => rcount_any P c W (by omega)
  have HC0 := hide (HC.out 48)
  have HC1 := hide (HC.out 44)
  have c48 : (((48 : UInt8).toNat : Nat) : Int) = 48 := rfl
  have c44 : (((44 : UInt8).toNat : Nat) : Int) = 44 := rfl
  rw [c48] at HC0
  rw [c44] at HC1
  have hL := digL_len (n := n) (by omega)
  have hk := cb_le P 48
  have hm := cb_le P 44
  have hD1 : 0 < n → Lib.decDigits n = digL n := fun h => by unfold digL; rw [if_pos h]
  have hD2 : ¬ 0 < n → (⟨#[]⟩ : ByteArray) = ⟨(digL n).toArray⟩ := fun h => by unfold digL; rw [if_neg h]
  obtain ⟨R, hR⟩ : ∃ R, wholeA P n = R := ⟨_, rfl⟩
  rw [hR]
  unfold wholeA wholeB padTo at hR
  generalize hK : Lib.countByte P 48 = K at *
  generalize hM : Lib.countByte P 44 = M at *
  generalize digL n = D at *
  have HR := hide hR
  clear hR hK hM HC c48 c44
  have HB0 := hide (Below.refl w.heap.size w)
  have hKl : K ≤ 1000 := by omega
  have hMl : M ≤ 1000 := by omega
  by_cases h0 : 0 < n
  · rw [hD1 h0] at HI
    clear hD1 hD2
    have h1 : (0 : Int) < (n : Int) := by omega
    go_enter Tryz.func70, Tryz.ntmps70
    go_wp2_with (go_at_call 67; refine (HI.out _).mono ?_; rintro e w1 ⟨rfl, hb1⟩; replace HB0 := hide (upW HB0.out hb1); clear hb1)
    go_loopw [5] (fun sv wr => ∃ c : Nat, c ≤ K - D.length ∧ sv = .string ⟨(Lib.repeatL [48] c ++ D).toArray⟩ ∧ Hid (Below w.heap.size w wr)) (fun sv _ => K - (match sv with | .string b => b.size | _ => 0))
    case atStart => exact ⟨0, by omega, rfl, HB0⟩
    case round =>
      obtain ⟨c, hc, rfl, HB⟩ := hrel
      have hz := rep_size c D
      have HS' := hide (rep_size (c + 1) D)
      have HM := hide (rep_more12 c D)
      by_cases hlt : c + D.length < K
      · obtain ⟨T, hT⟩ : ∃ T : ByteArray, T = ⟨(Lib.repeatL [48] c ++ D).toArray⟩ := ⟨_, rfl⟩
        rw [← hT] at hz HM ⊢
        clear hT HR
        have l1 : ((T.size : Nat) : Int) < (K : Int) := by omega
        have n1 : ¬ 9223372036854775807 < 1 + T.size := by omega
        have HZ := hide hz
        clear hz
        go_wp2_with (go_at_call 96; refine (HC0.out _).mono ?_; rintro e w2 ⟨rfl, hb1⟩; replace HB := hide (upW HB.out hb1); clear hb1)
        go_roundw
        case rel => exact ⟨c + 1, by omega, by rw [HM.out], HB⟩
        case measure =>
          have h1 := HZ.out
          have h2 := HS'.out
          show K - ((⟨#[48]⟩ : ByteArray) ++ T).size < K - T.size
          rw [HM.out, h2, h1]
          omega
      · have hcK : c = K - D.length := by omega
        rw [← hcK] at HR
        have hE : (Lib.repeatL [48] c ++ D).length ≤ 1020 := by rw [List.length_append, (rep12_facts c).2.2]; omega
        clear HM HS'
        generalize Lib.repeatL [48] c ++ D = E at *
        have sz := mk_size E
        have l1 : ¬ ((E.length : Nat) : Int) < (K : Int) := by omega
        clear hz hlt hcK hc hL
        by_cases hM0 : M = 0
        · subst hM0
          have HF : Hid (R = E) := by
            have := HR.out
            rw [if_pos rfl] at this
            exact this.symm
          clear HR
          go_wp2_with (go_at_call 96; first | (refine (HC0.out _).mono ?_; clear HC0; rintro e w2 ⟨rfl, hb1⟩; replace HB := hide (upW HB.out hb1); clear hb1) | (refine (HC1.out _).mono ?_; rintro e w2 ⟨rfl, hb1⟩; replace HB := hide (upW HB.out hb1); clear hb1))
          go_ret
          rw [HF.out]
          exact ⟨rfl, HB.out⟩
        · have hm0 : ((M : Int) == 0) = false := by rw [beq_eq_false_iff_ne]; omega
          have hm1 : ¬ (M : Int) = 0 := by omega
          have HF : Hid (R = grpL true E) := by
            have := HR.out
            rw [if_neg hM0, groupR_left] at this
            exact this.symm
          clear HR
          go_wp2_with (go_at_call 96; first | (refine (HC0.out _).mono ?_; clear HC0; rintro e w2 ⟨rfl, hb1⟩; replace HB := hide (upW HB.out hb1); clear hb1) | (refine (HC1.out _).mono ?_; rintro e w2 ⟨rfl, hb1⟩; replace HB := hide (upW HB.out hb1); clear hb1))
          have HB5 := HB
          clear HB
          go_loopw [6, 7] (fun tv iv wr => ∃ (t : List UInt8) (i : Nat), i ≤ E.length ∧ t.length ≤ 2 * i ∧ tv = .string ⟨t.toArray⟩ ∧ iv = .int .i64 i ∧ Hid (t ++ grpL (decide (i = 0)) (E.drop i) = R) ∧ Hid (Below w.heap.size w wr)) (fun _ iv _ => E.length - (intOf iv).toNat)
          case atStart => exact ⟨[], 0, by omega, by simp, rfl, rfl, HF.out.symm, HB5⟩
          case round =>
            obtain ⟨t, i, hi, ht, rfl, rfl, HT, HB⟩ := hrel
            have szt := mk_size t
            by_cases hlt2 : i < E.length
            · have hg := grp_at hlt2
              have g1 : (i : Int) < (E.length : Int) := by omega
              have g0 : (0 : Int) ≤ (i : Int) := by omega
              have g2 : IntKind.i64.wrap ((i : Int) + 1) = (i : Int) + 1 := by rw [IntKind.wrap_i64]; omega
              have g3 : ((i : Int) + 1).toNat = i + 1 := by omega
              have g4 : (i : Int) + 1 ≤ (E.length : Int) := by omega
              have g5 : IntKind.i64.wrap ((E.length : Int) - (i : Int)) = (E.length : Int) - (i : Int) := by rw [IntKind.wrap_i64]; omega
              have g6 : Int.tmod ((E.length : Int) - (i : Int)) 3 = (((E.length - i) % 3 : Nat) : Int) := by
                rw [Int.tmod_eq_emod_of_nonneg (by omega)]; omega
              have hsl := byteSlice E i hlt2
              have hs1 : (⟨[E[i]].toArray⟩ : ByteArray).size = 1 := rfl
              by_cases hcm : 0 < i ∧ (E.length - i) % 3 = 0
              · rw [if_pos hcm] at hg
                have p1 : (0 : Int) < (i : Int) := by omega
                have HT2 : Hid ((t ++ [44] ++ [E[i]]) ++ grpL (decide (i + 1 = 0)) (E.drop (i + 1)) = R) := by
                  show _ = _
                  rw [← HT.out, hg]; simp
                have HA : Hid ((⟨t.toArray⟩ : ByteArray) ++ ⟨#[44]⟩ ++ ⟨[E[i]].toArray⟩ = ⟨(t ++ [44] ++ [E[i]]).toArray⟩) := by
                  show _ = _
                  rw [show (⟨#[44]⟩ : ByteArray) = ⟨[44].toArray⟩ from rfl, ba_app, ba_app]
                have q1 : (((E.length - i) % 3 : Nat) : Int) = 0 := by omega
                rw [q1] at g6
                have n1 : (9223372036854775807 < t.length + 1) = False := eq_false (by omega)
                have n2 : (9223372036854775807 < t.length + 1 + 1) = False := eq_false (by omega)
                clear hg HT q1 hcm
                generalize E[i] = b at *
                go_wp2
                go_roundw
                case rel => exact ⟨t ++ [44] ++ [b], i + 1, hlt2, by simp; omega, by rw [HA.out], by go_num, HT2, HB⟩
                case measure => simp [intOf] <;> omega
              · rw [if_neg hcm, List.nil_append] at hg
                have HT2 : Hid ((t ++ [E[i]]) ++ grpL (decide (i + 1 = 0)) (E.drop (i + 1)) = R) := by
                  show _ = _
                  rw [← HT.out, hg]; simp
                have HA : Hid ((⟨t.toArray⟩ : ByteArray) ++ ⟨[E[i]].toArray⟩ = ⟨(t ++ [E[i]]).toArray⟩) := by
                  show _ = _
                  rw [ba_app]
                have n1 : (9223372036854775807 < t.length + 1) = False := eq_false (by omega)
                by_cases hi0 : 0 < i
                · have p1 : (0 : Int) < (i : Int) := by omega
                  have q0 : (E.length - i) % 3 ≠ 0 := fun h => hcm ⟨hi0, h⟩
                  have q1 : ((((E.length - i) % 3 : Nat) : Int) == 0) = false := by rw [beq_eq_false_iff_ne]; omega
                  have q2 : ¬ (((E.length - i) % 3 : Nat) : Int) = 0 := by omega
                  clear hg HT hcm q0
                  generalize (((E.length - i) % 3 : Nat) : Int) = q at *
                  generalize E[i] = b at *
                  go_wp2
                  go_roundw
                  case rel => exact ⟨t ++ [b], i + 1, hlt2, by simp; omega, by rw [HA.out], by go_num, HT2, HB⟩
                  case measure => simp [intOf] <;> omega
                · have p1 : ¬ (0 : Int) < (i : Int) := by omega
                  clear hg HT hcm
                  generalize E[i] = b at *
                  go_wp2
                  go_roundw
                  case rel => exact ⟨t ++ [b], i + 1, hlt2, by simp; omega, by rw [HA.out], by go_num, HT2, HB⟩
                  case measure => simp [intOf] <;> omega
            · have g1 : ¬ (i : Int) < (E.length : Int) := by omega
              have HR2 : Hid (R = t) := by
                have := HT.out
                rw [List.drop_eq_nil_of_le (by omega)] at this
                rw [← this]
                show _ = t
                simp [grpL]
              clear HT
              go_wp2
              go_ret
              rw [HR2.out]
              exact ⟨rfl, HB.out⟩
  · have hd2 := hD2 h0
    clear hD1 hD2
    have h1 : ¬ (0 : Int) < (n : Int) := by omega
    go_enter Tryz.func70, Tryz.ntmps70
    go_wp2
    clear hd2
    go_loopw [5] (fun sv wr => ∃ c : Nat, c ≤ K - D.length ∧ sv = .string ⟨(Lib.repeatL [48] c ++ D).toArray⟩ ∧ Hid (Below w.heap.size w wr)) (fun sv _ => K - (match sv with | .string b => b.size | _ => 0))
    case atStart => exact ⟨0, by omega, rfl, HB0⟩
    case round =>
      obtain ⟨c, hc, rfl, HB⟩ := hrel
      have hz := rep_size c D
      have HS' := hide (rep_size (c + 1) D)
      have HM := hide (rep_more12 c D)
      by_cases hlt : c + D.length < K
      · obtain ⟨T, hT⟩ : ∃ T : ByteArray, T = ⟨(Lib.repeatL [48] c ++ D).toArray⟩ := ⟨_, rfl⟩
        rw [← hT] at hz HM ⊢
        clear hT HR
        have l1 : ((T.size : Nat) : Int) < (K : Int) := by omega
        have n1 : ¬ 9223372036854775807 < 1 + T.size := by omega
        have HZ := hide hz
        clear hz
        go_wp2_with (go_at_call 96; refine (HC0.out _).mono ?_; rintro e w2 ⟨rfl, hb1⟩; replace HB := hide (upW HB.out hb1); clear hb1)
        go_roundw
        case rel => exact ⟨c + 1, by omega, by rw [HM.out], HB⟩
        case measure =>
          have h1 := HZ.out
          have h2 := HS'.out
          show K - ((⟨#[48]⟩ : ByteArray) ++ T).size < K - T.size
          rw [HM.out, h2, h1]
          omega
      · have hcK : c = K - D.length := by omega
        rw [← hcK] at HR
        have hE : (Lib.repeatL [48] c ++ D).length ≤ 1020 := by rw [List.length_append, (rep12_facts c).2.2]; omega
        clear HM HS'
        generalize Lib.repeatL [48] c ++ D = E at *
        have sz := mk_size E
        have l1 : ¬ ((E.length : Nat) : Int) < (K : Int) := by omega
        clear hz hlt hcK hc hL
        by_cases hM0 : M = 0
        · subst hM0
          have HF : Hid (R = E) := by
            have := HR.out
            rw [if_pos rfl] at this
            exact this.symm
          clear HR
          go_wp2_with (go_at_call 96; first | (refine (HC0.out _).mono ?_; clear HC0; rintro e w2 ⟨rfl, hb1⟩; replace HB := hide (upW HB.out hb1); clear hb1) | (refine (HC1.out _).mono ?_; rintro e w2 ⟨rfl, hb1⟩; replace HB := hide (upW HB.out hb1); clear hb1))
          go_ret
          rw [HF.out]
          exact ⟨rfl, HB.out⟩
        · have hm0 : ((M : Int) == 0) = false := by rw [beq_eq_false_iff_ne]; omega
          have hm1 : ¬ (M : Int) = 0 := by omega
          have HF : Hid (R = grpL true E) := by
            have := HR.out
            rw [if_neg hM0, groupR_left] at this
            exact this.symm
          clear HR
          go_wp2_with (go_at_call 96; first | (refine (HC0.out _).mono ?_; clear HC0; rintro e w2 ⟨rfl, hb1⟩; replace HB := hide (upW HB.out hb1); clear hb1) | (refine (HC1.out _).mono ?_; rintro e w2 ⟨rfl, hb1⟩; replace HB := hide (upW HB.out hb1); clear hb1))
          have HB5 := HB
          clear HB
          go_loopw [6, 7] (fun tv iv wr => ∃ (t : List UInt8) (i : Nat), i ≤ E.length ∧ t.length ≤ 2 * i ∧ tv = .string ⟨t.toArray⟩ ∧ iv = .int .i64 i ∧ Hid (t ++ grpL (decide (i = 0)) (E.drop i) = R) ∧ Hid (Below w.heap.size w wr)) (fun _ iv _ => E.length - (intOf iv).toNat)
          case atStart => exact ⟨[], 0, by omega, by simp, rfl, rfl, HF.out.symm, HB5⟩
          case round =>
            obtain ⟨t, i, hi, ht, rfl, rfl, HT, HB⟩ := hrel
            have szt := mk_size t
            by_cases hlt2 : i < E.length
            · have hg := grp_at hlt2
              have g1 : (i : Int) < (E.length : Int) := by omega
              have g0 : (0 : Int) ≤ (i : Int) := by omega
              have g2 : IntKind.i64.wrap ((i : Int) + 1) = (i : Int) + 1 := by rw [IntKind.wrap_i64]; omega
              have g3 : ((i : Int) + 1).toNat = i + 1 := by omega
              have g4 : (i : Int) + 1 ≤ (E.length : Int) := by omega
              have g5 : IntKind.i64.wrap ((E.length : Int) - (i : Int)) = (E.length : Int) - (i : Int) := by rw [IntKind.wrap_i64]; omega
              have g6 : Int.tmod ((E.length : Int) - (i : Int)) 3 = (((E.length - i) % 3 : Nat) : Int) := by
                rw [Int.tmod_eq_emod_of_nonneg (by omega)]; omega
              have hsl := byteSlice E i hlt2
              have hs1 : (⟨[E[i]].toArray⟩ : ByteArray).size = 1 := rfl
              by_cases hcm : 0 < i ∧ (E.length - i) % 3 = 0
              · rw [if_pos hcm] at hg
                have p1 : (0 : Int) < (i : Int) := by omega
                have HT2 : Hid ((t ++ [44] ++ [E[i]]) ++ grpL (decide (i + 1 = 0)) (E.drop (i + 1)) = R) := by
                  show _ = _
                  rw [← HT.out, hg]; simp
                have HA : Hid ((⟨t.toArray⟩ : ByteArray) ++ ⟨#[44]⟩ ++ ⟨[E[i]].toArray⟩ = ⟨(t ++ [44] ++ [E[i]]).toArray⟩) := by
                  show _ = _
                  rw [show (⟨#[44]⟩ : ByteArray) = ⟨[44].toArray⟩ from rfl, ba_app, ba_app]
                have q1 : (((E.length - i) % 3 : Nat) : Int) = 0 := by omega
                rw [q1] at g6
                have n1 : (9223372036854775807 < t.length + 1) = False := eq_false (by omega)
                have n2 : (9223372036854775807 < t.length + 1 + 1) = False := eq_false (by omega)
                clear hg HT q1 hcm
                generalize E[i] = b at *
                go_wp2
                go_roundw
                case rel => exact ⟨t ++ [44] ++ [b], i + 1, hlt2, by simp; omega, by rw [HA.out], by go_num, HT2, HB⟩
                case measure => simp [intOf] <;> omega
              · rw [if_neg hcm, List.nil_append] at hg
                have HT2 : Hid ((t ++ [E[i]]) ++ grpL (decide (i + 1 = 0)) (E.drop (i + 1)) = R) := by
                  show _ = _
                  rw [← HT.out, hg]; simp
                have HA : Hid ((⟨t.toArray⟩ : ByteArray) ++ ⟨[E[i]].toArray⟩ = ⟨(t ++ [E[i]]).toArray⟩) := by
                  show _ = _
                  rw [ba_app]
                have n1 : (9223372036854775807 < t.length + 1) = False := eq_false (by omega)
                by_cases hi0 : 0 < i
                · have p1 : (0 : Int) < (i : Int) := by omega
                  have q0 : (E.length - i) % 3 ≠ 0 := fun h => hcm ⟨hi0, h⟩
                  have q1 : ((((E.length - i) % 3 : Nat) : Int) == 0) = false := by rw [beq_eq_false_iff_ne]; omega
                  have q2 : ¬ (((E.length - i) % 3 : Nat) : Int) = 0 := by omega
                  clear hg HT hcm q0
                  generalize (((E.length - i) % 3 : Nat) : Int) = q at *
                  generalize E[i] = b at *
                  go_wp2
                  go_roundw
                  case rel => exact ⟨t ++ [b], i + 1, hlt2, by simp; omega, by rw [HA.out], by go_num, HT2, HB⟩
                  case measure => simp [intOf] <;> omega
                · have p1 : ¬ (0 : Int) < (i : Int) := by omega
                  clear hg HT hcm
                  generalize E[i] = b at *
                  go_wp2
                  go_roundw
                  case rel => exact ⟨t ++ [b], i + 1, hlt2, by simp; omega, by rw [HA.out], by go_num, HT2, HB⟩
                  case measure => simp [intOf] <;> omega
            · have g1 : ¬ (i : Int) < (E.length : Int) := by omega
              have HR2 : Hid (R = t) := by
                have := HT.out
                rw [List.drop_eq_nil_of_le (by omega)] at this
                rw [← this]
                show _ = t
                simp [grpL]
              clear HT
              go_wp2
              go_ret
              rw [HR2.out]
              exact ⟨rfl, HB.out⟩
end Go.Proofs.YtnhaapcpklfkpaaGreatDoor
namespace Go.Proofs.YtnhaapcpklfkpaaGreatDoor
open Go.RowKit
set_option linter.unusedSimpArgs false

theorem lastByte {L : List UInt8} {j : Nat} (h : 0 < j) (hl : L.length = j) : ∃ b, L[j - 1]? = some b ∧ ∀ hh, (⟨L.toArray⟩ : ByteArray)[j - 1]'hh = b := by
  have hj : j - 1 < L.length := by omega
  exact ⟨L[j - 1], List.getElem?_eq_getElem hj, fun hh => rfl⟩
theorem rep_tail (D : List UInt8) (c : Nat) : (⟨(D ++ Lib.repeatL [48] c).toArray⟩ : ByteArray) ++ ⟨#[48]⟩ = ⟨(D ++ Lib.repeatL [48] (c + 1)).toArray⟩ := by
  show _ ++ (⟨[48].toArray⟩ : ByteArray) = _
  rw [ba_app, rep12_is, rep12_is, List.replicate_succ', List.append_assoc]
theorem rept_size (D : List UInt8) (c : Nat) : (⟨(D ++ Lib.repeatL [48] c).toArray⟩ : ByteArray).size = D.length + c := by
  rw [mk_size, List.length_append, (rep12_facts c).2.2]
theorem trim_stop12 {L : List UInt8} {k j : Nat} (hk : k ≤ j) (hj : j ≤ L.length) (hz : ∀ b ∈ L.drop j, b = 48) (hs : j = k ∨ ∀ b, L[j - 1]? = some b → b ≠ 48) : L.take j = L.take k ++ Lib.trimRightB (L.drop k) 48 := by
  have ht : Lib.trimRightB (L.drop k) 48 = (L.drop k).take (j - k) := by
    refine Lib.trimRightB_take _ _ _ (by rw [List.length_drop]; omega) (fun i b hi hb => ?_) (fun b h0 hb => ?_)
    · rw [List.getElem?_drop] at hb
      refine hz b (List.mem_of_getElem? (i := k + i - j) ?_)
      rw [List.getElem?_drop, show j + (k + i - j) = k + i by omega]
      exact hb
    · rw [List.getElem?_drop, show k + (j - k - 1) = j - 1 by omega] at hb
      rcases hs with h | h
      · omega
      · exact h b hb
  rw [ht]
  conv => lhs; rw [show j = k + (j - k) by omega]
  exact List.take_add
set_option maxRecDepth 100000 in
set_option maxHeartbeats 4000000 in
theorem rfraction_any (F P : List UInt8) (w : World) (hF : F.length ≤ 1000) (hP : P.length ≤ 1000) :
    Calls Tryz.prog 71 #[.string ⟨F.toArray⟩, .string ⟨P.toArray⟩] w fun e w' => e = .returned (.string ⟨(fracB F P).toArray⟩) ∧ Below w.heap.size w w' := by
  have HC0 : Hid (∀ (W : World), Calls Tryz.prog 96 #[.string ⟨P.toArray⟩, .int .u8 48] W fun e w' => e = .returned (.int .i64 (Lib.countByte P 48)) ∧ Below W.heap.size W w') := fun W => rcount_any P 48 W (by omega)
  have hk := cb_le P 48
  have szP := mk_size P
  obtain ⟨R, hR⟩ : ∃ R, fracB F P = R := ⟨_, rfl⟩
  rw [hR]
  have hR2 : ∀ j, Lib.countByte P 48 ≤ j → j ≤ (fracA F P).length → (∀ b ∈ (fracA F P).drop j, b = 48) → (j = Lib.countByte P 48 ∨ ∀ b, (fracA F P)[j - 1]? = some b → b ≠ 48) → (fracA F P).take j = R := fun j h1 h2 h3 h4 => (trim_stop12 h1 h2 h3 h4).trans hR
  clear hR
  have hA : (fracA F P).length = P.length := by
    unfold fracA
    rw [List.length_take, List.length_append, (rep12_facts _).2.2]; omega
  generalize hK : Lib.countByte P 48 = K at *
  have HR := hide hR2
  clear hR2 hK
  have HB0 := hide (Below.refl w.heap.size w)
  go_enter Tryz.func71, Tryz.ntmps71
  go_wp2
  go_loopw [0] (fun sv wr => ∃ c : Nat, c ≤ P.length - F.length ∧ sv = .string ⟨(F ++ Lib.repeatL [48] c).toArray⟩ ∧ Hid (Below w.heap.size w wr)) (fun sv _ => P.length - (match sv with | .string b => b.size | _ => 0))
  case atStart => exact ⟨0, by omega, by simp [Lib.repeatL], HB0⟩
  case round =>
    obtain ⟨c, hc, rfl, HB⟩ := hrel
    have hz := rept_size F c
    have HS' := hide (rept_size F (c + 1))
    have HM := hide (rep_tail F c)
    by_cases hlt : F.length + c < P.length
    · obtain ⟨T, hT⟩ : ∃ T : ByteArray, T = ⟨(F ++ Lib.repeatL [48] c).toArray⟩ := ⟨_, rfl⟩
      rw [← hT] at hz HM ⊢
      clear hT HR
      have l1 : ((T.size : Nat) : Int) < (P.length : Int) := by omega
      have n1 : ¬ 9223372036854775807 < T.size + 1 := by omega
      have HZ := hide hz
      clear hz
      go_wp2
      go_roundw
      case rel => exact ⟨c + 1, by omega, by rw [HM.out], HB⟩
      case measure =>
        have h1 := HZ.out
        have h2 := HS'.out
        show P.length - (T ++ (⟨#[48]⟩ : ByteArray)).size < P.length - T.size
        rw [HM.out, h2, h1]
        omega
    · have hcK : c = P.length - F.length := by omega
      subst hcK
      have hAE : fracA F P = (F ++ Lib.repeatL [48] (P.length - F.length)).take P.length := rfl
      have hEl : P.length ≤ (F ++ Lib.repeatL [48] (P.length - F.length)).length := by rw [List.length_append, (rep12_facts _).2.2]; omega
      have hEb : (F ++ Lib.repeatL [48] (P.length - F.length)).length ≤ 3000 := by rw [List.length_append, (rep12_facts _).2.2]; omega
      clear HM HS'
      generalize F ++ Lib.repeatL [48] (P.length - F.length) = E at *
      have szE := mk_size E
      have l1 : ¬ ((E.length : Nat) : Int) < (P.length : Int) := by omega
      have l2 : ((P.length : Nat) : Int) ≤ (E.length : Int) := by omega
      have hx := mk_take E P.length
      rw [← hAE] at hx
      clear hz hlt hc hAE
      generalize fracA F P = A at *
      have szA := mk_size A
      go_wp2
      have HB5 := HB
      clear HB
      go_loopw [5] (fun sv wr => ∃ j : Nat, K ≤ j ∧ j ≤ A.length ∧ sv = .string ⟨(A.take j).toArray⟩ ∧ Hid (∀ b ∈ A.drop j, b = 48) ∧ Hid (Below w.heap.size w wr)) (fun sv _ => (match sv with | .string b => b.size | _ => 0))
      case atStart => exact ⟨A.length, by omega, Nat.le_refl _, by rw [List.take_length], (by rw [List.drop_length]; exact (fun b hb => nomatch hb : ∀ b ∈ ([] : List UInt8), b = 48)), HB5⟩
      case round =>
        obtain ⟨j, hj, hjA, rfl, HZ, HB⟩ := hrel
        have hlj : (A.take j).length = j := by rw [List.length_take]; omega
        have szJ := mk_size (A.take j)
        rw [hlj] at szJ
        by_cases hjk : K < j
        · obtain ⟨b, hb1, hb2⟩ := lastByte (L := A.take j) (j := j) (by omega) hlj
          have hbA : A[j - 1]? = some b := by rw [← hb1, List.getElem?_take_of_lt (by omega)]
          have p1 : (K : Int) < (j : Int) := by omega
          have p2 : IntKind.i64.wrap ((j : Int) - 1) = (j : Int) - 1 := by rw [IntKind.wrap_i64]; omega
          have p3 : (0 : Int) ≤ (j : Int) - 1 := by omega
          have p4 : (j : Int) - 1 < (j : Int) := by omega
          have p5 : ((j : Int) - 1).toNat = j - 1 := by omega
          have p6 : (j : Int) - 1 ≤ (j : Int) := by omega
          by_cases h48 : b = 48
          · have e1 : ((b.toNat : Int) == 48) = true := by rw [h48]; rfl
            have e2 : (b.toNat : Int) = 48 := by rw [h48]; rfl
            have HZ2 : Hid (∀ x ∈ A.drop (j - 1), x = 48) := by
              intro x hx
              have hjl : j - 1 < A.length := by omega
              rw [List.drop_eq_getElem_cons hjl] at hx
              rcases List.mem_cons.1 hx with h | h
              · rw [List.getElem?_eq_getElem hjl] at hbA
                cases hbA
                rw [h, h48]
              · rw [show j - 1 + 1 = j by omega] at h
                exact HZ.out x h
            have hx2 : (⟨(A.take j).toArray⟩ : ByteArray).extract 0 (j - 1) = ⟨(A.take (j - 1)).toArray⟩ := by
              rw [mk_take, List.take_take, Nat.min_eq_left (by omega)]
            have HS2 : Hid ((⟨(A.take (j - 1)).toArray⟩ : ByteArray).size = j - 1) := by show _ = _; rw [mk_size, List.length_take]; omega
            have HS3 := hide szJ
            clear HR hb1 hbA h48 HZ hx
            generalize A.take j = J at *
            obtain ⟨J2, hJ2⟩ : ∃ x, A.take (j - 1) = x := ⟨_, rfl⟩
            rw [hJ2] at hx2 HS2
            have HJ2 := hide hJ2
            clear hJ2
            go_wp2_with (go_at_call 96; refine (HC0.out _).mono ?_; rintro e w2 ⟨rfl, hb1⟩; replace HB := hide (upW HB.out hb1); clear hb1)
            go_roundw
            case rel => exact ⟨j - 1, by omega, by omega, by rw [HJ2.out], HZ2, HB⟩
            case measure =>
              have h1 := HS2.out
              have h2 := HS3.out
              show (⟨J2.toArray⟩ : ByteArray).size < (⟨J.toArray⟩ : ByteArray).size
              omega
          · have e1 : ((b.toNat : Int) == 48) = false := by
              rw [beq_eq_false_iff_ne]; intro e; exact h48 (UInt8.toNat_inj.1 (by show b.toNat = 48; omega))
            have e2 : ¬ (b.toNat : Int) = 48 := by intro e; exact h48 (UInt8.toNat_inj.1 (by show b.toNat = 48; omega))
            have HF2 : Hid (A.take j = R) := HR.out j hj hjA HZ.out (.inr fun x hx => by rw [hbA] at hx; cases hx; exact h48)
            clear HR hb1 hbA h48 HZ hx
            generalize A.take j = J at *
            go_wp2_with (go_at_call 96; refine (HC0.out _).mono ?_; rintro e w2 ⟨rfl, hb1⟩; replace HB := hide (upW HB.out hb1); clear hb1)
            go_ret
            rw [HF2.out]
            exact ⟨rfl, HB.out⟩
        · have p1 : ¬ (K : Int) < (j : Int) := by omega
          have HF2 : Hid (A.take j = R) := HR.out j hj hjA HZ.out (.inl (by omega))
          clear HR HZ hx
          generalize A.take j = J at *
          go_wp2_with (go_at_call 96; refine (HC0.out _).mono ?_; rintro e w2 ⟨rfl, hb1⟩; replace HB := hide (upW HB.out hb1); clear hb1)
          go_ret
          rw [HF2.out]
          exact ⟨rfl, HB.out⟩
end Go.Proofs.YtnhaapcpklfkpaaGreatDoor
namespace Go.Proofs.YtnhaapcpklfkpaaGreatDoor
open Go.RowKit
set_option linter.unusedSimpArgs false

/-- A number as a place has it, or why not. -/
def sizedP (t : List UInt8) (h : Nat) (n : Int) : Int × Int :=
  if (hundF h n).2 = 0 then (if (roundR (hundF h n).1 (min ((fracOf t).length : Int) 6)).2 = 0 then ((roundR (hundF h n).1 (min ((fracOf t).length : Int) 6)).1, 0) else (0, 5)) else (0, 5)
def numA (t : List UInt8) (m : Nat) : List UInt8 := if (Lib.cut t [46]).2.2 then wholeA (wholeOf t) (m / 1000000) ++ 46 :: fracB (padTo (Lib.decDigits (m % 1000000)) 6) (fracOf t) else wholeA (wholeOf t) (m / 1000000)
theorem mul_fit {m : Int} (h0 : 0 ≤ m) (h1 : m ≤ 1000000000000000000) (hz : (mulR m 100000000).2 = 0) : 0 ≤ (mulR m 100000000).1 ∧ (mulR m 100000000).1 ≤ 1000000000000000000 := by
  rw [mulR_good (fitsB_of (by omega) h1) (by decide)] at hz ⊢
  split at hz
  · cases hz
  · rename_i hq
    rw [if_neg hq]
    have hs : (decide (m < 0) != decide ((100000000 : Int) < 0)) = false := by rw [decide_eq_false (by omega)]; rfl
    rw [hs]
    show 0 ≤ halfEven _ _ ∧ halfEven _ _ ≤ _
    exact ⟨halfEven_nn (Int.mul_nonneg (absI_nn _) (absI_nn _)) (by decide), by omega⟩
theorem round_nn {n p : Int} (h0 : 0 ≤ n) (hz : (roundR n p).2 = 0) : 0 ≤ (roundR n p).1 ∧ (roundR n p).1 ≤ 1000000000000000000 ∧ (roundR n p).1 % p10 (6 - p).toNat = 0 := by
  unfold roundR at hz ⊢
  split at hz
  · rename_i hq
    rw [if_pos hq]
    have hg : decide (n < 0) = false := decide_eq_false (by omega)
    rw [hg] at hz ⊢
    unfold told at hz ⊢
    split at hz
    · rename_i hf
      rw [if_pos hf]
      obtain ⟨f1, f2⟩ := fitsB_true hf
      show 0 ≤ put false _ ∧ put false _ ≤ _ ∧ put false _ % _ = 0
      have e : ∀ x, put false x = x := fun _ => rfl
      rw [e] at f1 f2 ⊢
      exact ⟨Int.mul_nonneg (halfEven_nn (absI_nn _) (p10_pos _)) (Int.le_of_lt (p10_pos _)), f2, Int.mul_emod_left _ _⟩
    · cases hz
  · cases hz
theorem cut_point {t : List UInt8} {k : Nat} (hk : k ≤ t.length) (h : ∀ c ∈ t.take k, c ≠ 46) (he : ∀ c, t[k]? = some c → c = 46) : (Lib.cut t [46]).2.2 = decide (k < t.length) := by
  by_cases hl : k < t.length
  · have h46 := he t[k] (List.getElem?_eq_getElem hl)
    have e : t = t.take k ++ 46 :: t.drop (k + 1) := by
      conv => lhs; rw [← List.take_append_drop k t, List.drop_eq_getElem_cons hl, h46]
    rw [decide_eq_true hl]
    conv => lhs; rw [e]
    rw [cut_byte h]
  · have ek : k = t.length := by omega
    subst ek
    rw [List.take_length] at h
    rw [decide_eq_false hl]
    unfold Lib.cut
    rw [index_no t h, if_neg (by decide)]
theorem numA_len {t : List UInt8} {m : Nat} (hm : m ≤ 4000000000000000000) (ht : t.length ≤ 1000) : (numA t m).length ≤ 5000 := by
  obtain ⟨c1, c2⟩ := cut_both t [46]
  have h1 := wholeA_len (P := wholeOf t) (n := m / 1000000) (by omega) (by unfold wholeOf; omega)
  have h2 : ∀ F P : List UInt8, (fracB F P).length ≤ P.length := fun F P => by
    unfold fracB
    have hA : (fracA F P).length ≤ P.length := by unfold fracA; rw [List.length_take]; omega
    have := trim_len ((fracA F P).drop (Lib.countByte P 48)) 48
    rw [List.length_append, List.length_take]
    rw [List.length_drop] at this
    omega
  have h3 := h2 (padTo (Lib.decDigits (m % 1000000)) 6) (fracOf t)
  have h4 : (fracOf t).length ≤ 1000 := by unfold fracOf; omega
  unfold numA
  split
  · rw [List.length_append, List.length_cons]; omega
  · omega
theorem sized_text {t S : List UInt8} {V : Int × Int} {M : Nat} (h : (if V.2 = 0 then numA t V.1.toNat else []) = S) (hz : V = ((M : Int), 0)) : S = numA t M := by
  subst hz
  rw [if_pos (show ((M : Int), (0 : Int)).2 = 0 from rfl)] at h
  exact h.symm
theorem sized_no {t S : List UInt8} {V : Int × Int} (h : (if V.2 = 0 then numA t V.1.toNat else []) = S) (hz : V = (0, 5)) : S = [] := by
  subst hz
  rw [if_neg (show ¬ ((0 : Int), (5 : Int)).2 = 0 by decide)] at h
  exact h.symm
theorem ret_sn {a b : ByteArray} {c d : Int} (h1 : a = b) (h2 : c = d) : Ending.returned (.tuple #[.string a, .int .i64 c]) = .returned (.tuple #[.string b, .int .i64 d]) := by rw [h1, h2]
set_option maxRecDepth 100000 in
set_option maxHeartbeats 8000000 in
theorem rnumber_any (t : List UInt8) (h : Nat) (n : Int) (w : World) (h0 : 0 ≤ n) (h1 : n ≤ 1000000000000000000) (hh : h ≤ 1000) (hs : t.length ≤ 1000) :
    Calls Tryz.prog 40 #[.int .i64 n, .string ⟨t.toArray⟩, .int .i64 h] w fun e w' => e = .returned (.tuple #[.string ⟨(if (sizedP t h n).2 = 0 then numA t (sizedP t h n).1.toNat else []).toArray⟩, .int .i64 (sizedP t h n).2]) ∧ Below w.heap.size w w' := by
  have sz := mk_size t
  have HM : Hid (∀ m : Int, 0 ≤ m → m ≤ 1000000000000000000 → ∀ W : World, Calls Tryz.prog 68 #[.int .i64 m, .int .i64 100000000] W fun e w' => e = .returned (.tuple #[.int .i64 (mulR m 100000000).1, .int .i64 (mulR m 100000000).2]) ∧ Below W.heap.size W w') := fun m m0 m1 W => rmul_good m 100000000 W (fitsB_of (by omega) m1) (by decide)
  obtain ⟨V, hV⟩ : ∃ V, (sizedP t h n) = V := ⟨_, rfl⟩
  rw [hV]
  obtain ⟨S, hS⟩ : ∃ S, (if V.2 = 0 then numA t V.1.toNat else []) = S := ⟨_, rfl⟩
  rw [hS]
  have HS := hide hS
  clear hS
  have HV : Hid (V = if (hundF h n).2 = 0 then (if (roundR (hundF h n).1 (min ((fracOf t).length : Int) 6)).2 = 0 then ((roundR (hundF h n).1 (min ((fracOf t).length : Int) 6)).1, 0) else (0, 5)) else (0, 5)) := hV.symm
  clear hV
  go_enter Tryz.func40, Tryz.ntmps40
  go_wp2
  go_loopw [0, 8] (fun nv iv wr => ∃ (k : Nat) (m : Int), k ≤ h ∧ iv = .int .i64 k ∧ nv = .int .i64 m ∧ Hid (hundF (h - k) m = hundF h n) ∧ Hid (0 ≤ m ∧ m ≤ 1000000000000000000) ∧ Hid (Below w.heap.size w wr)) (fun _ iv _ => h - (intOf iv).toNat)
  case atStart => exact ⟨0, n, by omega, rfl, rfl, rfl, ⟨h0, h1⟩, Below.refl _ _⟩
  case round =>
    obtain ⟨k, m, hk, rfl, rfl, HH, HF, HB⟩ := hrel
    by_cases hlt : k < h
    · obtain ⟨j, hj⟩ : ∃ j, h - k = j + 1 := ⟨h - k - 1, by omega⟩
      rw [hj] at HH
      have g1 : (k : Int) < (h : Int) := by omega
      have HMk := hide (HM.out m HF.out.1 HF.out.2)
      by_cases q : (mulR m 100000000).2 = 0
      · have HH2 := hide ((hund_yes q).symm.trans HH.out)
        have hj2 : h - (k + 1) = j := by omega
        have HJ := hide hj2
        have HF2 := hide (mul_fit HF.out.1 HF.out.2 q)
        have q2 : ((mulR m 100000000).2 == 0) = true := by rw [q]; rfl
        clear hj hj2 HH HV HM
        generalize mulR m 100000000 = mm at *
        obtain ⟨m1, m2⟩ := mm
        simp only at q
        subst q
        go_wp2_with (go_at_call 68; refine (HMk.out _).mono ?_; rintro e w1 ⟨rfl, hb1⟩; replace HB := hide (upW HB.out hb1); clear hb1)
        go_roundw
        case rel => exact ⟨k + 1, _, by omega, by go_num, rfl, by rw [HJ.out]; exact HH2.out, HF2, HB⟩
        case measure => simp [intOf] <;> omega
      · have HH2 := hide (HH.out.symm.trans (hund_no q))
        have q2 : ((mulR m 100000000).2 == 0) = false := by simpa using q
        have q3 : ((mulR m 100000000).2 != 0) = true := by simpa using q
        have HZ : Hid (V = (0, 5)) := HV.out.trans (by rw [if_neg]; rw [HH2.out]; decide)
        clear hj HH HM HV
        generalize (mulR m 100000000).2 = m2 at *
        generalize (mulR m 100000000).1 = m1 at *
        go_wp2_with (go_at_call 68; refine (HMk.out _).mono ?_; rintro e w1 ⟨rfl, hb1⟩; replace HB := hide (upW HB.out hb1); clear hb1)
        go_ret2
        have hS0 : S = [] := sized_no HS.out HZ.out
        rw [HZ.out, hS0]
        exact ⟨rfl, HB.out⟩
    · obtain rfl : k = h := by omega
      have g1 : ¬ (k : Int) < (k : Int) := by omega
      have HH2 : Hid (hundF k n = (m, 0)) := by
        have := HH.out
        rw [Nat.sub_self] at this
        exact this.symm
      have HV2 : Hid (V = if (roundR m (min ((fracOf t).length : Int) 6)).2 = 0 then ((roundR m (min ((fracOf t).length : Int) 6)).1, 0) else (0, 5)) := HV.out.trans (by rw [HH2.out]; rfl)
      clear HH hlt HV HM HH2
      go_wp2
      have HB5 := HB
      clear HB
      go_loopw [11] (fun pv wr => ∃ p : Nat, p ≤ t.length ∧ pv = .int .i64 p ∧ Hid (∀ c ∈ t.take p, c ≠ 46) ∧ Hid (Below w.heap.size w wr)) (fun pv _ => t.length - (intOf pv).toNat)
      case atStart => exact ⟨0, by omega, rfl, (by rw [List.take_zero]; exact (fun b hb => nomatch hb : ∀ b ∈ ([] : List UInt8), b ≠ 46)), HB5⟩
      case round =>
        obtain ⟨p, hp, rfl, HP, HB⟩ := hrel
        by_cases hlt : p < t.length
        · have g2 : (p : Int) < (t.length : Int) := by omega
          have hx : ∀ h, (⟨t.toArray⟩ : ByteArray)[p]'h = t[p] := fun h => rfl
          by_cases c1 : t[p] = 46
          · have b1 : ((t[p].toNat : Int) == 46) = true := by rw [c1]; rfl
            have b2 : (t[p].toNat : Int) = 46 := by rw [c1]; rfl
            have b3 : ((t[p].toNat : Int) != 46) = false := by rw [bne, b1]; rfl
            have hpt := place_at hp HP.out (fun c hc => by rw [List.getElem?_eq_getElem hlt] at hc; cases hc; exact c1)
            have hcut := cut_point hp HP.out (fun c hc => by rw [List.getElem?_eq_getElem hlt] at hc; cases hc; exact c1)
            rw [decide_eq_true hlt] at hcut
            have hwl : (wholeOf t).length ≤ 1000 := by rw [hpt.1, List.length_take]; omega
            have hfl : (fracOf t).length ≤ 1000 := by rw [hpt.2, List.length_drop]; omega
            have x1 : (⟨t.toArray⟩ : ByteArray).extract 0 p = ⟨(wholeOf t).toArray⟩ := by rw [hpt.1]; exact mk_take t p
            have x2 : (⟨t.toArray⟩ : ByteArray).extract (p + 1) t.length = ⟨(fracOf t).toArray⟩ := by rw [hpt.2]; exact mk_drop t (p + 1)
            have g3 : IntKind.i64.wrap ((p : Int) + 1) = (p : Int) + 1 := by rw [IntKind.wrap_i64]; omega
            have g4 : (0 : Int) ≤ (p : Int) + 1 := by omega
            have g5 : (p : Int) + 1 ≤ (t.length : Int) := by omega
            have g6 : ((p : Int) + 1).toNat = p + 1 := by omega
            have g7 : (p : Int) ≤ (t.length : Int) := by omega
            obtain ⟨m0, hm0⟩ := HF.out
            have hmin : min ((fracOf t).length : Int) 6 = ((min (fracOf t).length 6 : Nat) : Int) := by omega
            have hd6 : min (fracOf t).length 6 ≤ 6 := Nat.min_le_right _ _
            have szF := mk_size (fracOf t)
            rw [hmin] at HV2
            have HRd : Hid (∀ W : World, Calls Tryz.prog 69 #[.int .i64 m, .int .i64 ((min (fracOf t).length 6 : Nat) : Int)] W fun e w' => e = .returned (.tuple #[.int .i64 (roundR m ((min (fracOf t).length 6 : Nat) : Int)).1, .int .i64 (roundR m ((min (fracOf t).length 6 : Nat) : Int)).2]) ∧ Below W.heap.size W w') := fun W => rround_good m _ W (fitsB_of (by omega) hm0) (by omega) (by omega)
            generalize hD : min (fracOf t).length 6 = dd at *
            by_cases q : (roundR m (dd : Int)).2 = 0
            · have HZ : Hid (V = ((roundR m (dd : Int)).1, 0)) := HV2.out.trans (by rw [if_pos q])
              obtain ⟨r0, r1, _⟩ := round_nn m0 q
              have q2 : ((roundR m (dd : Int)).2 == 0) = true := by rw [q]; rfl
              generalize roundR m (dd : Int) = rr at *
              obtain ⟨rm, re⟩ := rr
              simp only at q r0 r1 HZ
              subst q
              obtain ⟨M, rfl⟩ := Int.eq_ofNat_of_zero_le r0
              have hdiv : Int.tdiv (M : Int) 1000000 = ((M / 1000000 : Nat) : Int) := by rw [Int.tdiv_eq_ediv_of_nonneg (by omega)]; omega
              have HW : Hid (∀ W : World, Calls Tryz.prog 70 #[.int .i64 ((M / 1000000 : Nat) : Int), .string ⟨(wholeOf t).toArray⟩] W fun e w' => e = .returned (.string ⟨(wholeA (wholeOf t) (M / 1000000)).toArray⟩) ∧ Below W.heap.size W w') := fun W => rwhole_any _ _ W (by omega) hwl
              have hw1 : IntKind.i64.wrap ((M / 1000000 : Nat) : Int) = ((M / 1000000 : Nat) : Int) := by rw [IntKind.wrap_i64]; omega
              have hWl := wholeA_len (P := wholeOf t) (n := M / 1000000) (by omega) hwl
              have hmod : Int.tmod (M : Int) 1000000 = ((M % 1000000 : Nat) : Int) := by rw [Int.tmod_eq_emod_of_nonneg (by omega)]; omega
              have hml : M % 1000000 < 1000000 := Nat.mod_lt _ (by decide)
              have hst := six_tail hml
              have h6 := six12_len hml
              have HG : Hid (∀ W : World, Calls Tryz.prog 67 #[.int .i64 (1000000 + ((M % 1000000 : Nat) : Int))] W fun e w' => e = .returned (.string ⟨(Lib.decDigits (1000000 + M % 1000000)).toArray⟩) ∧ Below W.heap.size W w') := fun W => by have := rdigits_any (1000000 + ((M % 1000000 : Nat) : Int)) W (by omega) (by omega); rwa [show (1000000 + ((M % 1000000 : Nat) : Int)).toNat = 1000000 + M % 1000000 by omega] at this
              have hw2 : IntKind.i64.wrap (1000000 + ((M % 1000000 : Nat) : Int)) = 1000000 + ((M % 1000000 : Nat) : Int) := by rw [IntKind.wrap_i64]; omega
              have HX : Hid (numA t M = wholeA (wholeOf t) (M / 1000000) ++ 46 :: fracB (padTo (Lib.decDigits (M % 1000000)) 6) (fracOf t)) := by show _ = _; unfold numA; rw [hcut]; rfl
              have x3 := mk_drop (Lib.decDigits (1000000 + M % 1000000)) 1
              have szG := mk_size (Lib.decDigits (1000000 + M % 1000000))
              have hGl := seven (u := 1000000 + M % 1000000) (by omega) (by omega)
              rw [hst, hGl] at x3
              have HFr : Hid (∀ W : World, Calls Tryz.prog 71 #[.string ⟨(padTo (Lib.decDigits (M % 1000000)) 6).toArray⟩, .string ⟨(fracOf t).toArray⟩] W fun e w' => e = .returned (.string ⟨(fracB (padTo (Lib.decDigits (M % 1000000)) 6) (fracOf t)).toArray⟩) ∧ Below W.heap.size W w') := fun W => rfraction_any _ _ W (by omega) hfl
              have hFl : (fracB (padTo (Lib.decDigits (M % 1000000)) 6) (fracOf t)).length ≤ 1000 := by
                have hA : (fracA (padTo (Lib.decDigits (M % 1000000)) 6) (fracOf t)).length ≤ (fracOf t).length := by unfold fracA; rw [List.length_take]; omega
                unfold fracB
                have := trim_len ((fracA (padTo (Lib.decDigits (M % 1000000)) 6) (fracOf t)).drop (Lib.countByte (fracOf t) 48)) 48
                rw [List.length_append, List.length_take]
                rw [List.length_drop] at this
                omega
              have HE : Hid ((⟨(wholeA (wholeOf t) (M / 1000000)).toArray⟩ : ByteArray) ++ ⟨#[46]⟩ ++ ⟨(fracB (padTo (Lib.decDigits (M % 1000000)) 6) (fracOf t)).toArray⟩ = ⟨(wholeA (wholeOf t) (M / 1000000) ++ 46 :: fracB (padTo (Lib.decDigits (M % 1000000)) 6) (fracOf t)).toArray⟩) := by show _ = _; rw [show (⟨#[46]⟩ : ByteArray) = ⟨[46].toArray⟩ from rfl, ba_app, ba_app]; simp
              clear HP hpt hcut hst h6 HV2 hD r0 HF
              generalize fracB (padTo (Lib.decDigits (M % 1000000)) 6) (fracOf t) = fb at *
              generalize padTo (Lib.decDigits (M % 1000000)) 6 = pd at *
              generalize Lib.decDigits (1000000 + M % 1000000) = dg at *
              have szW := mk_size (wholeA (wholeOf t) (M / 1000000))
              have szf := mk_size fb
              generalize wholeA (wholeOf t) (M / 1000000) = wa at *
              generalize wholeOf t = wt at *
              generalize fracOf t = ft at *
              generalize hKW : M / 1000000 = qw at *
              generalize hKM : M % 1000000 = qm at *
              have n1 : (9223372036854775807 < wa.length + 1) = False := eq_false (by omega)
              have n2 : (9223372036854775807 < wa.length + 1 + fb.length) = False := eq_false (by omega)
              go_wp2_with (first | (go_at_call 69; refine (HRd.out _).mono ?_; rintro e w1 ⟨rfl, hb1⟩; replace HB := hide (upW HB.out hb1); clear hb1) | (go_at_call 70; refine (HW.out _).mono ?_; rintro e w2 ⟨rfl, hb1⟩; replace HB := hide (upW HB.out hb1); clear hb1) | (go_at_call 67; refine (HG.out _).mono ?_; rintro e w3 ⟨rfl, hb1⟩; replace HB := hide (upW HB.out hb1); clear hb1) | (go_at_call 71; refine (HFr.out _).mono ?_; rintro e w4 ⟨rfl, hb1⟩; replace HB := hide (upW HB.out hb1); clear hb1))
              go_ret2
              have hS0 : S = numA t M := sized_text HS.out HZ.out
              rw [HZ.out, hS0]
              refine ⟨ret_sn ?_ rfl, HB.out⟩
              rw [HX.out, ← HE.out]
            · have HZ : Hid (V = (0, 5)) := HV2.out.trans (by rw [if_neg q])
              have q2 : ((roundR m (dd : Int)).2 == 0) = false := by simpa using q
              have q3 : ((roundR m (dd : Int)).2 != 0) = true := by simpa using q
              clear HP hpt hcut HV2 hD
              generalize fracOf t = ft at *
              generalize (roundR m (dd : Int)).2 = re at *
              generalize (roundR m (dd : Int)).1 = rm at *
              go_wp2_with (go_at_call 69; refine (HRd.out _).mono ?_; rintro e w1 ⟨rfl, hb1⟩; replace HB := hide (upW HB.out hb1); clear hb1)
              go_ret2
              have hS0 : S = [] := sized_no HS.out HZ.out
              rw [HZ.out, hS0]
              exact ⟨rfl, HB.out⟩
          · have b1 : ((t[p].toNat : Int) == 46) = false := by
              rw [beq_eq_false_iff_ne]; intro e; exact c1 (UInt8.toNat_inj.1 (by show t[p].toNat = 46; omega))
            have b2 : ¬ (t[p].toNat : Int) = 46 := by intro e; exact c1 (UInt8.toNat_inj.1 (by show t[p].toNat = 46; omega))
            have b3 : ((t[p].toNat : Int) != 46) = true := by rw [bne, b1]; rfl
            have HQ2 : Hid (∀ d ∈ t.take (p + 1), d ≠ 46) := by
              intro d hd
              rw [List.take_succ_eq_append_getElem hlt] at hd
              rcases List.mem_append.1 hd with hd | hd
              · exact HP.out d hd
              · simp at hd; subst hd; exact c1
            clear HP c1 HV2
            go_wp2
            go_roundw
            case rel => exact ⟨p + 1, hlt, by go_num, HQ2, HB⟩
            case measure => simp [intOf] <;> omega
        · have hep : p = t.length := by omega
          subst hep
          have hno : ∀ c, t[t.length]? = some c → c = 46 := fun c hc => by rw [List.getElem?_eq_none (by omega)] at hc; cases hc
          have hpt := place_at hp HP.out hno
          have hcut := cut_point hp HP.out hno
          rw [decide_eq_false hlt] at hcut
          have hwl : (wholeOf t).length ≤ 1000 := by rw [hpt.1, List.length_take]; omega
          have x1 : (⟨t.toArray⟩ : ByteArray).extract 0 t.length = ⟨(wholeOf t).toArray⟩ := by rw [hpt.1]; exact mk_take t t.length
          have hf0 : fracOf t = [] := by rw [hpt.2, List.drop_eq_nil_of_le (by omega)]
          have g7 : (t.length : Int) ≤ (t.length : Int) := by omega
          obtain ⟨m0, hm0⟩ := HF.out
          have hmin : min ((fracOf t).length : Int) 6 = (0 : Int) := by rw [hf0]; rfl
          rw [hmin] at HV2
          have HRd : Hid (∀ W : World, Calls Tryz.prog 69 #[.int .i64 m, .int .i64 (0 : Int)] W fun e w' => e = .returned (.tuple #[.int .i64 (roundR m (0 : Int)).1, .int .i64 (roundR m (0 : Int)).2]) ∧ Below W.heap.size W w') := fun W => rround_good m _ W (fitsB_of (by omega) hm0) (by omega) (by omega)
          have hm6 : (min 0 6 : Int) = 0 := by decide
          have HRd2 : Hid (∀ W : World, Calls Tryz.prog 69 #[.int .i64 m, .int .i64 (min 0 6 : Int)] W fun e w' => e = .returned (.tuple #[.int .i64 (roundR m 0).1, .int .i64 (roundR m 0).2]) ∧ Below W.heap.size W w') := by rw [hm6]; exact HRd
          clear HRd hm6
          by_cases q : (roundR m (0 : Int)).2 = 0
          · have HZ : Hid (V = ((roundR m (0 : Int)).1, 0)) := HV2.out.trans (by rw [if_pos q])
            obtain ⟨r0, r1, _⟩ := round_nn m0 q
            have q2 : ((roundR m (0 : Int)).2 == 0) = true := by rw [q]; rfl
            generalize roundR m (0 : Int) = rr at *
            obtain ⟨rm, re⟩ := rr
            simp only at q r0 r1 HZ
            subst q
            obtain ⟨M, rfl⟩ := Int.eq_ofNat_of_zero_le r0
            have hdiv : Int.tdiv (M : Int) 1000000 = ((M / 1000000 : Nat) : Int) := by rw [Int.tdiv_eq_ediv_of_nonneg (by omega)]; omega
            have HW : Hid (∀ W : World, Calls Tryz.prog 70 #[.int .i64 ((M / 1000000 : Nat) : Int), .string ⟨(wholeOf t).toArray⟩] W fun e w' => e = .returned (.string ⟨(wholeA (wholeOf t) (M / 1000000)).toArray⟩) ∧ Below W.heap.size W w') := fun W => rwhole_any _ _ W (by omega) hwl
            have hw1 : IntKind.i64.wrap ((M / 1000000 : Nat) : Int) = ((M / 1000000 : Nat) : Int) := by rw [IntKind.wrap_i64]; omega
            have hWl := wholeA_len (P := wholeOf t) (n := M / 1000000) (by omega) hwl
            have HX : Hid (numA t M = wholeA (wholeOf t) (M / 1000000)) := by show _ = _; unfold numA; rw [hcut]; rfl
            clear HP hpt hcut HV2 hmin r0 HF hf0 hno
            generalize wholeA (wholeOf t) (M / 1000000) = wa at *
            generalize wholeOf t = wt at *
            generalize hKW : M / 1000000 = qw at *
            go_wp2_with (first | (go_at_call 69; refine (HRd2.out _).mono ?_; rintro e w1 ⟨rfl, hb1⟩; replace HB := hide (upW HB.out hb1); clear hb1) | (go_at_call 70; refine (HW.out _).mono ?_; rintro e w2 ⟨rfl, hb1⟩; replace HB := hide (upW HB.out hb1); clear hb1))
            go_ret2
            have hS0 : S = numA t M := sized_text HS.out HZ.out
            rw [HZ.out, hS0]
            refine ⟨ret_sn ?_ rfl, HB.out⟩
            rw [HX.out]
          · have HZ : Hid (V = (0, 5)) := HV2.out.trans (by rw [if_neg q])
            have q2 : ((roundR m (0 : Int)).2 == 0) = false := by simpa using q
            have q3 : ((roundR m (0 : Int)).2 != 0) = true := by simpa using q
            clear HP hpt hcut HV2 hmin hf0 hno
            generalize (roundR m (0 : Int)).2 = re at *
            generalize (roundR m (0 : Int)).1 = rm at *
            go_wp2_with (go_at_call 69; refine (HRd2.out _).mono ?_; rintro e w1 ⟨rfl, hb1⟩; replace HB := hide (upW HB.out hb1); clear hb1)
            go_ret2
            have hS0 : S = [] := sized_no HS.out HZ.out
            rw [HZ.out, hS0]
            exact ⟨rfl, HB.out⟩
end Go.Proofs.YtnhaapcpklfkpaaGreatDoor
namespace Go.Proofs.YtnhaapcpklfkpaaGreatDoor
open Go.RowKit
set_option linter.unusedSimpArgs false

theorem fOk_count : ∀ (l : List UInt8) (z : Bool), fOk z l = true → Lib.countByte l 48 + Lib.countByte l 35 = l.length
  | [], _, _ => rfl
  | c :: r, z, h => by
    rw [fOk] at h
    have e : ∀ x : UInt8, Lib.countByte (c :: r) x = Lib.countByte r x + if c = x then 1 else 0 := fun x => by
      unfold Lib.countByte; rw [List.count_cons]; simp
    rw [e, e, List.length_cons]
    by_cases c1 : c = 48
    · subst c1
      simp at h
      have := fOk_count r _ h.2
      simp; omega
    · by_cases c2 : c = 35
      · subst c2
        simp at h
        have := fOk_count r _ h
        simp; omega
      · simp [c1, c2] at h
theorem split_count : ∀ (n : Nat) (s : List UInt8), s.length ≤ n → (Lib.split s [44]).length = Lib.countByte s 44 + 1
  | 0, s, h => by
    have : s = [] := List.eq_nil_of_length_eq_zero (by omega)
    subst this
    rw [split_no (by intro c hc; cases hc)]; rfl
  | n + 1, s, h => by
    rcases first_comma s with h1 | ⟨W, F, rfl, hW, hF⟩
    · rw [split_no h1]
      have : Lib.countByte s 44 = 0 := List.count_eq_zero.2 fun q => h1 44 q rfl
      rw [this]; rfl
    · rw [split_app F hW, List.length_cons, split_count n F (by omega)]
      have h0 : Lib.countByte W 44 = 0 := List.count_eq_zero.2 fun q => hW 44 q rfl
      unfold Lib.countByte at *
      rw [List.count_append, List.count_cons, h0]
      simp
theorem place_free {t : List UInt8} (h : placeB t = true) : (placeR t).fixed + (placeR t).free = (fracOf t).length := by
  unfold placeB at h
  rw [Bool.and_eq_true] at h
  have h2 := h.2
  rw [← frac_false] at h2
  exact fOk_count _ _ h2
theorem place_comma (t : List UInt8) : (placeR t).comma = decide (¬ Lib.countByte (wholeOf t) 44 = 0) := by
  have := split_count _ (wholeOf t) (Nat.le_refl _)
  show decide (1 < (groupsOf t).length) = _
  unfold groupsOf
  rw [this]
  by_cases c : Lib.countByte (wholeOf t) 44 = 0
  · rw [c]; rfl
  · rw [decide_eq_true c, decide_eq_true (by omega)]
theorem whole_is (t : List UInt8) (n : Nat) : wholeA (wholeOf t) n = wholeT (placeR t) n := by
  unfold wholeA wholeB wholeT
  rw [place_comma]
  have hn : (placeR t).noughts = Lib.countByte (wholeOf t) 48 := rfl
  rw [hn]
  by_cases c : Lib.countByte (wholeOf t) 44 = 0
  · rw [if_pos c, decide_eq_false (by simp [c]), if_neg (by decide)]
  · rw [if_neg c, decide_eq_true c, if_pos rfl]
theorem p10_split {k : Nat} (h : k ≤ 6) : p10 k ∣ 1000000 := by
  have : k = 0 ∨ k = 1 ∨ k = 2 ∨ k = 3 ∨ k = 4 ∨ k = 5 ∨ k = 6 := by omega
  rcases this with rfl | rfl | rfl | rfl | rfl | rfl | rfl <;> decide
theorem num_is {t : List UInt8} {m : Nat} (hz : (m : Int) % p10 (6 - min ((fracOf t).length : Int) 6).toNat = 0) : numA t m = numT (placeR t) m := by
  unfold numA numT
  have hp : (placeR t).point = (Lib.cut t [46]).2.2 := rfl
  rw [hp, whole_is]
  have hk : (6 - min ((fracOf t).length : Int) 6).toNat = 6 - (fracOf t).length := by omega
  rw [hk] at hz
  have hd := p10_split (k := 6 - (fracOf t).length) (by omega)
  rw [frac_is (p := placeR t) rfl (Nat.mod_lt _ (by decide)) (by
    rw [Int.natCast_emod]
    show ((m : Int) % 1000000) % _ = 0
    rw [Int.emod_emod_of_dvd _ hd]
    exact hz)]
theorem sized_is {ps : List Pc} {t : List UInt8} {h : Nat} (n : Int) (hb : placeB t = true) (hp : plcOf ps = placeR t) (hh : cntK ps 2 = h) : sizedP t h n = sizedR ps n := by
  unfold sizedP sizedR decsI
  rw [hh, hp]
  have := place_free hb
  rw [this]
theorem sized_mod {t : List UInt8} {h : Nat} {n : Int} {m : Nat} (h0 : 0 ≤ (hundF h n).1) (hs : sizedP t h n = ((m : Int), 0)) : (m : Int) % p10 (6 - min ((fracOf t).length : Int) 6).toNat = 0 := by
  unfold sizedP at hs
  split at hs
  · split at hs
    · rename_i q
      have := (round_nn h0 q).2.2
      have e := congrArg Prod.fst hs
      simp only at e
      rw [e] at this
      exact this
    · cases hs
  · cases hs
theorem hund_nn : ∀ (h : Nat) {n : Int}, 0 ≤ n → n ≤ 1000000000000000000 → 0 ≤ (hundF h n).1 ∧ (hundF h n).1 ≤ 1000000000000000000
  | 0, n, h0, h1 => ⟨h0, h1⟩
  | h + 1, n, h0, h1 => by
    by_cases q : (mulR n 100000000).2 = 0
    · rw [hund_yes q]
      obtain ⟨a, b⟩ := mul_fit h0 h1 q
      exact hund_nn h a b
    · rw [hund_no q]; decide
end Go.Proofs.YtnhaapcpklfkpaaGreatDoor
namespace Go.Proofs.YtnhaapcpklfkpaaGreatDoor
open Go.RowKit
set_option linter.unusedSimpArgs false

theorem part_cases {t : List UInt8} (h : partB t = true) : t = [121, 121, 121, 121] ∨ t = [121, 121] ∨ t = [109, 109] ∨ t = [109] ∨ t = [100, 100] ∨ t = [100] := by
  unfold partB at h
  simp at h
  rcases h with ((((h | h) | h) | h) | h) | h <;> simp [h]
set_option maxRecDepth 100000 in
set_option maxHeartbeats 4000000 in
theorem rday_any (t : List UInt8) (y k d : Nat) (n : Int) (w : World) (ht : partB t = true) (hd : Dat.DayIs y k d n) :
    Calls Tryz.prog 41 #[.int .i64 n, .string ⟨t.toArray⟩] w fun e w' => e = .returned (.string ⟨(dayT t y (k + 1) d).toArray⟩) ∧ Below w.heap.size w w' := by
  have hy := hd.y2
  have hk := hd.k1
  have hd2 : d ≤ 31 := by have h1 := hd.d2; have h2 := lenM_le y (k + 1); omega
  have hyn : y ≤ 9999 := by omega
  have HD : Hid (∀ W : World, Calls Tryz.prog 72 #[.int .i64 n] W fun e w' => e = .returned (.tuple #[.int .i64 y, .int .i64 ((k : Int) + 1), .int .i64 d, .int .i64 0]) ∧ Below W.heap.size W w') := fun W => Dat.rparts_yes y k d n W hd
  have HB := hide (Below.refl w.heap.size w)
  clear hd hy
  rcases part_cases ht with rfl | rfl | rfl | rfl | rfl | rfl
  · have HP : Hid (∀ W : World, Calls Tryz.prog 73 #[.int .i64 (y : Nat), .int .i64 4] W fun e w' => e = .returned (.string ⟨(dayT [121, 121, 121, 121] y (k + 1) d).toArray⟩) ∧ Below W.heap.size W w') := fun W => rpadded12_any (y) 4 W (by omega) (by omega)
    generalize dayT [121, 121, 121, 121] y (k + 1) d = R at *
    go_enter Tryz.func41, Tryz.ntmps41
    go_wp2_with (first | (go_at_call 72; refine (HD.out _).mono ?_; rintro e w1 ⟨rfl, hb1⟩; replace HB := hide (upW HB.out hb1); clear hb1) | (go_at_call 73; refine (HP.out _).mono ?_; rintro e w2 ⟨rfl, hb1⟩; replace HB := hide (upW HB.out hb1); clear hb1))
    go_ret
    exact ⟨rfl, HB.out⟩
  · have HP : Hid (∀ W : World, Calls Tryz.prog 73 #[.int .i64 (y % 100 : Nat), .int .i64 2] W fun e w' => e = .returned (.string ⟨(dayT [121, 121] y (k + 1) d).toArray⟩) ∧ Below W.heap.size W w') := fun W => rpadded12_any (y % 100) 2 W (by omega) (by omega)
    generalize dayT [121, 121] y (k + 1) d = R at *
    have hm : Int.tmod (y : Int) 100 = ((y % 100 : Nat) : Int) := by rw [Int.tmod_eq_emod_of_nonneg (by omega)]; omega
    have hw : IntKind.i64.wrap ((y % 100 : Nat) : Int) = ((y % 100 : Nat) : Int) := by rw [IntKind.wrap_i64]; omega
    generalize hq : y % 100 = q at *
    go_enter Tryz.func41, Tryz.ntmps41
    go_wp2_with (first | (go_at_call 72; refine (HD.out _).mono ?_; rintro e w1 ⟨rfl, hb1⟩; replace HB := hide (upW HB.out hb1); clear hb1) | (go_at_call 73; refine (HP.out _).mono ?_; rintro e w2 ⟨rfl, hb1⟩; replace HB := hide (upW HB.out hb1); clear hb1))
    go_ret
    exact ⟨rfl, HB.out⟩
  · have HP : Hid (∀ W : World, Calls Tryz.prog 73 #[.int .i64 (k + 1 : Nat), .int .i64 2] W fun e w' => e = .returned (.string ⟨(dayT [109, 109] y (k + 1) d).toArray⟩) ∧ Below W.heap.size W w') := fun W => rpadded12_any (k + 1) 2 W (by omega) (by omega)
    generalize dayT [109, 109] y (k + 1) d = R at *
    have hk1 : ((k + 1 : Nat) : Int) = (k : Int) + 1 := by omega
    rw [hk1] at HP
    go_enter Tryz.func41, Tryz.ntmps41
    go_wp2_with (first | (go_at_call 72; refine (HD.out _).mono ?_; rintro e w1 ⟨rfl, hb1⟩; replace HB := hide (upW HB.out hb1); clear hb1) | (go_at_call 73; refine (HP.out _).mono ?_; rintro e w2 ⟨rfl, hb1⟩; replace HB := hide (upW HB.out hb1); clear hb1))
    go_ret
    exact ⟨rfl, HB.out⟩
  · have HP : Hid (∀ W : World, Calls Tryz.prog 73 #[.int .i64 (k + 1 : Nat), .int .i64 1] W fun e w' => e = .returned (.string ⟨(dayT [109] y (k + 1) d).toArray⟩) ∧ Below W.heap.size W w') := fun W => rpadded12_any (k + 1) 1 W (by omega) (by omega)
    generalize dayT [109] y (k + 1) d = R at *
    have hk1 : ((k + 1 : Nat) : Int) = (k : Int) + 1 := by omega
    rw [hk1] at HP
    go_enter Tryz.func41, Tryz.ntmps41
    go_wp2_with (first | (go_at_call 72; refine (HD.out _).mono ?_; rintro e w1 ⟨rfl, hb1⟩; replace HB := hide (upW HB.out hb1); clear hb1) | (go_at_call 73; refine (HP.out _).mono ?_; rintro e w2 ⟨rfl, hb1⟩; replace HB := hide (upW HB.out hb1); clear hb1))
    go_ret
    exact ⟨rfl, HB.out⟩
  · have HP : Hid (∀ W : World, Calls Tryz.prog 73 #[.int .i64 (d : Nat), .int .i64 2] W fun e w' => e = .returned (.string ⟨(dayT [100, 100] y (k + 1) d).toArray⟩) ∧ Below W.heap.size W w') := fun W => rpadded12_any (d) 2 W (by omega) (by omega)
    generalize dayT [100, 100] y (k + 1) d = R at *
    go_enter Tryz.func41, Tryz.ntmps41
    go_wp2_with (first | (go_at_call 72; refine (HD.out _).mono ?_; rintro e w1 ⟨rfl, hb1⟩; replace HB := hide (upW HB.out hb1); clear hb1) | (go_at_call 73; refine (HP.out _).mono ?_; rintro e w2 ⟨rfl, hb1⟩; replace HB := hide (upW HB.out hb1); clear hb1))
    go_ret
    exact ⟨rfl, HB.out⟩
  · have HP : Hid (∀ W : World, Calls Tryz.prog 73 #[.int .i64 (d : Nat), .int .i64 1] W fun e w' => e = .returned (.string ⟨(dayT [100] y (k + 1) d).toArray⟩) ∧ Below W.heap.size W w') := fun W => rpadded12_any (d) 1 W (by omega) (by omega)
    generalize dayT [100] y (k + 1) d = R at *
    go_enter Tryz.func41, Tryz.ntmps41
    go_wp2_with (first | (go_at_call 72; refine (HD.out _).mono ?_; rintro e w1 ⟨rfl, hb1⟩; replace HB := hide (upW HB.out hb1); clear hb1) | (go_at_call 73; refine (HP.out _).mono ?_; rintro e w2 ⟨rfl, hb1⟩; replace HB := hide (upW HB.out hb1); clear hb1))
    go_ret
    exact ⟨rfl, HB.out⟩
end Go.Proofs.YtnhaapcpklfkpaaGreatDoor
namespace Go.Proofs.YtnhaapcpklfkpaaGreatDoor
open Go.RowKit
set_option linter.unusedSimpArgs false

/-- What the answer makes of a piece; of a section. -/
def pA (nt : Pc → List UInt8 × Int) (dt : Pc → List UInt8) (x : List UInt8) (q : Pc) : List UInt8 × Int := if q.k = 1 then nt q else if q.k = 3 then (dt q, 0) else if q.k = 4 then (x, 0) else (q.t, 0)
def wrA (nt : Pc → List UInt8 × Int) (dt : Pc → List UInt8) (x : List UInt8) : List UInt8 → List Pc → List UInt8 × Int
  | s, [] => (s, 0)
  | s, q :: r => if (pA nt dt x q).2 = 0 then wrA nt dt x (s ++ (pA nt dt x q).1) r else ([], (pA nt dt x q).2)
theorem wrA_yes {nt : Pc → List UInt8 × Int} {dt : Pc → List UInt8} {x s T : List UInt8} {ps : List Pc} {i : Nat} {R : List UInt8 × Int} (hi : i < ps.length) (h : wrA nt dt x s (ps.drop i) = R) (hq : pA nt dt x ps[i] = (T, 0)) : wrA nt dt x (s ++ T) (ps.drop (i + 1)) = R := by
  rw [List.drop_eq_getElem_cons hi, wrA, hq] at h
  exact h
theorem wrA_no {nt : Pc → List UInt8 × Int} {dt : Pc → List UInt8} {x s T : List UInt8} {ps : List Pc} {i : Nat} {R : List UInt8 × Int} {c : Int} (hi : i < ps.length) (h : wrA nt dt x s (ps.drop i) = R) (hq : pA nt dt x ps[i] = (T, c)) (hc : ¬ c = 0) : R = ([], c) := by
  rw [List.drop_eq_getElem_cons hi, wrA, hq] at h
  rw [if_neg hc] at h
  exact h.symm
theorem wrA_end {nt : Pc → List UInt8 × Int} {dt : Pc → List UInt8} {x s : List UInt8} {ps : List Pc} {R : List UInt8 × Int} (h : wrA nt dt x s (ps.drop ps.length) = R) : R = (s, 0) := by
  rw [List.drop_length] at h
  exact h.symm
theorem kk_hundred {k : Nat} (h : k ≤ 4) : ((kk k : Nat) : Int) = 4 ↔ k = 2 := by
  have : k = 0 ∨ k = 1 ∨ k = 2 ∨ k = 3 ∨ k = 4 := by omega
  rcases this with rfl | rfl | rfl | rfl | rfl <;> decide
theorem cnt_take_snoc {ps : List Pc} {i : Nat} (hi : i < ps.length) (k : Nat) : cntK (ps.take (i + 1)) k = cntK (ps.take i) k + if ps[i].k = k then 1 else 0 := by
  rw [List.take_succ_eq_append_getElem hi, rcnt_snoc]
set_option maxRecDepth 100000 in
set_option maxHeartbeats 8000000 in
theorem rwrite_any (u : Value) (ps : List Pc) (n serial : Int) (x : List UInt8) (nt : Pc → List UInt8 × Int) (dt : Pc → List UInt8) (w : World) (hp : PcsAt w u (ps.map kkP)) (hk : ∀ q ∈ ps, q.k ≤ 4) (hl : ps.length ≤ 60) (ht : ∀ q ∈ ps, q.t.length ≤ 60) (hx : x.length ≤ 5000)
    (hn : ∀ q ∈ ps, q.k = 1 → (nt q).1.length ≤ 5000 ∧ ∀ W : World, Calls Tryz.prog 40 #[.int .i64 n, .string ⟨q.t.toArray⟩, .int .i64 (cntK ps 2)] W fun e w' => e = .returned (.tuple #[.string ⟨(nt q).1.toArray⟩, .int .i64 (nt q).2]) ∧ Below W.heap.size W w')
    (hd : ∀ q ∈ ps, q.k = 3 → (dt q).length ≤ 5000 ∧ ∀ W : World, Calls Tryz.prog 41 #[.int .i64 serial, .string ⟨q.t.toArray⟩] W fun e w' => e = .returned (.string ⟨(dt q).toArray⟩) ∧ Below W.heap.size W w') :
    Calls Tryz.prog 15 #[u, .int .i64 n, .int .i64 serial, .string ⟨x.toArray⟩] w fun e w' => e = .returned (.tuple #[.string ⟨(wrA nt dt x [] ps).1.toArray⟩, .int .i64 (wrA nt dt x [] ps).2]) ∧ Below w.heap.size w w' := by
  obtain ⟨p, cap, rfl, hp⟩ := hp
  rw [List.length_map]
  obtain ⟨R, hR⟩ : ∃ R, wrA nt dt x [] ps = R := ⟨_, rfl⟩
  rw [hR]
  have HR := hide hR
  have HP := hide hp
  have HK := hide hk
  have HT := hide ht
  have HN := hide hn
  have HD := hide hd
  have szx := mk_size x
  clear hR hp hk ht hn hd
  have hli : (ps.length : Int) ≤ 60 := by omega
  have HB0 := hide (Below.refl w.heap.size w)
  go_enter Tryz.func15, Tryz.ntmps15
  go_wp2
  go_loopw [10, 11] (fun cv iv wr => ∃ i c : Nat, i ≤ ps.length ∧ c ≤ i ∧ iv = .int .i64 i ∧ cv = .int .i64 c ∧ Hid (c = cntK (ps.take i) 2) ∧ Hid (Below w.heap.size w wr)) (fun _ iv _ => ps.length - (intOf iv).toNat)
  case atStart => exact ⟨0, 0, Nat.zero_le _, Nat.le_refl _, rfl, rfl, by rw [List.take_zero]; exact (rfl : 0 = cntK [] 2), HB0⟩
  case round =>
    obtain ⟨i, c, hi, hc, rfl, rfl, HC, HB⟩ := hrel
    by_cases hlt : i < ps.length
    · have gi : (i : Int) < (ps.length : Int) := by omega
      obtain ⟨gp, rfl, hgp, hcs⟩ := HP.out.resolve_left (by intro e; have := congrArg List.length e; simp at this; subst this; simp at hlt)
      have hq : (ps.map kkP)[i]? = some (kkP ps[i]) := by rw [List.getElem?_map, List.getElem?_eq_getElem hlt]; rfl
      have hcell := (HB.out.cell (p := ⟨gp, i * 2, none⟩) hgp).trans (hcs i _ hq).1
      have hkk := kk_hundred (HK.out _ (List.getElem_mem hlt))
      have hst := cnt_take_snoc hlt 2
      clear hcs hq HR HK HP HN HD HT
      have hcell' : wr.cell? ⟨gp, i * 2, none⟩ = some (.int .i64 ((kk ps[i].k : Nat) : Int)) := hcell
      clear hcell
      generalize ps[i].k = K at *
      by_cases h2 : K = 2
      · rw [if_pos h2] at hst
        have h4 := hkk.2 h2
        have HC2 : Hid (c + 1 = cntK (ps.take (i + 1)) 2) := by show _ = _; rw [hst, HC.out]
        clear HC hst hkk h2
        rw [h4] at hcell'
        clear h4
        go_wp2
        go_roundw
        case rel => exact ⟨i + 1, c + 1, hlt, by omega, by go_num, by go_num, HC2, HB⟩
        case measure => simp [intOf] <;> omega
      · rw [if_neg h2] at hst
        have h4 : ¬ ((kk K : Nat) : Int) = 4 := fun e => h2 (hkk.1 e)
        have h5 : (((kk K : Nat) : Int) == 4) = false := by rw [beq_eq_false_iff_ne]; exact h4
        have HC2 : Hid (c = cntK (ps.take (i + 1)) 2) := by show _ = _; rw [hst, HC.out]; rfl
        clear HC hst hkk h2
        generalize ((kk K : Nat) : Int) = KK at *
        go_wp2
        go_roundw
        case rel => exact ⟨i + 1, c, hlt, by omega, by go_num, rfl, HC2, HB⟩
        case measure => simp [intOf] <;> omega
    · have gi : ¬ (i : Int) < (ps.length : Int) := by omega
      have hcc : c = cntK ps 2 := by have := HC.out; rwa [List.take_of_length_le (by omega)] at this
      rw [← hcc] at HN
      clear HC hcc
      go_wp2
      have HB5 := HB
      clear HB
      go_loopw [12, 13] (fun sv iv wr => ∃ (j : Nat) (s : List UInt8), j ≤ ps.length ∧ s.length ≤ 5000 * j ∧ iv = .int .i64 j ∧ sv = .string ⟨s.toArray⟩ ∧ Hid (wrA nt dt x s (ps.drop j) = R) ∧ Hid (Below w.heap.size w wr)) (fun _ iv _ => ps.length - (intOf iv).toNat)
      case atStart => exact ⟨0, [], Nat.zero_le _, by simp, rfl, rfl, HR, HB5⟩
      case round =>
        obtain ⟨j, s, hj, hs, rfl, rfl, HQ, HB⟩ := hrel
        have szs := mk_size s
        by_cases hlt2 : j < ps.length
        · have gj : (j : Int) < (ps.length : Int) := by omega
          obtain ⟨gp, rfl, hgp, hcs⟩ := HP.out.resolve_left (by intro e; have := congrArg List.length e; simp at this; subst this; simp at hlt2)
          have hq : (ps.map kkP)[j]? = some (kkP ps[j]) := by rw [List.getElem?_map, List.getElem?_eq_getElem hlt2]; rfl
          have hcell : wr.cell? ⟨gp, j * 2, none⟩ = some (.int .i64 ((kk ps[j].k : Nat) : Int)) := (HB.out.cell (p := ⟨gp, j * 2, none⟩) hgp).trans (hcs j _ hq).1
          have hcell2 : wr.cell? ⟨gp, j * 2 + 1, none⟩ = some (.string ⟨ps[j].t.toArray⟩) := (HB.out.cell (p := ⟨gp, j * 2 + 1, none⟩) hgp).trans (hcs j _ hq).2
          have hk4 := HK.out _ (List.getElem_mem hlt2)
          have htl := HT.out _ (List.getElem_mem hlt2)
          have HNj := HN.out _ (List.getElem_mem hlt2)
          have HDj := HD.out _ (List.getElem_mem hlt2)
          have hY : ∀ T, pA nt dt x ps[j] = (T, 0) → Hid (wrA nt dt x (s ++ T) (ps.drop (j + 1)) = R) := fun T e => wrA_yes hlt2 HQ.out e
          have hNo : ∀ T c, pA nt dt x ps[j] = (T, c) → ¬ c = 0 → R = ([], c) := fun T c e hc => wrA_no hlt2 HQ.out e hc
          unfold pA at hY hNo
          clear hcs hq HR HK HP HN HD HT HQ
          generalize ps[j] = q at *
          obtain ⟨K, T⟩ := q
          simp only at hcell hcell2 hk4 htl HNj HDj hY hNo
          have szT := mk_size T
          have hKc : K = 0 ∨ K = 1 ∨ K = 2 ∨ K = 3 ∨ K = 4 := by omega
          rcases hKc with rfl | rfl | rfl | rfl | rfl
          · have hy := hY T rfl
            clear hY hNo HNj HDj
            have hcell3 : wr.cell? ⟨gp, j * 2, none⟩ = some (.int .i64 0) := hcell
            clear hcell
            have HA : Hid ((⟨s.toArray⟩ : ByteArray) ++ ⟨T.toArray⟩ = ⟨(s ++ T).toArray⟩) := ba_app _ _
            have n1 : (9223372036854775807 < s.length + T.length) = False := eq_false (by omega)
            go_wp2
            go_roundw
            case rel => exact ⟨j + 1, s ++ T, hlt2, by rw [List.length_append]; omega, by go_num, by rw [HA.out], hy, HB⟩
            case measure => simp [intOf] <;> omega
          · obtain ⟨hdl, hdc⟩ := HNj rfl
            have hy := hY (nt ⟨1, T⟩).1
            have hno := hNo (nt ⟨1, T⟩).1 (nt ⟨1, T⟩).2 rfl
            simp only [if_true] at hy
            clear hY hNo HNj HDj
            generalize nt ⟨1, T⟩ = NT at *
            obtain ⟨D, E⟩ := NT
            simp only at hdl hdc hy hno
            have HDc := hide hdc
            clear hdc
            have szD := mk_size D
            have hcell3 : wr.cell? ⟨gp, j * 2, none⟩ = some (.int .i64 1) := hcell
            clear hcell
            by_cases hE : E = 0
            · subst hE
              have HY := hy rfl
              clear hy hno
              have HA : Hid ((⟨s.toArray⟩ : ByteArray) ++ ⟨D.toArray⟩ = ⟨(s ++ D).toArray⟩) := ba_app _ _
              have n1 : (9223372036854775807 < s.length + D.length) = False := eq_false (by omega)
              go_wp2_with (go_at_call 40; refine (HDc.out _).mono ?_; rintro e w1 ⟨rfl, hb1⟩; replace HB := hide (upW HB.out hb1); clear hb1)
              go_roundw
              case rel => exact ⟨j + 1, s ++ D, hlt2, by rw [List.length_append]; omega, by go_num, by rw [HA.out], HY, HB⟩
              case measure => simp [intOf] <;> omega
            · have HF := hide (hno hE)
              have e1 : (E == 0) = false := by rw [beq_eq_false_iff_ne]; exact hE
              have e2 : (E != 0) = true := by rw [bne, e1]; rfl
              clear hy hno
              go_wp2_with (go_at_call 40; refine (HDc.out _).mono ?_; rintro e w1 ⟨rfl, hb1⟩; replace HB := hide (upW HB.out hb1); clear hb1)
              go_ret2
              rw [HF.out]
              exact ⟨rfl, HB.out⟩
          · have hy := hY T rfl
            clear hY hNo HNj HDj
            have hcell3 : wr.cell? ⟨gp, j * 2, none⟩ = some (.int .i64 4) := hcell
            clear hcell
            have HA : Hid ((⟨s.toArray⟩ : ByteArray) ++ ⟨T.toArray⟩ = ⟨(s ++ T).toArray⟩) := ba_app _ _
            have n1 : (9223372036854775807 < s.length + T.length) = False := eq_false (by omega)
            go_wp2
            go_roundw
            case rel => exact ⟨j + 1, s ++ T, hlt2, by rw [List.length_append]; omega, by go_num, by rw [HA.out], hy, HB⟩
            case measure => simp [intOf] <;> omega
          · have hy := hY (dt ⟨3, T⟩) rfl
            obtain ⟨hdl, hdc⟩ := HDj rfl
            clear hY hNo HNj HDj
            generalize dt ⟨3, T⟩ = D at *
            have HDc := hide hdc
            clear hdc
            have szD := mk_size D
            have hcell3 : wr.cell? ⟨gp, j * 2, none⟩ = some (.int .i64 2) := hcell
            clear hcell
            have HA : Hid ((⟨s.toArray⟩ : ByteArray) ++ ⟨D.toArray⟩ = ⟨(s ++ D).toArray⟩) := ba_app _ _
            have n1 : (9223372036854775807 < s.length + D.length) = False := eq_false (by omega)
            go_wp2_with (go_at_call 41; refine (HDc.out _).mono ?_; rintro e w1 ⟨rfl, hb1⟩; replace HB := hide (upW HB.out hb1); clear hb1)
            go_roundw
            case rel => exact ⟨j + 1, s ++ D, hlt2, by rw [List.length_append]; omega, by go_num, by rw [HA.out], hy, HB⟩
            case measure => simp [intOf] <;> omega
          · have hy := hY x rfl
            clear hY hNo HNj HDj
            have hcell3 : wr.cell? ⟨gp, j * 2, none⟩ = some (.int .i64 3) := hcell
            clear hcell
            have HA : Hid ((⟨s.toArray⟩ : ByteArray) ++ ⟨x.toArray⟩ = ⟨(s ++ x).toArray⟩) := ba_app _ _
            have n1 : (9223372036854775807 < s.length + x.length) = False := eq_false (by omega)
            go_wp2
            go_roundw
            case rel => exact ⟨j + 1, s ++ x, hlt2, by rw [List.length_append]; omega, by go_num, by rw [HA.out], hy, HB⟩
            case measure => simp [intOf] <;> omega
        · have gj : ¬ (j : Int) < (ps.length : Int) := by omega
          have hje : j = ps.length := by omega
          have HF : Hid (R = (s, 0)) := wrA_end (by have := HQ.out; rwa [hje] at this)
          clear HQ hje
          go_wp2
          go_ret2
          rw [HF.out]
          exact ⟨rfl, HB.out⟩
end Go.Proofs.YtnhaapcpklfkpaaGreatDoor
