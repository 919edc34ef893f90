/-
  The contracts of tree's right and Check.
  Plain words on what Parse tells: what the reader tells of a text's tokens, and what Check tells of it.
  Plain words on names among a scan's tokens: each has its bracket just behind it.
  Plain words on a node's text: its tokens' texts one behind the other; quotes doubled.
  strings.Builder's WriteString at this dump (its laying is a part of strings.Replace's).
  The contracts of tree's constant and cell.
  A text that is written: strings.Builder behind calls that leave what was there; what write asks of the world.
-/
import Derived.Test.YtiaoaifoecmemaaGreatDoorRQ4
set_option maxRecDepth 100000
set_option maxHeartbeats 4000000
namespace Go.Proofs.YtiaoaifoecmemaaGreatDoor
open Go.RowKit
def okF : Fo → Prop
 | .nil => True
 | .cons h k r => (h.vs.length ≤ maxLen ∧ h.txt.length ≤ maxLen) ∧ okF k ∧ okF r
theorem wpl_loadAt {ops : Array Oper} {rest : List Oper} {o : Oper} {a : Act} {w : World} {Q : Exit → Act → World → Prop} (hgd : o.guard = none) (x : Operand) (ho : o.op = .load 34 x)
  (b i : Nat) (hx : a.eval x = .pointer (some ⟨b, i, none⟩)) {h : Hd} {v : Value} (hc : ∀ j, j < 16 → w.cell? ⟨b, i + j, none⟩ = (hdC h v)[j]?)
  (hk : wpList Tryz.prog ops Q rest (a.put o.dst (.agg (hdC h v).toArray)) w) : wpList Tryz.prog ops Q (o :: rest) a w :=
 wpList_load_mid hgd 34 x ho b i hx (hdC h v) _ (fun j u hu => by
  have hj : j < 16 := (List.getElem?_eq_some_iff.1 hu).1
  rw [hc j hj]; exact hu) Tryz.underlying34 rfl (by rw [sizeNode]; rfl) hk
def RightC (k : Fo) : Prop :=
 ∀ (D : Nat → Prop) (h : Hd) (b o : Nat) (w : World), (∀ c, D c → c < w.heap.size) → Row w D (.cons h k .nil) b o → h.vs.length ≤ maxLen → h.txt.length ≤ maxLen → okF k →
  Calls Tryz.prog 29 #[.pointer (some ⟨b, o, none⟩)] w fun e w' => e = .returned (.bool (rightN h k)) ∧ Below w.heap.size w w'
def RightA : Fo → Prop
 | .nil => True
 | .cons _ k r => RightC k ∧ RightA r
theorem right_step (k : Fo) (hA : RightA k) : RightC k := by
  intro D h b o w hD hrow hv ht hok
  obtain ⟨hDb, ⟨v, hcell, a, n, cap, rfl, hn, hk⟩, _⟩ := hrow
  subst hn
  have hbz := hD b hDb
  have hc15 : w.cell? ⟨b, o + 15, none⟩ = some (.slice a k.len cap) := hcell 15 (by omega)
  have HC := hide hcell
  have HAl : Hid (∀ W : World, Calls Tryz.prog 46 #[.agg (hdC h (.slice a k.len cap)).toArray] W fun e w' => e = .returned (.bool (aloneB h k.len)) ∧ Below W.heap.size W w') := fun W => rightAlone_any h a k.len cap W hv ht
  have hR : rightN h k = (aloneB h k.len && allB k) := rfl
  have HKi := hide hk
  have HA := hide hA
  have HOk := hide hok
  clear hk hA hok hcell hv ht
  cases hal : aloneB h k.len with
  | false =>
    rw [hal] at HAl hR
    rw [hR]
    clear hR hal
    go_enter Tryz.func29, Tryz.ntmps29
    go_wp2_with (first | (with_reducible refine wpl_id ?_; refine wpl_loadAt rfl _ rfl _ _ rfl HC.out ?_) | (go_at_call 46; refine (HAl.out _).mono ?_; rintro e w1 ⟨rfl, hb1⟩; have HB1 := hide hb1; clear hb1))
    go_ret
    exact ⟨by simp, HB1.out⟩
  | true =>
    rw [hal] at HAl hR
    have hR2 : rightN h k = allB k := by rw [hR]; simp
    rw [hR2]
    clear hR hal hR2
    go_enter Tryz.func29, Tryz.ntmps29
    go_wp2_with (first | (with_reducible refine wpl_id ?_; refine wpl_loadAt rfl _ rfl _ _ rfl HC.out ?_) | (go_at_call 46; refine (HAl.out _).mono ?_; rintro e w1 ⟨rfl, hb1⟩; have HB1 := hide hb1; have c1 := hb1.cell (p := ⟨b, o + 15, none⟩) hbz; rw [hc15] at c1; clear hb1))
    go_loopw [14, 3] (fun u _ wr => ∃ (i : Nat) (F : Fo), u = .int .i64 (i : Int) ∧ i + F.len = k.len ∧ (F = .nil ∨ ∃ b' o', a = some ⟨b', o', none⟩ ∧ k.len ≤ cap ∧ cap ≤ maxLen ∧ Row w D F b' (o' + i * 16)) ∧ RightA F ∧ okF F ∧ Below w.heap.size w wr ∧ allB k = allB F) (fun u _ _ => k.len - (intOf u).toNat)
    case atStart =>
      refine ⟨0, k, rfl, by omega, ?_, HA.out, HOk.out, HB1.out, rfl⟩
      rcases HKi.out with e | ⟨b', o', e1, e2, e3, e4⟩
      · exact .inl e
      · exact .inr ⟨b', o', e1, e2, e3, by simpa using e4⟩
    case round =>
      obtain ⟨i, F, rfl, hl, hF, hAF, hOF, hB, hq⟩ := hrel
      have HQ := hide hq
      have HB := hide hB
      have hsz := hB.size
      have hcb : wr.cell? ⟨b, o + 15, none⟩ = some (.slice a k.len cap) := by rw [hB.cell (p := ⟨b, o + 15, none⟩) hbz]; exact hc15
      clear hq hB c1
      match F, hl, hF, hAF, hOF, HQ with
      | .nil, hl, _, _, _, HQ =>
        have hli : ¬ (i : Int) < (k.len : Int) := by simp [Fo.len] at hl; omega
        go_wp2
        go_ret
        exact ⟨by rw [HQ.out]; rfl, HB.out⟩
      | .cons h1 k1 r1, hl, hF, hAF, hOF, HQ =>
        have hli : (i : Int) < (k.len : Int) := by simp [Fo.len] at hl; omega
        have hl2 : i + 1 + r1.len = k.len := by simp [Fo.len] at hl; omega
        obtain ⟨b', o', rfl, hcap1, hcap2, hrw⟩ : ∃ b' o', a = some ⟨b', o', none⟩ ∧ k.len ≤ cap ∧ cap ≤ maxLen ∧ Row w D (.cons h1 k1 r1) b' (o' + i * 16) := by
          rcases hF with e | e
          · cases e
          · exact e
        obtain ⟨p1, p2, p3⟩ := hrw
        have HR1 : Hid (Row wr D (.cons h1 k1 .nil) b' (o' + i * 16)) := row_to (fun c hc => ⟨hc, HB.out.block c (hD c hc)⟩) _ _ _ (show Row w D (.cons h1 k1 .nil) b' (o' + i * 16) from ⟨p1, p2, trivial⟩)
        have HR2 : Hid (Row w D r1 b' (o' + (i + 1) * 16)) := by rw [show o' + (i + 1) * 16 = o' + i * 16 + 16 by omega]; exact p3
        unfold maxLen at hcap2
        obtain ⟨hA1, hA2⟩ := hAF
        obtain ⟨hO1, hO2, hO3⟩ := hOF
        have HA2 := hide hA2
        have HO3 := hide hO3
        have HC2 : Hid (∀ W : World, wr.heap.size ≤ W.heap.size → Row W D (.cons h1 k1 .nil) b' (o' + i * 16) → Calls Tryz.prog 29 #[.pointer (some ⟨b', o' + i * 16, none⟩)] W fun e w' => e = .returned (.bool (rightN h1 k1)) ∧ Below W.heap.size W w') := fun W hle hW => hA1 D h1 b' (o' + i * 16) W (fun c hc => Nat.lt_of_lt_of_le (hD c hc) (Nat.le_trans hsz hle)) hW hO1.1 hO1.2 hO2
        have HN : Hid (allB k = (rightN h1 k1 && allB r1)) := HQ.out
        clear p1 p2 p3 hF hl hA1 hO1 hO2 hO3 hA2 HQ
        cases hrn : rightN h1 k1 with
        | false =>
          rw [hrn] at HC2 HN
          go_wp2_with (first | (go_at_call 29; refine (HC2.out _ (Nat.le_refl _) HR1.out).mono ?_; rintro e w2 ⟨rfl, hb2⟩; have HB2 := hide hb2; clear hb2))
          go_ret
          exact ⟨by rw [HN.out]; rfl, HB.out.trans (HB2.out.mono hsz)⟩
        | true =>
          rw [hrn] at HC2 HN
          go_wp2_with (first | (go_at_call 29; refine (HC2.out _ (Nat.le_refl _) HR1.out).mono ?_; rintro e w2 ⟨rfl, hb2⟩; have HB2 := hide hb2; clear hb2))
          go_roundw
          case rel => exact ⟨i + 1, r1, by go_num, by omega, .inr ⟨b', o', rfl, hcap1, by unfold maxLen; exact hcap2, HR2.out⟩, HA2.out, HO3.out, HB.out.trans (HB2.out.mono hsz), by rw [HN.out]; simp⟩
          case measure => simp [intOf]; omega
theorem right_all : ∀ (F : Fo), RightA F
 | .nil => trivial
 | .cons _ k r => ⟨right_step k (right_all k), right_all r⟩
def checkN (h : Hd) (k : Fo) : Int := if 160 < k.deep + 1 then 6 else if rightN h k = false then 2 else if 40 < k.deep + 1 then 6 else 0
theorem check_node (D : Nat → Prop) (h : Hd) (k : Fo) (a : Option Addr) (n cap : Nat) (w : World) (hD : ∀ c, D c → c < w.heap.size) (hk : Kv w D (.slice a n cap) k) (hm : k.many + 1 ≤ 4096) (hv : h.vs.length ≤ maxLen) (ht : h.txt.length ≤ maxLen) (ho : okF k) :
    Calls Tryz.prog 15 #[.agg (hdC h (.slice a n cap)).toArray] w fun e w' => e = .returned (.int .i64 (checkN h k)) ∧ Below w.heap.size w w' := by
  have HR : Hid (∀ W : World, Below (w.heap.size + 1) (w.alloc (.cells (hdC h (.slice a n cap)).toArray 34)) W → Row W (fun c => c < w.heap.size + 1) (.cons h k .nil) w.heap.size 0) := fun W hW => by
    refine node_at (pre := []) (rest := []) (t := 34) (fz := (0, 0)) ?_ rfl (by omega) (kv_to hk (fun c hc => ⟨by have := hD c hc; omega, ?_⟩)) trivial
    · rw [hW.block _ (by omega)]
      simpa using heap_alloc_new w _
    · rw [hW.block _ (by have := hD c hc; omega), Below.heap_alloc _ _ _ (hD c hc)]
  have HM : Hid (∀ W : World, Below (w.heap.size + 1) (w.alloc (.cells (hdC h (.slice a n cap)).toArray 34)) W → Calls Tryz.prog 28 #[.pointer (some ⟨w.heap.size, 0, none⟩)] W fun e w' => e = .returned (.tuple #[.int .i64 ((if k.deep + 1 ≤ 160 then k.deep + 1 else 0 : Nat) : Int), .int .i64 ((if k.deep + 1 ≤ 160 then 0 else 6 : Nat) : Int)]) ∧ Below W.heap.size W w') := fun W hW => measure_any (fun c => c < w.heap.size + 1) h k w.heap.size 0 W (fun c hc => by have := hW.size; simp at this; omega) (HR.out W hW) hm
  have HG : Hid (∀ W : World, Below (w.heap.size + 1) (w.alloc (.cells (hdC h (.slice a n cap)).toArray 34)) W → Calls Tryz.prog 29 #[.pointer (some ⟨w.heap.size, 0, none⟩)] W fun e w' => e = .returned (.bool (rightN h k)) ∧ Below W.heap.size W w') := fun W hW => right_step k (right_all k) (fun c => c < w.heap.size + 1) h w.heap.size 0 W (fun c hc => by have := hW.size; simp at this; omega) (HR.out W hW) hv ht ho
  unfold checkN
  clear hk hm hv ht ho HR
  by_cases h1 : k.deep + 1 ≤ 160
  · rw [if_pos h1, if_pos h1] at HM
    rw [if_neg (by omega)]
    generalize k.deep + 1 = dd at *
    cases h2 : rightN h k with
    | false =>
      rw [h2] at HG
      rw [if_pos rfl]
      go_enter Tryz.func15, Tryz.ntmps15
      go_wp2_with (first | (go_at_call 28; refine (HM.out _ (Below.refl _ _)).mono ?_; rintro e w1 ⟨rfl, hb1⟩; have HB1 := hide hb1; clear hb1) | (go_at_call 29; refine (HG.out _ (HB1.out.mono (by simp))).mono ?_; rintro e w2 ⟨rfl, hb2⟩; have HB2 := hide hb2; clear hb2))
      go_ret
      have b1 := HB1.out
      have b2 := HB2.out
      exact ⟨rfl, by repeat' (first | with_reducible (first | exact Below.refl _ _ | refine Below.setCell ?_ ?_ _ | refine Below.alloc ?_ ?_ _ | refine below_drewN ?_ _ | refine Below.drew ?_ | refine Below.trans ?_ (Below.mono (by assumption) ?_) | exact Nat.le_refl _ | refine Nat.le_trans ?_ (Below.size (by assumption)) | refine zzA ?_ | refine zzB ?_ | refine zzC ?_ | refine zzD ?_) | (simp; done) | (simp; omega) | omega)⟩
    | true =>
      rw [h2] at HG
      rw [if_neg (by simp)]
      by_cases h3 : 40 < dd
      · have h3' : (40 : Int) < (dd : Int) := by omega
        rw [if_pos h3]
        go_enter Tryz.func15, Tryz.ntmps15
        go_wp2_with (first | (go_at_call 28; refine (HM.out _ (Below.refl _ _)).mono ?_; rintro e w1 ⟨rfl, hb1⟩; have HB1 := hide hb1; clear hb1) | (go_at_call 29; refine (HG.out _ (HB1.out.mono (by simp))).mono ?_; rintro e w2 ⟨rfl, hb2⟩; have HB2 := hide hb2; clear hb2))
        go_ret
        have b1 := HB1.out
        have b2 := HB2.out
        exact ⟨rfl, by repeat' (first | with_reducible (first | exact Below.refl _ _ | refine Below.setCell ?_ ?_ _ | refine Below.alloc ?_ ?_ _ | refine below_drewN ?_ _ | refine Below.drew ?_ | refine Below.trans ?_ (Below.mono (by assumption) ?_) | exact Nat.le_refl _ | refine Nat.le_trans ?_ (Below.size (by assumption)) | refine zzA ?_ | refine zzB ?_ | refine zzC ?_ | refine zzD ?_) | (simp; done) | (simp; omega) | omega)⟩
      · have h3' : ¬ (40 : Int) < (dd : Int) := by omega
        rw [if_neg h3]
        go_enter Tryz.func15, Tryz.ntmps15
        go_wp2_with (first | (go_at_call 28; refine (HM.out _ (Below.refl _ _)).mono ?_; rintro e w1 ⟨rfl, hb1⟩; have HB1 := hide hb1; clear hb1) | (go_at_call 29; refine (HG.out _ (HB1.out.mono (by simp))).mono ?_; rintro e w2 ⟨rfl, hb2⟩; have HB2 := hide hb2; clear hb2))
        go_ret
        have b1 := HB1.out
        have b2 := HB2.out
        exact ⟨rfl, by repeat' (first | with_reducible (first | exact Below.refl _ _ | refine Below.setCell ?_ ?_ _ | refine Below.alloc ?_ ?_ _ | refine below_drewN ?_ _ | refine Below.drew ?_ | refine Below.trans ?_ (Below.mono (by assumption) ?_) | exact Nat.le_refl _ | refine Nat.le_trans ?_ (Below.size (by assumption)) | refine zzA ?_ | refine zzB ?_ | refine zzC ?_ | refine zzD ?_) | (simp; done) | (simp; omega) | omega)⟩
  · rw [if_neg h1, if_neg h1] at HM
    rw [if_pos (by omega)]
    go_enter Tryz.func15, Tryz.ntmps15
    go_wp2_with (first | (go_at_call 28; refine (HM.out _ (Below.refl _ _)).mono ?_; rintro e w1 ⟨rfl, hb1⟩; have HB1 := hide hb1; clear hb1))
    go_ret
    have b1 := HB1.out
    exact ⟨rfl, by repeat' (first | with_reducible (first | exact Below.refl _ _ | refine Below.setCell ?_ ?_ _ | refine Below.alloc ?_ ?_ _ | refine below_drewN ?_ _ | refine Below.drew ?_ | refine Below.trans ?_ (Below.mono (by assumption) ?_) | exact Nat.le_refl _ | refine Nat.le_trans ?_ (Below.size (by assumption)) | refine zzA ?_ | refine zzB ?_ | refine zzC ?_ | refine zzD ?_) | (simp; done) | (simp; omega) | omega)⟩
theorem scan_ended {l : List UInt8} (h : (scanR l).2.2 = 0) : Ended (scanR l).1 := by
 obtain ⟨h1, h2, h3⟩ := scan_zero h
 have he := run_end l.length (l.length + 1) 0 l (Nat.le_refl _) (by omega) h2
 rw [h3]
 obtain ⟨i, hi⟩ : ∃ i, allG l = i ++ [(zt.put ((0 + l.length : Nat) : Int), 0)] := by
  have := List.getLast?_eq_some_iff.1 he
  exact this
 refine ⟨i.map (fun x => x.1), zt.put ((0 + l.length : Nat) : Int), ?_, rfl, rfl⟩
 show (allG l).map _ = _
 rw [hi]; simp
theorem scan_len {l : List UInt8} (h : (scanR l).2.2 = 0) : (scanR l).1.length ≤ 1025 := by
 obtain ⟨h1, h2, h3⟩ := scan_zero h
 have := all_len l
 rw [h3]; simp; omega
theorem bind_len {s : List UInt8} (h : 0 < bindN s) : s.length ≤ 2 := by
 refine Classical.byContradiction fun hl => ?_
 have ne : ∀ x : List UInt8, x.length ≤ 2 → s ≠ x := fun x hx e => by rw [e] at hl; omega
 unfold bindN at h
 rw [if_neg (by simp only [not_or]; exact ⟨ne _ (by simp), ne _ (by simp), ne _ (by simp), ne _ (by simp), ne _ (by simp), ne _ (by simp)⟩), if_neg (ne _ (by simp)), if_neg (by simp only [not_or]; exact ⟨ne _ (by simp), ne _ (by simp)⟩), if_neg (by simp only [not_or]; exact ⟨ne _ (by simp), ne _ (by simp)⟩)] at h
 exact absurd h (by omega)
theorem alone_small {h : Hd} {n : Nat} (e : aloneB h n = true) : h.vs.length ≤ maxLen ∧ h.txt.length ≤ maxLen := by
  have hm : 1024 ≤ maxLen := by decide
  rcases alone_cases e with ⟨e1, e2, _⟩ | ⟨e1, _⟩ | ⟨e1, _⟩ | ⟨e1, _⟩ | ⟨e1, e2, _⟩ | ⟨e1, e2⟩
  · rw [e1]
    refine ⟨?_, by simp [valH]⟩
    show h.vs.length ≤ _
    have hz : (⟨h.vs.toArray⟩ : ByteArray).size = h.vs.length := by show h.vs.toArray.size = _; simp
    have hq : ∀ s : ByteArray, decide (s = ⟨#[]⟩) = true → s.size = 0 := fun s hs => by rw [of_decide_eq_true hs]; rfl
    unfold constB rightB at e2
    simp only [Bool.and_eq_true] at e2
    have e3 := e2.1.1
    rw [← hz]
    (repeat' split at e3) <;> (try simp only [Bool.and_eq_true] at e3)
    · rw [hq _ e3.1.1.2]; omega
    · rw [hq _ e3.1.1.2]; omega
    · have := of_decide_eq_true e3.1.1.2; omega
    · rw [hq _ e3.1.2]; omega
    · rw [hq _ e3.1.1.1.2]; omega
    · exact absurd e3 (by simp)
  · rw [e1]; simp [cellH]
  · rw [e1]; simp [rangeH]
  · rw [e1]; simp [negH]
  · rw [e1]
    refine ⟨by simp [binH], ?_⟩
    show h.txt.length ≤ _
    have := bind_len e2
    omega
  · rw [e1]
    refine ⟨by simp [callH], ?_⟩
    show h.txt.length ≤ _
    unfold nameOk at e2
    simp only [Bool.and_eq_true, decide_eq_true_eq] at e2
    omega
theorem right_ok : ∀ (k : Fo), allB k = true → okF k
 | .nil, _ => trivial
 | .cons h k r, e => by
  simp only [allB, Bool.and_eq_true] at e
  exact ⟨alone_small e.1.1, right_ok k e.1.2, right_ok r e.2⟩
inductive Pr where
 | ok : Hd → Fo → Pr
 | no : Int → Int → Pr
def endR : Rs → Pr
 | .bad l => .no (hd l).pos 5
 | .ok h k l => if (hd l).kind ≠ 0 then .no (hd l).pos 5 else if 40 < k.deep + 1 then .no 0 6 else .ok h k
def parseN (l : List UInt8) : Pr := if (scanR l).2.2 ≠ 0 then .no (scanR l).2.1 (scanR l).2.2 else endR (rd (.form 1) (scanR l).1)
theorem read_right {l : List UInt8} (h : (scanR l).2.2 = 0) {hh : Hd} {k : Fo} {r : List Tok} (e : rd (.form 1) (scanR l).1 = .ok hh k r) : rightN hh k = true ∧ k.many + 1 ≤ 1025 := by
 obtain ⟨_, h2, h3⟩ := go_right _ (.form 1) _ (by simp [fine]) (fit_scan l) trivial _ _ _ e
 refine ⟨h2, ?_⟩
 have := scan_len h
 simp only [outN, accN] at h3
 omega
theorem check_right {h : Hd} {k : Fo} (e : rightN h k = true) : checkN h k = if 40 < k.deep + 1 then 6 else 0 := by
  unfold checkN
  rw [e]
  by_cases h1 : 40 < k.deep + 1
  · simp [h1]
  · rw [if_neg (by omega), if_neg (by simp)]
theorem first_open (r : List UInt8) : firstT (40 :: r) = (opTok [40], 1, 0) := by
 have hd : isDig 40 = false := by decide
 have hl : letterB 40 = false := by decide
 have he : firstT (40 :: r) = if isDig 40 then numberT (40 :: r) else if (40 : UInt8).toNat = 34 then textT (40 :: r) else if (40 : UInt8).toNat = 35 then faultT (40 :: r) else if letterB 40 || decide ((40 : UInt8).toNat = 36) then wordT (40 :: r) else signT (40 :: r) := rfl
 rw [he, if_neg (by simp [hd]), if_neg (by decide), if_neg (by decide), if_neg (by simp [hl])]
 have hp : pick signL (40 :: r) 0 15 = some 11 := by
  simp [pick, Lib.hasPrefix, List.isPrefixOf, signL, signs]
 unfold signT
 rw [hp]; rfl
theorem prefix_one {l : List UInt8} (h : Lib.hasPrefix l [40] = true) : ∃ r, l = 40 :: r := by
 cases l with
 | nil => simp [Lib.hasPrefix, List.isPrefixOf] at h
 | cons c r =>
  simp [Lib.hasPrefix, List.isPrefixOf] at h
  exact ⟨r, by rw [h]⟩
theorem word_name {l : List UInt8} (h : (wordT l).1.kind = 3) : ∃ r, l.drop (wordT l).2.1 = 40 :: r := by
  have hle : runN wordB l ≤ l.length := run_le _ _
  unfold wordT at *
  split at h
  · rename_i hp
    rw [if_pos hp]
    unfold nameT at *
    split at h
    · exact absurd h (by simp [zt])
    · rename_i hn
      rw [if_neg hn]
      show ∃ r, l.drop (l.take (runN wordB l)).length = 40 :: r
      rw [List.length_take, Nat.min_eq_left hle]
      exact prefix_one hp
  · unfold plainT at h
    split at h
    · exact absurd h (by simp [valTok])
    · split at h
      · exact absurd h (by simp [cellTok])
      · exact absurd h (by simp [zt])
theorem first_name {l : List UInt8} (h : (firstT l).1.kind = 3) : ∃ r, l.drop (firstT l).2.1 = 40 :: r := by
  match l with
  | [] => exact absurd h (by simp [firstT, zt])
  | c :: r =>
    have he : firstT (c :: r) = if isDig c then numberT (c :: r) else if c.toNat = 34 then textT (c :: r) else if c.toNat = 35 then faultT (c :: r) else if letterB c || decide (c.toNat = 36) then wordT (c :: r) else signT (c :: r) := rfl
    rw [he] at h ⊢
    split at h
    · unfold numberT at h
      split at h
      · exact absurd h (by simp [valTok])
      · exact absurd h (by simp [zt])
    · rename_i n1
      split at h
      · unfold textT at h
        cases e : txt (c :: r).tail with
        | none => rw [e] at h; exact absurd h (by simp [textOfT, zt])
        | some x =>
          rw [e] at h
          unfold textOfT at h
          simp only at h
          split at h
          · exact absurd h (by simp [zt])
          · exact absurd h (by simp [valTok])
      · rename_i n2
        split at h
        · unfold faultT at h
          cases e : pick nameL (c :: r) 1 7 with
          | none => rw [e] at h; exact absurd h (by simp [faultOfT, zt])
          | some x => rw [e] at h; exact absurd h (by simp [faultOfT, valTok])
        · rename_i n3
          split at h
          · rename_i n4
            rw [if_neg n1, if_neg n2, if_neg n3, if_pos n4]
            exact word_name h
          · unfold signT at h
            cases e : pick signL (c :: r) 0 15 with
            | none => rw [e] at h; exact absurd h (by simp [signOfT, zt])
            | some x => rw [e] at h; exact absurd h (by simp [signOfT, opTok])
def Named : List Tok → Prop
 | [] => True
 | t :: r => (t.kind = 3 → atB r [40] = true) ∧ Named r
theorem run_open (f p : Nat) (r : List UInt8) : ∃ q y, (runG (f + 1) p (40 :: r)).map (fun x => x.1) = (opTok [40]).put q :: y := by
 have hb : runN blankB (40 :: r) = 0 := by simp [runN, blankB]
 rw [run_step f p (40 :: r) 0 hb _ (first_open r)]
 exact ⟨_, _, rfl⟩
theorem run_named : ∀ (f p : Nat) (l : List UInt8), l.length < f → Named ((runG f p l).map fun x => x.1)
  | 0, _, _, h => absurd h (by omega)
  | f + 1, p, l, h => by
    rw [run_step f p l _ rfl _ rfl]
    have hbl : runN blankB l ≤ l.length := run_le _ _
    have hg := good_first (l.drop (runN blankB l))
    simp only [List.map_cons]
    by_cases h0 : (firstT (l.drop (runN blankB l))).1.kind = 0
    · rw [if_pos h0]
      exact ⟨fun e => absurd (h0.symm.trans e) (by decide), trivial⟩
    · rw [if_neg h0]
      have hlt : ((l.drop (runN blankB l)).drop (firstT (l.drop (runN blankB l))).2.1).length < f := by
        rcases hg with ⟨e, _⟩ | ⟨_, _, e1, e2, _⟩
        · exact absurd e h0
        · rw [List.length_drop]
          have : (l.drop (runN blankB l)).length ≤ l.length := by simp
          omega
      refine ⟨fun e => ?_, run_named f _ _ hlt⟩
      obtain ⟨r, hr⟩ := first_name (l := l.drop (runN blankB l)) e
      rw [hr] at hlt ⊢
      obtain ⟨g, rfl⟩ : ∃ g, f = g + 1 := ⟨f - 1, by simp at hlt; omega⟩
      obtain ⟨q, y, hy⟩ := run_open g (p + runN blankB l + (firstT (l.drop (runN blankB l))).2.1) r
      rw [hy]; rfl
theorem scan_named {l : List UInt8} (h : (scanR l).2.2 = 0) : Named (scanR l).1 := by
 obtain ⟨h1, h2, h3⟩ := scan_zero h
 rw [h3]
 exact run_named _ _ _ (by omega)
theorem dbl_other {c : UInt8} {r : List UInt8} (h : ¬ (([34] : List UInt8).isPrefixOf (c :: r) = true)) : dbl (c :: r) = c :: dbl r := by
 rw [dbl, if_neg]
 intro h1
 rw [byte34] at h1
 subst h1
 exact h (by simp)
theorem twice_go : ∀ (n : Nat) (l : List UInt8), l.length ≤ n → Lib.replaceK [34] [34, 34] (Lib.count l [34]) l = dbl l
  | 0, l, h => by
    cases l with
    | nil => rfl
    | cons c r => simp at h
  | n + 1, [], _ => by
    rw [Lib.count_miss (by rfl)]; rfl
  | n + 1, c :: r, h => by
    by_cases hp : ([34] : List UInt8).isPrefixOf (c :: r) = true
    · have hi : Lib.index (c :: r) [34] = ((0 : Nat) : Int) := by simp [Lib.index, hp]
      rw [Lib.count_hit (by simp) hi, Nat.add_comm, Lib.replaceK_hit _ _ _ _ 0 hi]
      simp [List.isPrefixOf] at hp
      subst hp
      rw [dbl, if_pos (by rfl)]
      have := twice_go n r (by simpa using h)
      simp
      exact this
    · rw [dbl_other hp]
      have ih := twice_go n r (by simpa using h)
      by_cases hm : Lib.index r [34] = -1
      · have hi : Lib.index (c :: r) [34] = -1 := by simp [Lib.index, hp, hm]
        rw [Lib.count_miss hi]
        rw [Lib.count_miss hm] at ih
        have : r = dbl r := ih
        rw [← this]; rfl
      · obtain ⟨i, hr⟩ : ∃ i : Nat, Lib.index r [34] = i := ⟨(Lib.index r [34]).toNat, by have := Lib.index_ge r [34]; omega⟩
        have hi : Lib.index (c :: r) [34] = ((i + 1 : Nat) : Int) := by
          simp [Lib.index, hp, hr]
        rw [Lib.count_hit (by simp) hi, Nat.add_comm, Lib.replaceK_hit _ _ _ _ (i + 1) hi]
        rw [Lib.count_hit (by simp) hr, Nat.add_comm, Lib.replaceK_hit _ _ _ _ i hr] at ih
        rw [← ih]
        simp
theorem twice_all (l : List UInt8) : Lib.replaceAll l [34] [34, 34] = dbl l := by
 unfold Lib.replaceAll Lib.replace Lib.replaceNum
 rw [if_neg (by decide), if_pos (Or.inl (by omega))]
 exact twice_go l.length l (Nat.le_refl _)
def constL (k n : Int) (s : List UInt8) (b : Bool) (c : Int) : List UInt8 := if k = 1 then textOf n else if k = 2 then 34 :: (dbl s ++ [34]) else (showV k n ⟨s.toArray⟩ b c).1
def tokL (t : Tok) : List UInt8 := if t.kind = 1 then constL t.vk t.vn t.vs t.vb t.vc else if t.kind = 2 then (Pla.printR t.row t.col t.fr t.fc).1 else t.txt
def toksL : List Tok → List UInt8
 | [] => []
 | t :: r => tokL t ++ toksL r
theorem toksL_app : ∀ (a b : List Tok), toksL (a ++ b) = toksL a ++ toksL b
 | [], b => rfl
 | t :: a, b => by rw [List.cons_append, toksL, toksL, toksL_app a b, List.append_assoc]
def textN (h : Hd) (k : Fo) : List UInt8 := toksL (toksN h k)
def kidL (m : Nat) (h : Hd) (k : Fo) : List UInt8 := if h.kind = 5 ∧ bindN h.txt < m then 40 :: (textN h k ++ [41]) else textN h k
theorem kid_is (m : Nat) (h : Hd) (k : Fo) : toksL (brak m h (toksN h k)) = kidL m h k := by
  unfold brak kidL textN
  split
  · show toksL (opTok [40] :: _) = _
    rw [toksL, toksL_app]; rfl
  · rfl
def argsL : Fo → List UInt8
 | .nil => []
 | .cons h k .nil => textN h k
 | .cons h k r => textN h k ++ 44 :: argsL r
theorem args_is : ∀ (k : Fo), toksL (commas (toksF k)) = argsL k
 | .nil => rfl
 | .cons h k .nil => rfl
 | .cons h k (.cons h' k' r) => by
  show toksL (toksN h k ++ opTok [44] :: commas (toksF (.cons h' k' r))) = _
  rw [toksL_app, toksL, args_is (.cons h' k' r)]
  rfl
theorem text_val {h : Hd} {k : Fo} (e : h.kind = 1) : textN h k = constL h.vk h.vn h.vs h.vb h.vc := by
 unfold textN toksN nodeT; rw [if_pos e]; simp [toksL, tokL, valTok]
theorem text_cell {h : Hd} {k : Fo} (e : h.kind = 2) : textN h k = (Pla.printR h.row h.col h.fr h.fc).1 := by
 unfold textN toksN nodeT; rw [if_neg (by omega), if_pos e]; simp [toksL, tokL, cellTok]
theorem text_range {h : Hd} {k : Fo} (e : h.kind = 3) : textN h k = (Pla.printR h.row h.col h.fr h.fc).1 ++ 58 :: (Pla.printR h.row2 h.col2 h.fr2 h.fc2).1 := by
 unfold textN toksN nodeT; rw [if_neg (by omega), if_neg (by omega), if_pos e]; simp [toksL, tokL, cellTok, opTok]
theorem text_neg {h h1 : Hd} {k1 r : Fo} (e : h.kind = 4) : textN h (.cons h1 k1 r) = 45 :: kidL 5 h1 k1 := by
 unfold textN toksN nodeT
 rw [if_neg (by omega), if_neg (by omega), if_neg (by omega), if_pos e]
 show toksL (opTok [45] :: brak 5 h1 (toksN h1 k1)) = _
 rw [toksL, kid_is]; rfl
theorem text_bin {h h1 h2 : Hd} {k1 k2 r : Fo} (e : h.kind = 5) : textN h (.cons h1 k1 (.cons h2 k2 r)) = kidL (bindN h.txt) h1 k1 ++ h.txt ++ kidL (bindN h.txt + 1) h2 k2 := by
 unfold textN toksN nodeT
 rw [if_neg (by omega), if_neg (by omega), if_neg (by omega), if_neg (by omega), if_pos e]
 show toksL (brak (bindN h.txt) h1 (toksN h1 k1) ++ opTok h.txt :: brak (bindN h.txt + 1) h2 (toksN h2 k2)) = _
 rw [toksL_app, toksL, kid_is, kid_is, List.append_assoc]; rfl
theorem text_call {h : Hd} {k : Fo} (e : h.kind = 6) : textN h k = h.txt ++ 40 :: (argsL k ++ [41]) := by
 unfold textN toksN nodeT
 rw [if_neg (by omega), if_neg (by omega), if_neg (by omega), if_neg (by omega), if_neg (by omega)]
 show toksL (nameTok h.txt :: opTok [40] :: (commas (toksF k) ++ [opTok [41]])) = _
 rw [toksL, toksL, toksL_app, args_is]; rfl
end Go.Proofs.YtiaoaifoecmemaaGreatDoor
namespace Go.Proofs.YtiaoaifoecmemaaGreatDoor
open Go.RowKit Go.Shelf
theorem lays166 : Go.Proofs.Lays.n166 Tryz.prog Tryz.lays155_ren := { Tryz.lays155 with }
theorem writes (B b : Nat) (bs : List Value) (s : ByteArray) (w : World) (h : Lib.IsBuilder 76 5 B b bs w) (hlen : bs.length + s.size ≤ 140737488355328) (hBw : B ≤ w.heap.size) :
  Calls Tryz.prog 52 #[.pointer (some ⟨b, 0, none⟩), .string s] w fun e w' => e = .returned (.tuple #[.int .i64 s.size, .nilIface]) ∧ (Lib.BuilderAt 76 5 B b (.pointer (some ⟨b, 0, none⟩)) (bs ++ Lib.strCells s) w' ∧ Below B w w') :=
 Any.Builder_WriteString lays166 Tryz.Builder_Extra_155 B b bs s w h hlen hBw
structure EnvT (w : World) : Prop where
 tab : TabOk w
 ptab : Pla.TabOk w
 cell : CellOk w
 names : NamesOk w
theorem EnvT.below {w w' : World} (h : EnvT w) (hb : Below w.heap.size w w') : EnvT w' := ⟨tab_below h.tab hb, Pla.tab_below h.ptab hb, cellOk_below h.cell hb, names_below h.names hb⟩
theorem EnvT.alloc {w : World} (h : EnvT w) (o : Obj) : EnvT (w.alloc o) := h.below ((Below.refl _ _).alloc (Nat.le_refl _) o)
theorem below_alloc' {w w' : World} {o : Obj} (h : Below (w.alloc o).heap.size (w.alloc o) w') : Below w.heap.size w w' := by
 have h0 : Below w.heap.size w (w.alloc o) := (Below.refl _ _).alloc (Nat.le_refl _) o
 exact h0.trans (h.mono (by simp))
theorem cell_any (r c : Int) (x y : Bool) (w : World) (he : EnvT w) :
  Calls Tryz.prog 54 #[.agg #[.int .i64 r, .int .i64 c, .bool x, .bool y]] w fun e w' => e = .returned (.string ⟨(Pla.printR r c x y).1.toArray⟩) ∧ Below w.heap.size w w' := by
 have HP : Hid (∀ o : Obj, Calls Tryz.prog 87 #[.agg #[.int .i64 r, .int .i64 c, .bool x, .bool y]] (w.alloc o) fun e w' => e = .returned (.tuple #[.string ⟨(Pla.printR r c x y).1.toArray⟩, .int .i64 (Pla.printR r c x y).2]) ∧ Below (w.alloc o).heap.size (w.alloc o) w') := fun o => Pla.print_any r c x y _ (he.alloc o).ptab
 clear he
 generalize Pla.printR r c x y = X at *
 go_enter Tryz.func54, Tryz.ntmps54
 go_wp2_with (first | (go_at_call 87; refine (HP.out _).mono ?_; rintro e w1 ⟨rfl, hb1⟩; have HB1 := hide (below_alloc' hb1); clear hb1))
 go_ret
 exact ⟨rfl, HB1.out⟩
theorem const_num (n : Int) (s : List UInt8) (b : Bool) (c : Int) (w : World) (he : EnvT w) (hn : fitsB n = true) :
  Calls Tryz.prog 53 #[.agg #[.int .i64 1, .int .i64 n, .string ⟨s.toArray⟩, .bool b, .int .i64 c]] w fun e w' => e = .returned (.string ⟨(textOf n).toArray⟩) ∧ Below w.heap.size w w' := by
 have HP : Hid (∀ o : Obj, Calls Tryz.prog 84 #[.int .i64 n] (w.alloc o) fun e w' => e = .returned (.tuple #[.string ⟨(textOf n).toArray⟩, .int .i64 0]) ∧ Below (w.alloc o).heap.size (w.alloc o) w') := fun o => print_good n _ hn (he.alloc o).tab
 clear he hn
 generalize textOf n = X at *
 go_enter Tryz.func53, Tryz.ntmps53
 go_wp2_with (first | (go_at_call 84; refine (HP.out _).mono ?_; rintro e w1 ⟨rfl, hb1⟩; have HB1 := hide (below_alloc' hb1); clear hb1))
 go_ret
 exact ⟨rfl, HB1.out⟩
theorem const_show (k n : Int) (s : List UInt8) (b : Bool) (c : Int) (w : World) (he : EnvT w) (h1 : k ≠ 1) (h2 : k ≠ 2) (hs : s.length ≤ maxLen) :
  Calls Tryz.prog 53 #[.agg #[.int .i64 k, .int .i64 n, .string ⟨s.toArray⟩, .bool b, .int .i64 c]] w fun e w' => e = .returned (.string ⟨(showV k n ⟨s.toArray⟩ b c).1.toArray⟩) ∧ Below w.heap.size w w' := by
 have HP : Hid (∀ o : Obj, Calls Tryz.prog 86 #[.agg #[.int .i64 k, .int .i64 n, .string ⟨s.toArray⟩, .bool b, .int .i64 c]] (w.alloc o) fun e w' => e = .returned (.tuple #[.string ⟨(showV k n ⟨s.toArray⟩ b c).1.toArray⟩, .int .i64 (showV k n ⟨s.toArray⟩ b c).2]) ∧ Below (w.alloc o).heap.size (w.alloc o) w') := fun o => showV_any k n _ b c _ (he.alloc o).tab (he.alloc o).names (by show s.toArray.size ≤ _; simpa using hs)
 clear he
 generalize showV k n ⟨s.toArray⟩ b c = X at *
 go_enter Tryz.func53, Tryz.ntmps53
 go_wp2_with (first | (go_at_call 86; refine (HP.out _).mono ?_; rintro e w1 ⟨rfl, hb1⟩; have HB1 := hide (below_alloc' hb1); clear hb1))
 go_ret
 exact ⟨rfl, HB1.out⟩
theorem const_text (n : Int) (s : List UInt8) (b : Bool) (c : Int) (w : World) (he : EnvT w) (hs : s.length ≤ 255) :
  Calls Tryz.prog 53 #[.agg #[.int .i64 2, .int .i64 n, .string ⟨s.toArray⟩, .bool b, .int .i64 c]] w fun e w' => e = .returned (.string ⟨(34 :: (dbl s ++ [34])).toArray⟩) ∧ Below w.heap.size w w' := by
 have hz : (⟨s.toArray⟩ : ByteArray).size = s.length := by show s.toArray.size = _; simp
 have HP : Hid (∀ o : Obj, Calls Tryz.prog 85 #[.string ⟨s.toArray⟩, .string ⟨#[34]⟩, .string ⟨#[34, 34]⟩] (w.alloc o) fun e w' => e = .returned (.string ⟨(dbl s).toArray⟩) ∧ Below (w.alloc o).heap.size (w.alloc o) w') := fun o => by
  obtain ⟨q, hq⟩ := (he.alloc o).cell
  have := Tryz.strings_ReplaceAll ⟨s.toArray⟩ ⟨#[34]⟩ ⟨#[34, 34]⟩ q (w.alloc o) (by omega) hq (by decide) (by
   have := Lib.countB_mul_le (⟨#[34]⟩ : ByteArray) (by decide) _ (⟨s.toArray⟩ : ByteArray) (Nat.le_refl _)
   have e2 : (⟨#[34, 34]⟩ : ByteArray).size = 2 := rfl
   have e1 : (⟨#[34]⟩ : ByteArray).size = 1 := rfl
   rw [e1] at this
   rw [e2]
   omega)
  rw [show (⟨s.toArray⟩ : ByteArray).data.toList = s by simp, show (⟨#[34, 34]⟩ : ByteArray).data.toList = [34, 34] from rfl, show (⟨#[34]⟩ : ByteArray).data.toList = [34] from rfl, twice_all] at this
  exact this
 have hd := dbl_len s
 have hz1 : (⟨(dbl s).toArray⟩ : ByteArray).size = (dbl s).length := by show (dbl s).toArray.size = _; simp
 have hA : (⟨#[34]⟩ : ByteArray) ++ ⟨(dbl s).toArray⟩ = ⟨(34 :: dbl s).toArray⟩ := ByteArray.ext (by simp)
 have hB : (⟨(34 :: dbl s).toArray⟩ : ByteArray) ++ ⟨#[34]⟩ = ⟨(34 :: (dbl s ++ [34])).toArray⟩ := ByteArray.ext (by simp)
 have hz2 : (⟨(34 :: dbl s).toArray⟩ : ByteArray).size = (dbl s).length + 1 := by show (34 :: dbl s).toArray.size = _; simp
 have g1 : ¬ 9223372036854775807 < (⟨#[34]⟩ : ByteArray).size + (⟨(dbl s).toArray⟩ : ByteArray).size := by rw [hz1, show (⟨#[34]⟩ : ByteArray).size = 1 from rfl]; omega
 have g2 : ¬ 9223372036854775807 < (⟨(34 :: dbl s).toArray⟩ : ByteArray).size + (⟨#[34]⟩ : ByteArray).size := by rw [hz2, show (⟨#[34]⟩ : ByteArray).size = 1 from rfl]; omega
 rw [← hB]
 rw [← hA] at g2 ⊢
 clear he hA hB hz2
 go_enter Tryz.func53, Tryz.ntmps53
 go_wp2_with (first | (go_at_call 85; refine (HP.out _).mono ?_; rintro e w1 ⟨rfl, hb1⟩; have HB1 := hide (below_alloc' hb1); clear hb1))
 go_ret
 exact ⟨rfl, HB1.out⟩
theorem const_any (h : Hd) (hc : constB h = true) (w : World) (he : EnvT w) :
    Calls Tryz.prog 53 #[.agg #[.int .i64 h.vk, .int .i64 h.vn, .string ⟨h.vs.toArray⟩, .bool h.vb, .int .i64 h.vc]] w fun e w' => e = .returned (.string ⟨(constL h.vk h.vn h.vs h.vb h.vc).toArray⟩) ∧ Below w.heap.size w w' := by
  have hz : (⟨h.vs.toArray⟩ : ByteArray).size = h.vs.length := by show h.vs.toArray.size = _; simp
  have hq : ∀ s : ByteArray, decide (s = ⟨#[]⟩) = true → s.size = 0 := fun s hs => by rw [of_decide_eq_true hs]; rfl
  have hm : 1024 ≤ maxLen := by decide
  unfold constB at hc
  simp only [Bool.and_eq_true, decide_eq_true_eq] at hc
  obtain ⟨⟨h1, h2⟩, h3⟩ := hc
  unfold constL
  by_cases k1 : h.vk = 1
  · rw [if_pos k1, k1]
    refine const_num _ _ _ _ w he ?_
    unfold rightB at h1
    rw [if_neg h2, if_pos k1] at h1
    simp only [Bool.and_eq_true] at h1
    exact h1.1.1.1
  · rw [if_neg k1]
    by_cases k2 : h.vk = 2
    · rw [if_pos k2, k2]
      refine const_text _ _ _ _ w he ?_
      unfold rightB at h1
      rw [if_neg h2, if_neg k1, if_pos k2] at h1
      simp only [Bool.and_eq_true] at h1
      have := of_decide_eq_true h1.1.1.2
      omega
    · rw [if_neg k2]
      refine const_show _ _ _ _ _ w he k1 k2 ?_
      unfold rightB at h1
      rw [if_neg h2, if_neg k1, if_neg k2] at h1
      split at h1
      · simp only [Bool.and_eq_true] at h1
        have := hq _ h1.1.2
        omega
      · split at h1
        · simp only [Bool.and_eq_true] at h1
          have := hq _ h1.1.1.1.2
          omega
        · exact absurd h1 (by simp)
def EnvB (B : Nat) (w : World) : Prop := ∃ w0, EnvT w0 ∧ w0.heap.size ≤ B ∧ Below w0.heap.size w0 w
theorem EnvB.out {B : Nat} {w : World} (h : EnvB B w) : EnvT w := by
 obtain ⟨w0, h0, _, hb⟩ := h
 exact h0.below hb
theorem EnvB.below {B : Nat} {w w' : World} (h : EnvB B w) (k : Below B w w') : EnvB B w' := by
 obtain ⟨w0, h0, hB, hb⟩ := h
 exact ⟨w0, h0, hB, hb.trans (k.mono hB)⟩
structure Wr (B b : Nat) (l : List UInt8) (w : World) : Prop where
 size : B ≤ w.heap.size
 env : EnvB B w
 bld : Lib.IsBuilder 76 5 B b (Lib.byteCells l) w
theorem at_below {B b : Nat} {p : Value} {bs : List Value} {w w' : World} (h : Lib.BuilderAt 76 5 B b p bs w) (k : Below w.heap.size w w') : Lib.BuilderAt 76 5 B b p bs w' := by
 have hlt := h.lt
 obtain ⟨h1, v, h2, h3, h4⟩ := h
 exact ⟨h1, v, by rw [k.block b hlt]; exact h2, World.ownsRow.kept h3 ⟨k.os, k.tape, k.output, k.size, fun i hi _ => k.block i hi⟩ (row := none) (by cases v.ownBlock <;> simp), h4⟩
theorem Wr.below {B b : Nat} {l : List UInt8} {w w' : World} (h : Wr B b l w) (k : Below w.heap.size w w') : Wr B b l w' := by
  refine ⟨Nat.le_trans h.size k.size, h.env.below (k.mono h.size), ?_⟩
  rcases h.bld with hb | hb
  · exact .inl (at_below hb k)
  · exact .inr (at_below hb k)
theorem Wr.puts {B b : Nat} {l : List UInt8} {w : World} (h : Wr B b l w) (s : List UInt8) (hs : l.length + s.length ≤ 1099511627776) :
  Calls Tryz.prog 52 #[.pointer (some ⟨b, 0, none⟩), .string ⟨s.toArray⟩] w fun e w' => e = .returned (.tuple #[.int .i64 (s.length : Int), .nilIface]) ∧ Wr B b (l ++ s) w' ∧ Below B w w' := by
 have hz : (⟨s.toArray⟩ : ByteArray).size = s.length := by show s.toArray.size = _; simp
 have := writes B b (Lib.byteCells l) ⟨s.toArray⟩ w h.bld (by rw [Lib.byteCells_length, hz]; omega) h.size
 refine this.mono ?_
 rintro e w' ⟨rfl, h1, h2⟩
 refine ⟨by rw [hz], ⟨Nat.le_trans h.size h2.size, h.env.below h2, .inr ?_⟩, h2⟩
 rw [Lib.byteCells_append]
 exact h1
end Go.Proofs.YtiaoaifoecmemaaGreatDoor
