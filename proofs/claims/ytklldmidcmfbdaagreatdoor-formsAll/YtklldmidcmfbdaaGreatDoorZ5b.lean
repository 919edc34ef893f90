/-
  Out of TrJ, TrM3, TrM4, TrM5, TrM6, what is asked for (laid by pack9.py).
-/
import Derived.Test.YtklldmidcmfbdaaGreatDoorVNum
import Derived.Test.YtklldmidcmfbdaaGreatDoorVPla
import Derived.Test.YtklldmidcmfbdaaGreatDoorVPla5
import Derived.Test.YtklldmidcmfbdaaGreatDoorVVal
import Derived.Test.YtklldmidcmfbdaaGreatDoorVVal3
import Derived.Test.YtklldmidcmfbdaaGreatDoorVVal4
import Derived.Test.YtklldmidcmfbdaaGreatDoorZ1
import Derived.Test.YtklldmidcmfbdaaGreatDoorZ3
import Derived.Test.YtklldmidcmfbdaaGreatDoorZ4
import Derived.Test.YtklldmidcmfbdaaGreatDoorZ5
import Derived.BigCall
import Derived.BigGuard
import Derived.BigQuiet
import Derived.ChangeArms
import Derived.Deep.MidRow
import Derived.Deep.QuietTactic
import Derived.Deep.RegionHeld3
import Derived.Deep.RegionWith
import Derived.Deep.WholeRow
import Derived.Defers
import Derived.Great.BuildSlice
import Derived.Laws.Cover1
import Derived.Laws.EntriesVeiled
import Derived.Laws.IdiomStrings
import Derived.Lib.AppendIntMem
import Derived.Lib.AtoiErrMem
import Derived.Lib.IndexMore
import Derived.Lib.ItoaMem
import Derived.Lib.LaidTab
import Derived.Lib.MinMax
import Derived.Lib.OthersKept
import Derived.Lib.Replace
import Derived.Lib.ReplaceLaws
import Derived.Lib.SmallJoins
import Derived.Lib.Walk
import Derived.LoopIn
import Derived.LoopNIn
import Derived.LoopTactic
import Derived.Maps.AppendAt
import Derived.OwnWalkIn
import Derived.RangeFuncBound
import Derived.RangeFuncBox
import Derived.RangeFuncCalls
import Derived.RangeFuncLeaves
import Derived.RangeFuncNested
import Derived.Recover
import Derived.Shelf.Abstract
import Derived.Shelf.RegionOpen
import Derived.TacticsInMore
import Derived.WalkKit
import Derived.WalkLawsBesides
import Derived.WalkSmall
import Derived.WalkSpells
import Derived.WideShapes
namespace Go.Proofs.YtklldmidcmfbdaaGreatDoor
section
open Go.RowKit
/-- All texts of some nodes can be. -/
def okF : Fo → Prop
  | .nil => True
  | .cons h k r => (h.vs.length ≤ maxLen ∧ h.txt.length ≤ maxLen) ∧ okF k ∧ okF r
/-- A node read in its row. -/
theorem wpl_loadAt {ops : Array Oper} {rest : List Oper} {o : Oper} {a : Act} {w : World} {Q : Exit → Act → World → Prop} (hgd : o.guard = none) (x : Operand) (ho : o.op = .load 68 x)
    (b i : Nat) (hx : a.eval x = .pointer (some ⟨b, i, none⟩)) {h : Hd} {v : Value} (hc : ∀ j, j < 16 → w.cell? ⟨b, i + j, none⟩ = (hdC h v)[j]?)
    (hk : wpList Tryz.prog ops Q rest (a.put o.dst (.agg (hdC h v).toArray)) w) : wpList Tryz.prog ops Q (o :: rest) a w :=
  wpList_load_mid hgd 68 x ho b i hx (hdC h v) _ (fun j u hu => by
    have hj : j < 16 := (List.getElem?_eq_some_iff.1 hu).1
    rw [hc j hj]; exact hu) Tryz.underlying68 rfl (by rw [sizeNode]; rfl) hk
def RightC (k : Fo) : Prop :=
  ∀ (D : Nat → Prop) (h : Hd) (b o : Nat) (w : World), (∀ c, D c → c < w.heap.size) → Row w D (.cons h k .nil) b o → h.vs.length ≤ maxLen → h.txt.length ≤ maxLen → okF k →
    Calls Tryz.prog 41 #[.pointer (some ⟨b, o, none⟩)] w fun e w' => e = .returned (.bool (rightN h k)) ∧ Below w.heap.size w w'
def RightA : Fo → Prop
  | .nil => True
  | .cons _ k r => RightC k ∧ RightA r
set_option maxRecDepth 100000 in
set_option maxHeartbeats 2000000 in
theorem right_step (k : Fo) (hA : RightA k) : RightC k := by
  intro D h b o w hD hrow hv ht hok
  obtain ⟨hDb, ⟨v, hcell, a, n, cap, rfl, hn, hk⟩, _⟩ := hrow
  subst hn
  have hbz := hD b hDb
  have hc15 : w.cell? ⟨b, o + 15, none⟩ = some (.slice a k.len cap) := hcell 15 (by omega)
  have HC := hide hcell
  have HAl : Hid (∀ W : World, Calls Tryz.prog 65 #[.agg (hdC h (.slice a k.len cap)).toArray] W fun e w' => e = .returned (.bool (aloneB h k.len)) ∧ Below W.heap.size W w') := fun W => rightAlone_any h a k.len cap W hv ht
  have hR : rightN h k = (aloneB h k.len && allB k) := rfl
  have HKi := hide hk
  have HA := hide hA
  have HOk := hide hok
  clear hk hA hok hcell hv ht
  cases hal : aloneB h k.len with
  | false =>
    rw [hal] at HAl hR
    rw [hR]
    clear hR hal
    go_enter Tryz.func41, Tryz.ntmps41
    go_wp2_with (first | (with_reducible refine wpl_id ?_; refine wpl_loadAt rfl _ rfl _ _ rfl HC.out ?_) | (go_at_call 65; refine (HAl.out _).mono ?_; rintro e w1 ⟨rfl, hb1⟩; have HB1 := hide hb1; clear hb1))
    go_ret
    exact ⟨by simp, HB1.out⟩
  | true =>
    rw [hal] at HAl hR
    have hR2 : rightN h k = allB k := by rw [hR]; simp
    rw [hR2]
    clear hR hal hR2
    go_enter Tryz.func41, Tryz.ntmps41
    go_wp2_with (first | (with_reducible refine wpl_id ?_; refine wpl_loadAt rfl _ rfl _ _ rfl HC.out ?_) | (go_at_call 65; refine (HAl.out _).mono ?_; rintro e w1 ⟨rfl, hb1⟩; have HB1 := hide hb1; have c1 := hb1.cell (p := ⟨b, o + 15, none⟩) hbz; rw [hc15] at c1; clear hb1))
    go_loopw [14, 3] (fun u _ wr => ∃ (i : Nat) (F : Fo), u = .int .i64 (i : Int) ∧ i + F.len = k.len ∧ (F = .nil ∨ ∃ b' o', a = some ⟨b', o', none⟩ ∧ k.len ≤ cap ∧ cap ≤ maxLen ∧ Row w D F b' (o' + i * 16)) ∧ RightA F ∧ okF F ∧ Below w.heap.size w wr ∧ allB k = allB F) (fun u _ _ => k.len - (intOf u).toNat)
    case atStart =>
      refine ⟨0, k, rfl, by omega, ?_, HA.out, HOk.out, HB1.out, rfl⟩
      rcases HKi.out with e | ⟨b', o', e1, e2, e3, e4⟩
      · exact .inl e
      · exact .inr ⟨b', o', e1, e2, e3, by simpa using e4⟩
    case round =>
      obtain ⟨i, F, rfl, hl, hF, hAF, hOF, hB, hq⟩ := hrel
      have HQ := hide hq
      have HB := hide hB
      have hsz := hB.size
      have hcb : wr.cell? ⟨b, o + 15, none⟩ = some (.slice a k.len cap) := by rw [hB.cell (p := ⟨b, o + 15, none⟩) hbz]; exact hc15
      clear hq hB c1
      match F, hl, hF, hAF, hOF, HQ with
      | .nil, hl, _, _, _, HQ =>
        have hli : ¬ (i : Int) < (k.len : Int) := by simp [Fo.len] at hl; omega
        go_wp2
        go_ret
        exact ⟨by rw [HQ.out]; rfl, HB.out⟩
      | .cons h1 k1 r1, hl, hF, hAF, hOF, HQ =>
        have hli : (i : Int) < (k.len : Int) := by simp [Fo.len] at hl; omega
        have hl2 : i + 1 + r1.len = k.len := by simp [Fo.len] at hl; omega
        obtain ⟨b', o', rfl, hcap1, hcap2, hrw⟩ : ∃ b' o', a = some ⟨b', o', none⟩ ∧ k.len ≤ cap ∧ cap ≤ maxLen ∧ Row w D (.cons h1 k1 r1) b' (o' + i * 16) := by
          rcases hF with e | e
          · cases e
          · exact e
        obtain ⟨p1, p2, p3⟩ := hrw
        have HR1 : Hid (Row wr D (.cons h1 k1 .nil) b' (o' + i * 16)) := row_to (fun c hc => ⟨hc, HB.out.block c (hD c hc)⟩) _ _ _ (show Row w D (.cons h1 k1 .nil) b' (o' + i * 16) from ⟨p1, p2, trivial⟩)
        have HR2 : Hid (Row w D r1 b' (o' + (i + 1) * 16)) := by rw [show o' + (i + 1) * 16 = o' + i * 16 + 16 by omega]; exact p3
        unfold maxLen at hcap2
        obtain ⟨hA1, hA2⟩ := hAF
        obtain ⟨hO1, hO2, hO3⟩ := hOF
        have HA2 := hide hA2
        have HO3 := hide hO3
        have HC2 : Hid (∀ W : World, wr.heap.size ≤ W.heap.size → Row W D (.cons h1 k1 .nil) b' (o' + i * 16) → Calls Tryz.prog 41 #[.pointer (some ⟨b', o' + i * 16, none⟩)] W fun e w' => e = .returned (.bool (rightN h1 k1)) ∧ Below W.heap.size W w') := fun W hle hW => hA1 D h1 b' (o' + i * 16) W (fun c hc => Nat.lt_of_lt_of_le (hD c hc) (Nat.le_trans hsz hle)) hW hO1.1 hO1.2 hO2
        have HN : Hid (allB k = (rightN h1 k1 && allB r1)) := HQ.out
        clear p1 p2 p3 hF hl hA1 hO1 hO2 hO3 hA2 HQ
        cases hrn : rightN h1 k1 with
        | false =>
          rw [hrn] at HC2 HN
          go_wp2_with (first | (go_at_call 41; refine (HC2.out _ (Nat.le_refl _) HR1.out).mono ?_; rintro e w2 ⟨rfl, hb2⟩; have HB2 := hide hb2; clear hb2))
          go_ret
          exact ⟨by rw [HN.out]; rfl, HB.out.trans (HB2.out.mono hsz)⟩
        | true =>
          rw [hrn] at HC2 HN
          go_wp2_with (first | (go_at_call 41; refine (HC2.out _ (Nat.le_refl _) HR1.out).mono ?_; rintro e w2 ⟨rfl, hb2⟩; have HB2 := hide hb2; clear hb2))
          go_roundw
          case rel => exact ⟨i + 1, r1, by go_num, by omega, .inr ⟨b', o', rfl, hcap1, by unfold maxLen; exact hcap2, HR2.out⟩, HA2.out, HO3.out, HB.out.trans (HB2.out.mono hsz), by rw [HN.out]; simp⟩
          case measure => simp [intOf]; omega
theorem right_all : ∀ (F : Fo), RightA F
  | .nil => trivial
  | .cons _ k r => ⟨right_step k (right_all k), right_all r⟩
/-- What Check tells, where there are at most 4096 nodes. -/
def checkN (h : Hd) (k : Fo) : Int := if 160 < k.deep + 1 then 6 else if rightN h k = false then 2 else if 40 < k.deep + 1 then 6 else 0
set_option maxHeartbeats 1000000 in
theorem check_node (D : Nat → Prop) (h : Hd) (k : Fo) (a : Option Addr) (n cap : Nat) (w : World) (hD : ∀ c, D c → c < w.heap.size) (hk : Kv w D (.slice a n cap) k) (hm : k.many + 1 ≤ 4096) (hv : h.vs.length ≤ maxLen) (ht : h.txt.length ≤ maxLen) (ho : okF k) :
    Calls Tryz.prog 31 #[.agg (hdC h (.slice a n cap)).toArray] w fun e w' => e = .returned (.int .i64 (checkN h k)) ∧ Below w.heap.size w w' := by
  have HR : Hid (∀ W : World, Below (w.heap.size + 1) (w.alloc (.cells (hdC h (.slice a n cap)).toArray 68)) W → Row W (fun c => c < w.heap.size + 1) (.cons h k .nil) w.heap.size 0) := fun W hW => by
    refine node_at (pre := []) (rest := []) (t := 68) (fz := (0, 0)) ?_ rfl (by omega) (kv_to hk (fun c hc => ⟨by have := hD c hc; omega, ?_⟩)) trivial
    · rw [hW.block _ (by omega)]
      simpa using heap_alloc_new w _
    · rw [hW.block _ (by have := hD c hc; omega), Below.heap_alloc _ _ _ (hD c hc)]
  have HM : Hid (∀ W : World, Below (w.heap.size + 1) (w.alloc (.cells (hdC h (.slice a n cap)).toArray 68)) W → Calls Tryz.prog 40 #[.pointer (some ⟨w.heap.size, 0, none⟩)] W fun e w' => e = .returned (.tuple #[.int .i64 ((if k.deep + 1 ≤ 160 then k.deep + 1 else 0 : Nat) : Int), .int .i64 ((if k.deep + 1 ≤ 160 then 0 else 6 : Nat) : Int)]) ∧ Below W.heap.size W w') := fun W hW => measure_any (fun c => c < w.heap.size + 1) h k w.heap.size 0 W (fun c hc => by have := hW.size; simp at this; omega) (HR.out W hW) hm
  have HG : Hid (∀ W : World, Below (w.heap.size + 1) (w.alloc (.cells (hdC h (.slice a n cap)).toArray 68)) W → Calls Tryz.prog 41 #[.pointer (some ⟨w.heap.size, 0, none⟩)] W fun e w' => e = .returned (.bool (rightN h k)) ∧ Below W.heap.size W w') := fun W hW => right_step k (right_all k) (fun c => c < w.heap.size + 1) h w.heap.size 0 W (fun c hc => by have := hW.size; simp at this; omega) (HR.out W hW) hv ht ho
  unfold checkN
  clear hk hm hv ht ho HR
  by_cases h1 : k.deep + 1 ≤ 160
  · rw [if_pos h1, if_pos h1] at HM
    rw [if_neg (by omega)]
    generalize k.deep + 1 = dd at *
    cases h2 : rightN h k with
    | false =>
      rw [h2] at HG
      rw [if_pos rfl]
      go_enter Tryz.func31, Tryz.ntmps31
      go_wp2_with (first | (go_at_call 40; refine (HM.out _ (Below.refl _ _)).mono ?_; rintro e w1 ⟨rfl, hb1⟩; have HB1 := hide hb1; clear hb1) | (go_at_call 41; refine (HG.out _ (HB1.out.mono (by simp))).mono ?_; rintro e w2 ⟨rfl, hb2⟩; have HB2 := hide hb2; clear hb2))
      go_ret
      have b1 := HB1.out
      have b2 := HB2.out
      exact ⟨rfl, by repeat' (first | with_reducible exact Below.refl _ _ | with_reducible refine Below.setCell ?_ ?_ _ | with_reducible refine Below.alloc ?_ ?_ _ | with_reducible refine below_drewN ?_ _ | with_reducible refine Below.drew ?_ | with_reducible refine Below.trans ?_ (Below.mono (by assumption) ?_) | with_reducible exact Nat.le_refl _ | with_reducible refine Nat.le_trans ?_ (Below.size (by assumption)) | with_reducible refine Nat.le_trans ?_ (size_alloc _ _) | with_reducible refine Nat.le_trans ?_ (size_set _ _ _) | with_reducible refine Nat.le_trans ?_ (size_drewN _ _) | with_reducible refine Nat.le_trans ?_ (size_drew _) | (simp; done) | (simp; omega) | omega)⟩
    | true =>
      rw [h2] at HG
      rw [if_neg (by simp)]
      by_cases h3 : 40 < dd
      · have h3' : (40 : Int) < (dd : Int) := by omega
        rw [if_pos h3]
        go_enter Tryz.func31, Tryz.ntmps31
        go_wp2_with (first | (go_at_call 40; refine (HM.out _ (Below.refl _ _)).mono ?_; rintro e w1 ⟨rfl, hb1⟩; have HB1 := hide hb1; clear hb1) | (go_at_call 41; refine (HG.out _ (HB1.out.mono (by simp))).mono ?_; rintro e w2 ⟨rfl, hb2⟩; have HB2 := hide hb2; clear hb2))
        go_ret
        have b1 := HB1.out
        have b2 := HB2.out
        exact ⟨rfl, by repeat' (first | with_reducible exact Below.refl _ _ | with_reducible refine Below.setCell ?_ ?_ _ | with_reducible refine Below.alloc ?_ ?_ _ | with_reducible refine below_drewN ?_ _ | with_reducible refine Below.drew ?_ | with_reducible refine Below.trans ?_ (Below.mono (by assumption) ?_) | with_reducible exact Nat.le_refl _ | with_reducible refine Nat.le_trans ?_ (Below.size (by assumption)) | with_reducible refine Nat.le_trans ?_ (size_alloc _ _) | with_reducible refine Nat.le_trans ?_ (size_set _ _ _) | with_reducible refine Nat.le_trans ?_ (size_drewN _ _) | with_reducible refine Nat.le_trans ?_ (size_drew _) | (simp; done) | (simp; omega) | omega)⟩
      · have h3' : ¬ (40 : Int) < (dd : Int) := by omega
        rw [if_neg h3]
        go_enter Tryz.func31, Tryz.ntmps31
        go_wp2_with (first | (go_at_call 40; refine (HM.out _ (Below.refl _ _)).mono ?_; rintro e w1 ⟨rfl, hb1⟩; have HB1 := hide hb1; clear hb1) | (go_at_call 41; refine (HG.out _ (HB1.out.mono (by simp))).mono ?_; rintro e w2 ⟨rfl, hb2⟩; have HB2 := hide hb2; clear hb2))
        go_ret
        have b1 := HB1.out
        have b2 := HB2.out
        exact ⟨rfl, by repeat' (first | with_reducible exact Below.refl _ _ | with_reducible refine Below.setCell ?_ ?_ _ | with_reducible refine Below.alloc ?_ ?_ _ | with_reducible refine below_drewN ?_ _ | with_reducible refine Below.drew ?_ | with_reducible refine Below.trans ?_ (Below.mono (by assumption) ?_) | with_reducible exact Nat.le_refl _ | with_reducible refine Nat.le_trans ?_ (Below.size (by assumption)) | with_reducible refine Nat.le_trans ?_ (size_alloc _ _) | with_reducible refine Nat.le_trans ?_ (size_set _ _ _) | with_reducible refine Nat.le_trans ?_ (size_drewN _ _) | with_reducible refine Nat.le_trans ?_ (size_drew _) | (simp; done) | (simp; omega) | omega)⟩
  · rw [if_neg h1, if_neg h1] at HM
    rw [if_pos (by omega)]
    go_enter Tryz.func31, Tryz.ntmps31
    go_wp2_with (first | (go_at_call 40; refine (HM.out _ (Below.refl _ _)).mono ?_; rintro e w1 ⟨rfl, hb1⟩; have HB1 := hide hb1; clear hb1))
    go_ret
    have b1 := HB1.out
    exact ⟨rfl, by repeat' (first | with_reducible exact Below.refl _ _ | with_reducible refine Below.setCell ?_ ?_ _ | with_reducible refine Below.alloc ?_ ?_ _ | with_reducible refine below_drewN ?_ _ | with_reducible refine Below.drew ?_ | with_reducible refine Below.trans ?_ (Below.mono (by assumption) ?_) | with_reducible exact Nat.le_refl _ | with_reducible refine Nat.le_trans ?_ (Below.size (by assumption)) | with_reducible refine Nat.le_trans ?_ (size_alloc _ _) | with_reducible refine Nat.le_trans ?_ (size_set _ _ _) | with_reducible refine Nat.le_trans ?_ (size_drewN _ _) | with_reducible refine Nat.le_trans ?_ (size_drew _) | (simp; done) | (simp; omega) | omega)⟩
end
section
open Go.RowKit
/-- A token that a text may have. -/
def FitT (t : Tok) : Prop := (t.kind = 1 → constB (valH t) = true) ∧ (t.kind = 2 → Pla.placeB t.row t.col = true) ∧ (t.kind = 3 → nameOk t.txt = true)
def Fits (l : List Tok) : Prop := ∀ t ∈ l, FitT t
theorem fit_zt : FitT zt := ⟨fun h => absurd h (by decide), fun h => absurd h (by decide), fun h => absurd h (by decide)⟩
theorem Fits.hd {l : List Tok} (h : Fits l) : FitT (hd l) := by
  cases l with
  | nil => exact fit_zt
  | cons a l => exact h a (by simp)
theorem Fits.tail {l : List Tok} (h : Fits l) : Fits l.tail := fun t ht => h t (List.mem_of_mem_tail ht)
theorem val_right {t : Tok} (h : constB (valH t) = true) : rightN (valH t) .nil = true := by
  simp only [rightN, aloneB, valH, allB] at *
  simp [noCell, noTo, Fo.len]; exact h
theorem cell_right {t : Tok} (h : Pla.placeB t.row t.col = true) : rightN (cellH t) .nil = true := by
  simp only [rightN, aloneB, cellH, allB] at *
  simp [noVal, noTo, Fo.len]; exact h
theorem range_right {t u : Tok} (h : Pla.placeB t.row t.col = true) (h' : Pla.placeB u.row u.col = true) : rightN (rangeH t u) .nil = true := by
  simp only [rightN, aloneB, rangeH, allB] at *
  simp [noVal, Fo.len]; exact ⟨h, h'⟩
theorem call_right {s : List UInt8} {k : Fo} (h : nameOk s = true) (hk : allB k = true) : rightN (callH s) k = true := by
  simp only [rightN, aloneB, callH, hk]
  simp [noVal, noCell, noTo]; exact h
theorem neg_right {h : Hd} {k : Fo} (e : rightN h k = true) : rightN negH (.cons h k .nil) = true := by
  simp only [rightN, Bool.and_eq_true] at e
  have h1 : aloneB negH 1 = true := by simp [aloneB, negH, noVal, noCell, noTo]
  show (aloneB negH 1 && (aloneB h k.len && allB k && true)) = true
  rw [h1, e.1, e.2]; rfl
theorem bin_right {s : List UInt8} {h h' : Hd} {k k' : Fo} (hs : 0 < bindN s) (e : rightN h k = true) (e' : rightN h' k' = true) : rightN (binH s) (.cons h k (.cons h' k' .nil)) = true := by
  simp only [rightN, Bool.and_eq_true] at e e'
  have h1 : aloneB (binH s) 2 = true := by simp [aloneB, binH, noVal, noCell, noTo, hs]
  show (aloneB (binH s) 2 && (aloneB h k.len && allB k && (aloneB h' k'.len && allB k' && true))) = true
  rw [h1, e.1, e.2, e'.1, e'.2]; rfl
theorem allB_snoc : ∀ (a : Fo) (h : Hd) (k : Fo), allB a = true → rightN h k = true → allB (a.snoc h k) = true
  | .nil, h, k, _, e => by simp only [Fo.snoc, allB]; simpa [rightN] using e
  | .cons h' k' r, h, k, ea, e => by
    simp only [allB, Bool.and_eq_true] at ea
    simp only [Fo.snoc, allB, Bool.and_eq_true]
    exact ⟨ea.1, allB_snoc r h k ea.2 e⟩
theorem many_snoc : ∀ (a : Fo) (h : Hd) (k : Fo), (a.snoc h k).many = a.many + k.many + 1
  | .nil, h, k => by simp [Fo.snoc, Fo.many]
  | .cons h' k' r, h, k => by simp only [Fo.snoc, Fo.many, many_snoc r h k]; omega
/-- What has been read is right. -/
def accR : Cmd → Prop
  | .loop _ h k => rightN h k = true
  | .kids k => allB k = true
  | _ => True
def accN : Cmd → Nat
  | .loop _ _ k => k.many + 1
  | .kids k => k.many
  | _ => 0
def outR : Cmd → Hd → Fo → Prop
  | .kids _, _, k => allB k = true
  | _, h, k => rightN h k = true
def outN : Cmd → Fo → Nat
  | .kids _, k => k.many
  | _, k => k.many + 1
theorem go_right : ∀ (f : Nat) (c : Cmd) (l : List Tok), fine c → Fits l → accR c → ∀ h k r, go f c l = .ok h k r → Fits r ∧ outR c h k ∧ outN c k + r.length ≤ l.length + accN c
  | 0, _, _, _, _, _, _, _, _, e => by simp [go] at e
  | f + 1, .form m, l, hm, he, _, h, k, r, e => by
    rw [go] at e
    cases e1 : go f .single l with
    | bad r => rw [e1] at e; cases e
    | ok h1 k1 r1 =>
      rw [e1] at e
      obtain ⟨a1, a2, a3⟩ := go_right f .single l trivial he trivial _ _ _ e1
      obtain ⟨b1, b2, b3⟩ := go_right f (.loop m h1 k1) r1 hm a1 a2 _ _ _ e
      refine ⟨b1, b2, ?_⟩
      simp only [outN, accN] at a3 b3 ⊢
      omega
  | f + 1, .loop m h0 k0, l, hm, he, ha, h, k, r, e => by
    rw [go] at e
    split at e
    · cases e; exact ⟨he, ha, by simp only [outN, accN]; omega⟩
    · rename_i hb
      simp only [fine] at hm
      have ht := tail_bind (l := l) (by omega)
      cases e1 : go f (.form (bindN (hd l).txt + 1)) l.tail with
      | bad r => rw [e1] at e; cases e
      | ok h1 k1 r1 =>
        rw [e1] at e
        obtain ⟨a1, a2, a3⟩ := go_right f (.form (bindN (hd l).txt + 1)) l.tail (by simp [fine]) he.tail trivial _ _ _ e1
        obtain ⟨b1, b2, b3⟩ := go_right f (.loop m _ _) r1 hm a1 (bin_right (by omega) ha a2) _ _ _ e
        refine ⟨b1, b2, ?_⟩
        simp only [outN, accN, Fo.many] at a3 b3 ⊢
        omega
  | f + 1, .single, l, hm, he, _, h, k, r, e => by
    simp only [outN, outR, accN]
    rw [go] at e
    split at e
    · rename_i h1
      have ht := tail_kind (l := l) (by omega)
      cases e; exact ⟨he.tail, val_right (he.hd.1 h1), by simp only [Fo.many]; omega⟩
    · split at e
      · rename_i h1
        have ht := tail_kind (l := l) (by omega)
        split at e
        · rename_i h2
          have ht2 := tail_lt h2
          split at e
          · rename_i h3
            have ht3 := tail_kind (l := l.tail.tail) (by omega)
            cases e; exact ⟨he.tail.tail.tail, range_right (he.hd.2.1 h1) (he.tail.tail.hd.2.1 h3), by simp only [Fo.many]; omega⟩
          · cases e
        · cases e; exact ⟨he.tail, cell_right (he.hd.2.1 h1), by simp only [Fo.many]; omega⟩
      · split at e
        · rename_i h1
          have ht := tail_kind (l := l) (by omega)
          split at e
          · rename_i h2
            have ht2 := tail_lt h2
            split at e
            · rename_i h3
              have ht3 := tail_lt h3
              cases e; exact ⟨he.tail.tail.tail, call_right (he.hd.2.2 h1) rfl, by simp only [Fo.many]; omega⟩
            · cases e1 : go f (.kids .nil) l.tail.tail with
              | bad r => rw [e1] at e; cases e
              | ok h1' k1 r1 =>
                rw [e1] at e
                obtain ⟨a1, a2, a3⟩ := go_right f (.kids .nil) l.tail.tail trivial he.tail.tail rfl _ _ _ e1
                simp only [outN, accN, Fo.many] at a3
                simp only at e
                split at e
                · rename_i h3
                  have ht3 := tail_lt h3
                  cases e; exact ⟨a1.tail, call_right (he.hd.2.2 h1) a2, by omega⟩
                · cases e
          · cases e
        · split at e
          · rename_i h2
            have ht2 := tail_lt h2
            cases e1 : go f .single l.tail with
            | bad r => rw [e1] at e; cases e
            | ok h1 k1 r1 =>
              rw [e1] at e
              obtain ⟨a1, a2, a3⟩ := go_right f .single l.tail trivial he.tail trivial _ _ _ e1
              simp only [outN, accN] at a3
              cases e; exact ⟨a1, neg_right a2, by simp only [Fo.many]; omega⟩
          · split at e
            · rename_i h2
              have ht2 := tail_lt h2
              cases e1 : go f (.form 1) l.tail with
              | bad r => rw [e1] at e; cases e
              | ok h1 k1 r1 =>
                rw [e1] at e
                obtain ⟨a1, a2, a3⟩ := go_right f (.form 1) l.tail (by simp [fine]) he.tail trivial _ _ _ e1
                simp only [outN, accN] at a3
                simp only at e
                split at e
                · rename_i h3
                  have ht3 := tail_lt h3
                  cases e; exact ⟨a1.tail, a2, by omega⟩
                · cases e
            · cases e
  | f + 1, .kids acc, l, hm, he, ha, h, k, r, e => by
    rw [go] at e
    cases e1 : go f (.form 1) l with
    | bad r => rw [e1] at e; cases e
    | ok h1 k1 r1 =>
      rw [e1] at e
      obtain ⟨a1, a2, a3⟩ := go_right f (.form 1) l (by simp [fine]) he trivial _ _ _ e1
      simp only [outN, accN] at a3
      simp only at e
      split at e
      · rename_i h3
        have ht3 := tail_lt h3
        obtain ⟨b1, b2, b3⟩ := go_right f (.kids (acc.snoc h1 k1)) r1.tail trivial a1.tail (allB_snoc acc h1 k1 ha a2) _ _ _ e
        refine ⟨b1, b2, ?_⟩
        simp only [outN, accN, many_snoc] at b3 ⊢
        omega
      · cases e
        refine ⟨a1, allB_snoc acc h1 k1 ha a2, ?_⟩
        simp only [outN, accN, many_snoc]
        omega
end
section
open Go.RowKit
theorem fit_of {t : Tok} (h : FitT t) (p : Int) : FitT (t.put p) := h
theorem fit_op {t : Tok} (h : t.kind = 4) : FitT t := ⟨fun e => by omega, fun e => by omega, fun e => by omega⟩
theorem fit_val {vk vn : Int} {vs : List UInt8} {vb : Bool} {vc : Int} (h : constB (valH (valTok vk vn vs vb vc)) = true) : FitT (valTok vk vn vs vb vc) :=
  ⟨fun _ => h, fun e => absurd e (by simp [valTok]), fun e => absurd e (by simp [valTok])⟩
/-- A number's text without a minus. -/
theorem parse_ge {l : List UInt8} (h : (parseR l).2 = 0) (hm : Lib.hasPrefix l [45] = false) : fitsB (parseR l).1 = true ∧ 0 ≤ (parseR l).1 := by
  unfold parseR at *
  split at h
  · exact absurd h (by simp)
  · rename_i h40
    rw [if_neg h40]
    split at h
    · rename_i hok
      rw [if_pos hok]
      have hg := (gatherN_bd (all_digits hok (fun hn => by rw [cut_none hn]))).1
      rw [hm] at h ⊢
      simp only [put, Bool.false_eq_true, if_false] at h ⊢
      unfold told at *
      split at h
      · rename_i hf
        rw [if_pos hf]; exact ⟨hf, hg⟩
      · exact absurd h (by simp)
    · exact absurd h (by simp)
theorem fit_number {c : UInt8} (r : List UInt8) (h : isDig c = true) : FitT (numberT (c :: r)).1 := by
  unfold numberT
  split
  · rename_i h0
    have hn : numB c = true := by unfold numB; simp [h]
    have hm : Lib.hasPrefix ((c :: r).take (runN numB (c :: r))) [45] = false := by
      have h1 : 1 ≤ runN numB (c :: r) := run_pos hn
      obtain ⟨j, hj⟩ : ∃ j, runN numB (c :: r) = j + 1 := ⟨runN numB (c :: r) - 1, by omega⟩
      rw [hj, List.take_succ_cons]
      have hc := isDig_iff.1 h
      have : c ≠ 45 := fun e => by rw [e] at hc; exact absurd hc (by decide)
      simp [Lib.hasPrefix, List.isPrefixOf, Ne.symm this]
    obtain ⟨h1, h2⟩ := parse_ge h0 hm
    refine fit_val ?_
    simp only [constB, valH, valTok, rightB]
    simp [h1, h2]
  · exact fit_zt
theorem fit_text (l : List UInt8) : FitT (textT l).1 := by
  unfold textT
  cases e : txt l.tail with
  | none => exact fit_zt
  | some x =>
    show FitT (if 255 < x.1.length then (zt, 0, 7) else (valTok 2 0 x.1 false 0, x.2 + 1, (0 : Int)) : Tok × Nat × Int).1
    split
    · exact fit_zt
    · rename_i h
      refine fit_val ?_
      simp only [constB, valH, valTok, rightB]
      have : (⟨x.1.toArray⟩ : ByteArray).size = x.1.length := by show x.1.toArray.size = _; simp
      simp [this]; omega
theorem fit_fault (l : List UInt8) : FitT (faultT l).1 := by
  unfold faultT
  cases e : pick nameL l 1 7 with
  | none => exact fit_zt
  | some k =>
    obtain ⟨h1, h2, _⟩ := pick_some e
    refine fit_val ?_
    have h3 : (1 : Int) ≤ (k : Int) := by omega
    have h4 : (k : Int) ≤ 7 := by omega
    simp only [constB, valH, valTok, rightB]
    simp [h3, h4]
theorem fit_sign (l : List UInt8) : FitT (signT l).1 := by
  unfold signT
  cases pick signL l 0 15 with
  | none => exact fit_zt
  | some k => exact fit_op rfl
theorem fold_name {c : UInt8} (h : wordB c = true) (hd : c.toNat ≠ 36) : nameC (foldB c) = true := by
  unfold wordB letterB isDig at h
  simp only [Bool.or_eq_true, decide_eq_true_eq, Bool.and_eq_true] at h
  unfold nameC greatB digitB
  simp only [Bool.or_eq_true, Bool.and_eq_true, decide_eq_true_eq]
  by_cases hs : 97 ≤ c.toNat ∧ c.toNat ≤ 122
  · rw [foldB_in hs.1 hs.2]; omega
  · rw [foldB_out hs]; omega
theorem fold_great {c : UInt8} (h : letterB c = true) : greatB (foldB c) = true := by
  unfold letterB at h
  simp only [Bool.or_eq_true, decide_eq_true_eq] at h
  unfold greatB
  simp only [Bool.and_eq_true, decide_eq_true_eq]
  by_cases hs : 97 ≤ c.toNat ∧ c.toNat ≤ 122
  · rw [foldB_in hs.1 hs.2]; omega
  · rw [foldB_out hs]; omega
theorem take_run {p : UInt8 → Bool} (l : List UInt8) : l.take (runN p l) = l.takeWhile p := by
  unfold runN
  induction l with
  | nil => rfl
  | cons c l ih =>
    rw [List.takeWhile_cons]
    split
    · simp [ih]
    · rfl
theorem fit_name {c : UInt8} (r : List UInt8) (h : letterB c = true ∨ c.toNat = 36) : FitT (nameT ((c :: r).take (runN wordB (c :: r)))).1 := by
  have hw : wordB c = true := by unfold wordB; rcases h with h | h <;> simp [h]
  rw [take_run]
  have hall : ((c :: r).takeWhile wordB).all wordB = true := List.all_takeWhile
  rw [List.takeWhile_cons, if_pos hw] at hall ⊢
  generalize r.takeWhile wordB = q at *
  unfold nameT
  split
  · exact fit_zt
  · rename_i hn
    simp only [Bool.or_eq_true, not_or, decide_eq_true_eq, Bool.not_eq_true] at hn
    obtain ⟨h1, h2⟩ := hn
    refine ⟨fun e => absurd e (by simp [nameTok]), fun e => absurd e (by simp [nameTok]), fun _ => ?_⟩
    have hc : letterB c = true := by
      rcases h with h | h
      · exact h
      · simp [h] at h1
    simp only [nameTok, nameOk, foldL, List.map_cons, List.headD_cons, List.isEmpty_cons, Bool.not_false, Bool.true_and, List.length_cons, List.length_map, List.all_cons, Bool.and_eq_true, decide_eq_true_eq, List.all_map]
    simp only [List.any_cons, Bool.or_eq_false_iff, decide_eq_false_iff_not] at h1
    simp only [List.all_cons, Bool.and_eq_true] at hall
    refine ⟨⟨by simpa using h2, fold_great hc⟩, fold_name hall.1 h1.1, ?_⟩
    rw [List.all_eq_true]
    intro x hx
    exact fold_name (List.all_eq_true.1 hall.2 x hx) (fun e => by have := List.any_eq_false.1 h1.2 x hx; simp [e] at this)
theorem fit_plain (w : List UInt8) : FitT (plainT w).1 := by
  unfold plainT
  split
  · refine fit_val ?_
    simp only [constB, valH, valTok, rightB]
    simp
  · split
    · rename_i h
      refine ⟨fun e => absurd e (by simp [cellTok]), fun _ => ?_, fun e => absurd e (by simp [cellTok])⟩
      simp only [cellTok]
      unfold Pla.parseR at *
      split at h
      · exact absurd h (by simp)
      · rename_i h0
        rw [if_neg h0]
        split at h
        · rename_i h1
          rw [if_pos h1]; exact h1
        · exact absurd h (by simp)
    · exact fit_zt
theorem fit_first (l : List UInt8) : FitT (firstT l).1 := by
  match l with
  | [] => exact fit_zt
  | c :: r =>
    show FitT (if isDig c then _ else _ : Tok × Nat × Int).1
    split
    · exact fit_number r (by assumption)
    · split
      · exact fit_text _
      · split
        · exact fit_fault _
        · split
          · rename_i h
            unfold wordT
            split
            · exact fit_name r (by simpa using h)
            · exact fit_plain _
          · exact fit_sign _
theorem fit_run : ∀ (f p : Nat) (l : List UInt8), ∀ x ∈ runG f p l, FitT x.1
  | 0, _, _, x, h => by simp [runG] at h
  | f + 1, p, l, x, h => by
    rw [run_step f p l _ rfl _ rfl] at h
    simp only [List.mem_cons] at h
    rcases h with rfl | h
    · exact fit_of (fit_first _) _
    · split at h
      · simp at h
      · exact fit_run f _ _ x h
theorem fit_scan (l : List UInt8) : Fits (scanR l).1 := by
  by_cases h : (scanR l).2.2 = 0
  · obtain ⟨_, _, h3⟩ := scan_zero h
    rw [h3]
    intro t ht
    simp only [List.mem_map] at ht
    obtain ⟨x, hx, rfl⟩ := ht
    exact fit_run _ _ _ x hx
  · rw [scan_bad h]; intro t ht; simp at ht
end
section
open Go.RowKit
theorem scan_ended {l : List UInt8} (h : (scanR l).2.2 = 0) : Ended (scanR l).1 := by
  obtain ⟨h1, h2, h3⟩ := scan_zero h
  have he := run_end l.length (l.length + 1) 0 l (Nat.le_refl _) (by omega) h2
  rw [h3]
  obtain ⟨i, hi⟩ : ∃ i, allG l = i ++ [(zt.put ((0 + l.length : Nat) : Int), 0)] := by
    have := List.getLast?_eq_some_iff.1 he
    exact this
  refine ⟨i.map (fun x => x.1), zt.put ((0 + l.length : Nat) : Int), ?_, rfl, rfl⟩
  show (allG l).map _ = _
  rw [hi]; simp
theorem scan_len {l : List UInt8} (h : (scanR l).2.2 = 0) : (scanR l).1.length ≤ 1025 := by
  obtain ⟨h1, h2, h3⟩ := scan_zero h
  have := all_len l
  rw [h3]; simp; omega
/-- What Parse tells: a node, or where and why not. -/
inductive Pr where
  | ok : Hd → Fo → Pr
  | no : Int → Int → Pr
def endR : Rs → Pr
  | .bad l => .no (hd l).pos 5
  | .ok h k l => if (hd l).kind ≠ 0 then .no (hd l).pos 5 else if 40 < k.deep + 1 then .no 0 6 else .ok h k
def parseN (l : List UInt8) : Pr := if (scanR l).2.2 ≠ 0 then .no (scanR l).2.1 (scanR l).2.2 else endR (rd (.form 1) (scanR l).1)
/-- A node that was read out of a text's tokens. -/
theorem read_right {l : List UInt8} (h : (scanR l).2.2 = 0) {hh : Hd} {k : Fo} {r : List Tok} (e : rd (.form 1) (scanR l).1 = .ok hh k r) : rightN hh k = true ∧ k.many + 1 ≤ 1025 := by
  obtain ⟨_, h2, h3⟩ := go_right _ (.form 1) _ (by simp [fine]) (fit_scan l) trivial _ _ _ e
  refine ⟨h2, ?_⟩
  have := scan_len h
  simp only [outN, accN] at h3
  omega
end
section
open Go.RowKit
theorem first_open (r : List UInt8) : firstT (40 :: r) = (opTok [40], 1, 0) := by
  have hd : isDig 40 = false := by decide
  have hl : letterB 40 = false := by decide
  have he : firstT (40 :: r) = if isDig 40 then numberT (40 :: r) else if (40 : UInt8).toNat = 34 then textT (40 :: r) else if (40 : UInt8).toNat = 35 then faultT (40 :: r) else if letterB 40 || decide ((40 : UInt8).toNat = 36) then wordT (40 :: r) else signT (40 :: r) := rfl
  rw [he, if_neg (by simp [hd]), if_neg (by decide), if_neg (by decide), if_neg (by simp [hl])]
  have hp : pick signL (40 :: r) 0 15 = some 11 := by
    simp [pick, Lib.hasPrefix, List.isPrefixOf, signL, signs]
  unfold signT
  rw [hp]; rfl
theorem prefix_one {l : List UInt8} (h : Lib.hasPrefix l [40] = true) : ∃ r, l = 40 :: r := by
  cases l with
  | nil => simp [Lib.hasPrefix, List.isPrefixOf] at h
  | cons c r =>
    simp [Lib.hasPrefix, List.isPrefixOf] at h
    exact ⟨r, by rw [h]⟩
theorem word_name {l : List UInt8} (h : (wordT l).1.kind = 3) : ∃ r, l.drop (wordT l).2.1 = 40 :: r := by
  have hle : runN wordB l ≤ l.length := run_le _ _
  unfold wordT at *
  split at h
  · rename_i hp
    rw [if_pos hp]
    unfold nameT at *
    split at h
    · exact absurd h (by simp [zt])
    · rename_i hn
      rw [if_neg hn]
      show ∃ r, l.drop (l.take (runN wordB l)).length = 40 :: r
      rw [List.length_take, Nat.min_eq_left hle]
      exact prefix_one hp
  · unfold plainT at h
    split at h
    · exact absurd h (by simp [valTok])
    · split at h
      · exact absurd h (by simp [cellTok])
      · exact absurd h (by simp [zt])
theorem first_name {l : List UInt8} (h : (firstT l).1.kind = 3) : ∃ r, l.drop (firstT l).2.1 = 40 :: r := by
  match l with
  | [] => exact absurd h (by simp [firstT, zt])
  | c :: r =>
    have he : firstT (c :: r) = if isDig c then numberT (c :: r) else if c.toNat = 34 then textT (c :: r) else if c.toNat = 35 then faultT (c :: r) else if letterB c || decide (c.toNat = 36) then wordT (c :: r) else signT (c :: r) := rfl
    rw [he] at h ⊢
    split at h
    · unfold numberT at h
      split at h
      · exact absurd h (by simp [valTok])
      · exact absurd h (by simp [zt])
    · rename_i n1
      split at h
      · unfold textT at h
        cases e : txt (c :: r).tail with
        | none => rw [e] at h; exact absurd h (by simp [textOfT, zt])
        | some x =>
          rw [e] at h
          unfold textOfT at h
          simp only at h
          split at h
          · exact absurd h (by simp [zt])
          · exact absurd h (by simp [valTok])
      · rename_i n2
        split at h
        · unfold faultT at h
          cases e : pick nameL (c :: r) 1 7 with
          | none => rw [e] at h; exact absurd h (by simp [faultOfT, zt])
          | some x => rw [e] at h; exact absurd h (by simp [faultOfT, valTok])
        · rename_i n3
          split at h
          · rename_i n4
            rw [if_neg n1, if_neg n2, if_neg n3, if_pos n4]
            exact word_name h
          · unfold signT at h
            cases e : pick signL (c :: r) 0 15 with
            | none => rw [e] at h; exact absurd h (by simp [signOfT, zt])
            | some x => rw [e] at h; exact absurd h (by simp [signOfT, opTok])
/-- A name has its bracket behind it. -/
def Named : List Tok → Prop
  | [] => True
  | t :: r => (t.kind = 3 → atB r [40] = true) ∧ Named r
theorem run_open (f p : Nat) (r : List UInt8) : ∃ q y, (runG (f + 1) p (40 :: r)).map (fun x => x.1) = (opTok [40]).put q :: y := by
  have hb : runN blankB (40 :: r) = 0 := by simp [runN, blankB]
  rw [run_step f p (40 :: r) 0 hb _ (first_open r)]
  exact ⟨_, _, rfl⟩
theorem run_named : ∀ (f p : Nat) (l : List UInt8), l.length < f → Named ((runG f p l).map fun x => x.1)
  | 0, _, _, h => absurd h (by omega)
  | f + 1, p, l, h => by
    rw [run_step f p l _ rfl _ rfl]
    have hbl : runN blankB l ≤ l.length := run_le _ _
    have hg := good_first (l.drop (runN blankB l))
    simp only [List.map_cons]
    by_cases h0 : (firstT (l.drop (runN blankB l))).1.kind = 0
    · rw [if_pos h0]
      exact ⟨fun e => absurd (h0.symm.trans e) (by decide), trivial⟩
    · rw [if_neg h0]
      have hlt : ((l.drop (runN blankB l)).drop (firstT (l.drop (runN blankB l))).2.1).length < f := by
        rcases hg with ⟨e, _⟩ | ⟨_, _, e1, e2, _⟩
        · exact absurd e h0
        · rw [List.length_drop]
          have : (l.drop (runN blankB l)).length ≤ l.length := by simp
          omega
      refine ⟨fun e => ?_, run_named f _ _ hlt⟩
      obtain ⟨r, hr⟩ := first_name (l := l.drop (runN blankB l)) e
      rw [hr] at hlt ⊢
      obtain ⟨g, rfl⟩ : ∃ g, f = g + 1 := ⟨f - 1, by simp at hlt; omega⟩
      obtain ⟨q, y, hy⟩ := run_open g (p + runN blankB l + (firstT (l.drop (runN blankB l))).2.1) r
      rw [hy]; rfl
theorem scan_named {l : List UInt8} (h : (scanR l).2.2 = 0) : Named (scanR l).1 := by
  obtain ⟨h1, h2, h3⟩ := scan_zero h
  rw [h3]
  exact run_named _ _ _ (by omega)
end
end Go.Proofs.YtklldmidcmfbdaaGreatDoor
