/-
  Out of Small, Near, Mul, Round, Digits, Print, Parse, TextMath, RefRound, RefRound2, RefParseMath, RefPrint, RefPrint2, what is asked for (laid by pack9.py).
-/
import Derived.Test.YtfpmmckpobpokaaGreatM0
import Derived.BigCall
import Derived.BigGuard
import Derived.BigQuiet
import Derived.Deep.QuietTactic
import Derived.Deep.RegionWith
import Derived.Laws.EntriesVeiled
import Derived.Lib.AppendIntMem
import Derived.Lib.IndexLaws
import Derived.Lib.IndexMore
import Derived.Lib.ItoaMem
import Derived.Lib.SmallJoins
import Derived.Lib.TrimByte
import Derived.Lib.Walk
import Derived.Shelf.Strings.Shaped
import Derived.WalkLawsBesides
import Derived.WalkSpells
import Derived.WideShapes
set_option maxRecDepth 100000
set_option maxHeartbeats 4000000
namespace Go.Proofs.YtfpmmckpobpokaaGreat
section
open Go.RowKit
theorem hide {p : Prop} (h : p) : Hid p := h
def fitsB (n : Int) : Bool := decide (-1000000000000000000 ≤ n) && decide (n ≤ 1000000000000000000)
theorem fitsB_true {n : Int} (h : fitsB n = true) : -1000000000000000000 ≤ n ∧ n ≤ 1000000000000000000 := by
 unfold fitsB at h; simp at h; exact h
theorem fitsB_of {n : Int} (h1 : -1000000000000000000 ≤ n) (h2 : n ≤ 1000000000000000000) : fitsB n = true := by
 unfold fitsB; simp; exact ⟨h1, h2⟩
theorem fitsB_not {n : Int} (h : n < -1000000000000000000 ∨ 1000000000000000000 < n) : fitsB n = false := by
 unfold fitsB; simp; omega
def told (n : Int) : Int × Int := if fitsB n then (n, 0) else (0, 3)
theorem fits_any (n : Int) (w : World) :
  Calls Tryz.prog 147 #[.int .i64 n] w fun e w' => e = .returned (.bool (fitsB n)) ∧ w' = w := by
 by_cases h1 : -1000000000000000000 ≤ n
 ·
  by_cases h2 : n ≤ 1000000000000000000
  ·
   go_enter Tryz.func147, Tryz.ntmps147
   go_wp2
   go_ret
   exact ⟨by rw [fitsB_of (by omega) (by omega)]; rfl, rfl⟩
  ·
   go_enter Tryz.func147, Tryz.ntmps147
   go_wp2
   go_ret
   exact ⟨by rw [fitsB_not (by omega)]; rfl, rfl⟩
 ·
  go_enter Tryz.func147, Tryz.ntmps147
  go_wp2
  go_ret
  exact ⟨by rw [fitsB_not (by omega)]; rfl, rfl⟩
theorem rfits_any (n : Int) (w : World) :
  Calls Tryz.prog 101 #[.int .i64 n] w fun e w' => e = .returned (.bool (fitsB n)) ∧ w' = w := by
 by_cases h1 : -1000000000000000000 ≤ n
 ·
  by_cases h2 : n ≤ 1000000000000000000
  ·
   go_enter Tryz.func101, Tryz.ntmps101
   go_wp2
   go_ret
   exact ⟨by rw [fitsB_of (by omega) (by omega)]; rfl, rfl⟩
  ·
   go_enter Tryz.func101, Tryz.ntmps101
   go_wp2
   go_ret
   exact ⟨by rw [fitsB_not (by omega)]; rfl, rfl⟩
 ·
  go_enter Tryz.func101, Tryz.ntmps101
  go_wp2
  go_ret
  exact ⟨by rw [fitsB_not (by omega)]; rfl, rfl⟩
end
section
open Go.RowKit
def absI (n : Int) : Int := if n < 0 then -n else n
theorem absI_neg {n : Int} (h : n < 0) : absI n = -n := by simp [absI, h]
theorem absI_pos {n : Int} (h : 0 ≤ n) : absI n = n := by unfold absI; rw [if_neg (by omega)]
theorem absI_nn (n : Int) : 0 ≤ absI n := by unfold absI; split <;> omega
theorem absI_le {n B : Int} (h1 : -B ≤ n) (h2 : n ≤ B) : absI n ≤ B := by unfold absI; split <;> omega
end
section
open Go.RowKit
def put (neg : Bool) (q : Int) : Int := if neg then -q else q
end
section
open Go.RowKit
def p10 (k : Nat) : Int := 10 ^ k
theorem p10_succ (k : Nat) : p10 (k + 1) = p10 k * 10 := by unfold p10; rw [Int.pow_succ]
theorem p10_pos (k : Nat) : 0 < p10 k := by unfold p10; exact Int.pow_pos (by decide)
end
section
open Go.RowKit
def isDig (c : UInt8) : Bool := decide (48 ≤ c.toNat) && decide (c.toNat ≤ 57)
def digB (l : List UInt8) : Bool := l.all isDig && !l.isEmpty
theorem isDig_iff {c : UInt8} : isDig c = true ↔ 48 ≤ c.toNat ∧ c.toNat ≤ 57 := by unfold isDig; simp
theorem isDig_not {c : UInt8} : isDig c = false ↔ c.toNat < 48 ∨ 57 < c.toNat := by
 unfold isDig; simp; omega
def gath (n : Int) (c : UInt8) : Int := min (n * 10 + ((c.toNat : Int) - 48)) 1000000000000000001
def gatherN (l : List UInt8) : Int := l.foldl gath 0
theorem gath_bd {n : Int} {c : UInt8} (hn : 0 ≤ n) (hc : 48 ≤ c.toNat) : 0 ≤ gath n c ∧ gath n c ≤ 1000000000000000001 := by
 unfold gath; omega
theorem fold_bd : ∀ (l : List UInt8) (n : Int), 0 ≤ n → n ≤ 1000000000000000001 → l.all isDig = true → 0 ≤ l.foldl gath n ∧ l.foldl gath n ≤ 1000000000000000001
 | [], n, h0, h1, _ => ⟨h0, h1⟩
 | c :: l, n, h0, _, h => by
  rw [List.all_cons, Bool.and_eq_true] at h
  have hb := gath_bd h0 (isDig_iff.1 h.1).1
  exact fold_bd l _ hb.1 hb.2 h.2
theorem gatherN_bd {l : List UInt8} (h : l.all isDig = true) : 0 ≤ gatherN l ∧ gatherN l ≤ 1000000000000000001 := fold_bd l 0 (by decide) (by decide) h
end
section
open Go.RowKit Go.Sort Go.Lib
def frac6 (m : Int) : List UInt8 := (Lib.decDigits (m % 1000000 + 1000000).toNat).tail
def fracT (m : Int) : List UInt8 := Lib.trimRightB (frac6 m) 48
def textOf (n : Int) : List UInt8 :=
 (if n < 0 then [45] else []) ++ Lib.decDigits (absI n / 1000000).toNat ++ (if fracT (absI n) = [] then [] else 46 :: fracT (absI n))
theorem dec_len {u : Nat} (h : u < 18446744073709551616) : (Lib.decDigits u).length ≤ 20 := by
 rw [Lib.decDigits_length]
 by_cases h1 : 1 ≤ u
 ·
  have := Lib.numDigits_eq u h1 h; split at this <;> omega
 ·
  have : u = 0 := by omega
  subst this
  rw [Lib.nDigits_small (by omega)]; omega
theorem dec_pos (u : Nat) : 1 ≤ (Lib.decDigits u).length := by
 rw [Lib.decDigits_length]
 by_cases h : u < 10
 ·
  rw [Lib.nDigits_small h]; exact Nat.le_refl _
 ·
  rw [Lib.nDigits_big h]; omega
theorem extract_tail (B : List UInt8) : ((⟨B.toArray⟩ : ByteArray).extract 1 B.length).data.toList = B.tail := by
 simp [ByteArray.extract, ByteArray.copySlice]
 exact List.take_of_length_le (by simp)
theorem ba_app (a b : List UInt8) : (⟨a.toArray⟩ : ByteArray) ++ ⟨b.toArray⟩ = ⟨(a ++ b).toArray⟩ := ByteArray.ext (by simp)
end
section
open Go.RowKit
def okB (c : List UInt8 × List UInt8 × Bool) : Bool := digB c.1 && (!c.2.2 || (digB c.2.1 && decide (c.2.1.length ≤ 6)))
def allDigits (c : List UInt8 × List UInt8 × Bool) : List UInt8 := c.1 ++ c.2.1 ++ List.replicate (6 - c.2.1.length) 48
def parseR (l : List UInt8) : Int × Int :=
 if 40 < l.length then (0, 5)
 else if okB (Lib.cut (Lib.trimPrefix l [45]) [46]) then told (put (Lib.hasPrefix l [45]) (gatherN (allDigits (Lib.cut (Lib.trimPrefix l [45]) [46])))) else (0, 5)
theorem cut_none {s sep : List UInt8} (h : (Lib.cut s sep).2.2 = false) : Lib.cut s sep = (s, [], false) := by
 unfold Lib.cut at *
 split at h
 ·
  cases h
 ·
  rename_i c; rw [if_neg c]
theorem ok_digits {c : List UInt8 × List UInt8 × Bool} (h : okB c = true) (hn : c.2.2 = false → c.2.1 = []) : c.1.all isDig = true ∧ c.2.1.all isDig = true ∧ c.2.1.length ≤ 6 := by
 unfold okB digB at h
 obtain ⟨x, y, p⟩ := c
 cases p
 ·
  have := hn rfl
  simp at this h ⊢
  subst this
  exact ⟨fun a ha => h.1 a ha, by simp, by simp⟩
 ·
  simp at h ⊢
  exact ⟨h.1.1, h.2.1.1, h.2.2⟩
theorem all_digits {c : List UInt8 × List UInt8 × Bool} (h : okB c = true) (hn : c.2.2 = false → c.2.1 = []) : (allDigits c).all isDig = true := by
 obtain ⟨h1, h2, _⟩ := ok_digits h hn
 unfold allDigits
 rw [List.all_append, List.all_append, h1, h2, List.all_replicate]
 have : isDig 48 = true := by decide
 rw [this]; simp
end
section
open Go.RowKit
def vstep (n : Int) (c : UInt8) : Int := n * 10 + ((c.toNat : Int) - 48)
def val (l : List UInt8) : Int := l.foldl vstep 0
theorem fold_min : ∀ (l : List UInt8) (a : Int), 0 ≤ a → l.all isDig = true → l.foldl gath (min a 1000000000000000001) = min (l.foldl vstep a) 1000000000000000001
 | [], _, _, _ => rfl
 | c :: l, a, ha, h => by
  rw [List.all_cons, Bool.and_eq_true] at h
  have hc := isDig_iff.1 h.1
  rw [List.foldl_cons, List.foldl_cons]
  have e : gath (min a 1000000000000000001) c = min (vstep a c) 1000000000000000001 := by unfold gath vstep; omega
  rw [e]
  exact fold_min l _ (by unfold vstep; omega) h.2
theorem gather_val {l : List UInt8} (h : l.all isDig = true) : gatherN l = min (val l) 1000000000000000001 := fold_min l 0 (by decide) h
theorem fold_base : ∀ (l : List UInt8) (a : Int), l.foldl vstep a = a * p10 l.length + val l
 | [], a => by simp [val, p10]
 | c :: l, a => by
  have h1 := fold_base l (vstep a c)
  have h2 := fold_base l (vstep 0 c)
  unfold val
  rw [List.foldl_cons, List.foldl_cons, h1, h2, List.length_cons, p10_succ]
  have e : vstep a c = a * 10 + vstep 0 c := by unfold vstep; omega
  rw [e, Int.add_mul, Int.mul_assoc, Int.mul_comm 10]
  omega
theorem val_app (a b : List UInt8) : val (a ++ b) = val a * p10 b.length + val b := by
 have := fold_base b (val a)
 unfold val at *
 rw [List.foldl_append]; exact this
theorem val_cons (c : UInt8) (l : List UInt8) : val (c :: l) = ((c.toNat : Int) - 48) * p10 l.length + val l := by
 have := fold_base l (vstep 0 c)
 unfold val at *
 rw [List.foldl_cons, this]
 unfold vstep; simp
theorem val_bd : ∀ {l : List UInt8}, l.all isDig = true → 0 ≤ val l ∧ val l < p10 l.length
 | [], _ => by simp [val, p10]
 | c :: l, h => by
  rw [List.all_cons, Bool.and_eq_true] at h
  have hc := isDig_iff.1 h.1
  have hb := val_bd h.2
  rw [val_cons, List.length_cons, p10_succ]
  have h1 : 0 ≤ ((c.toNat : Int) - 48) * p10 l.length := Int.mul_nonneg (by omega) (by omega)
  have h2 : ((c.toNat : Int) - 48) * p10 l.length ≤ 9 * p10 l.length := Int.mul_le_mul_of_nonneg_right (by omega) (by omega)
  omega
theorem dig_ofNat {r : Nat} (h : r < 10) : isDig (UInt8.ofNat (48 + r)) = true ∧ ((UInt8.ofNat (48 + r)).toNat : Int) - 48 = r := by
 have e : (UInt8.ofNat (48 + r)).toNat = 48 + r := by rw [UInt8.toNat_ofNat']; omega
 exact ⟨isDig_iff.2 (by omega), by omega⟩
theorem index_here : ∀ (W F : List UInt8), W.all isDig = true → Lib.index (W ++ 46 :: F) [46] = W.length
 | [], F, _ => by simp [Lib.index]
 | c :: W, F, h => by
  rw [List.all_cons, Bool.and_eq_true] at h
  have hc := isDig_iff.1 h.1
  have hne : (46 : UInt8) ≠ c := fun e => by subst e; simp at hc
  have ih := index_here W F h.2
  rw [List.cons_append, Lib.index, ih]
  have e : List.isPrefixOf [46] (c :: (W ++ 46 :: F)) = false := by simp [List.isPrefixOf, hne]
  rw [e]
  have e2 : ((W.length : Int) == -1) = false := by rw [beq_eq_false_iff_ne]; omega
  rw [e2]; simp
theorem index_none : ∀ (W : List UInt8), W.all isDig = true → Lib.index W [46] = -1
 | [], _ => by simp [Lib.index]
 | c :: W, h => by
  rw [List.all_cons, Bool.and_eq_true] at h
  have hc := isDig_iff.1 h.1
  have hne : (46 : UInt8) ≠ c := fun e => by subst e; simp at hc
  have ih := index_none W h.2
  rw [Lib.index, ih]
  have e : List.isPrefixOf [46] (c :: W) = false := by simp [List.isPrefixOf, hne]
  rw [e]; rfl
theorem cut_dot {W F : List UInt8} (h : W.all isDig = true) : Lib.cut (W ++ 46 :: F) [46] = (W, F, true) := by
 unfold Lib.cut
 rw [index_here W F h, if_pos (by omega), Int.toNat_natCast]
 simp
theorem cut_bare {W : List UInt8} (h : W.all isDig = true) : Lib.cut W [46] = (W, [], false) := by
 unfold Lib.cut
 rw [index_none W h, if_neg (by decide)]
theorem digB_of {l : List UInt8} (h : l.all isDig = true) (hn : l ≠ []) : digB l = true := by
 unfold digB; rw [h]; cases l with
 | nil => exact absurd rfl hn
 | cons _ _ => rfl
end
section
open Go.RowKit
theorem rsize_any (n : Int) (w : World) (h1 : -1000000000000000000 ≤ n) (h2 : n ≤ 1000000000000000000) :
  Calls Tryz.prog 145 #[.int .i64 n] w fun e w' => e = .returned (.int .i64 (absI n)) ∧ w' = w := by
 by_cases h : n < 0
 ·
  have E := hide (absI_neg h)
  go_enter Tryz.func145, Tryz.ntmps145
  go_wp2
  go_ret
  exact ⟨by rw [E.out]; simp [Int.max_def]; omega, rfl⟩
 ·
  have E := hide (absI_pos (n := n) (by omega))
  go_enter Tryz.func145, Tryz.ntmps145
  go_wp2
  go_ret
  exact ⟨by rw [E.out]; simp [Int.max_def]; omega, rfl⟩
end
section
open Go.RowKit
theorem told_put {q : Int} (neg : Bool) (h0 : 0 ≤ q) : told (put neg q) = if 1000000000000000000 < q then (0, 3) else (put neg q, 0) := by
 unfold told put
 by_cases h : 1000000000000000000 < q
 ·
  rw [if_pos h, if_neg]
  cases neg
  ·
   rw [fitsB_not (by simp; omega)]; decide
  ·
   rw [fitsB_not (by simp; omega)]; decide
 ·
  rw [if_neg h, if_pos]
  cases neg
  ·
   exact fitsB_of (by simp; omega) (by simp; omega)
  ·
   exact fitsB_of (by simp; omega) (by simp; omega)
end
section
open Go.RowKit
theorem val_nn {l : List UInt8} (h : l.all isDig = true) : 0 ≤ val l := (val_bd h).1
theorem val_snoc (l : List UInt8) (c : UInt8) : val (l ++ [c]) = val l * 10 + ((c.toNat : Int) - 48) := by
 unfold val; rw [List.foldl_append]; rfl
theorem take_getD (r : List UInt8) (k : Nat) (h : k < r.length) : r.take (k + 1) = r.take k ++ [r.getD k 0] := by
 rw [List.take_succ_eq_append_getElem h]
 simp [h]
theorem ba_at (r : List UInt8) (k : Nat) : ∀ (hh : k < (⟨r.toArray⟩ : ByteArray).size), (⟨r.toArray⟩ : ByteArray)[k]'hh = r.getD k 0 := by
 intro hh
 have h : k < r.length := by
  have : k < r.toArray.size := hh
  rwa [List.size_toArray] at this
 rw [ByteArray.getElem_eq_getElem_data]
 simp [h]
def lead (r : List UInt8) : Nat := (r.takeWhile isDig).length
theorem lead_le (r : List UInt8) : lead r ≤ r.length := (List.takeWhile_sublist _).length_le
theorem lead_take (r : List UInt8) : r.take (lead r) = r.takeWhile isDig := by
 have h := List.takeWhile_append_dropWhile (p := isDig) (l := r)
 unfold lead
 rw [show List.take (r.takeWhile isDig).length r = List.take (r.takeWhile isDig).length (r.takeWhile isDig ++ r.dropWhile isDig) from by rw [h], List.take_left]
theorem lead_dig (r : List UInt8) : (r.take (lead r)).all isDig = true := by rw [lead_take]; exact List.all_takeWhile
theorem lead_at {r : List UInt8} {k : Nat} (h : k < lead r) : isDig (r.getD k 0) = true := by
 have h1 := lead_dig r
 rw [List.all_eq_true] at h1
 have h2 := lead_le r
 have h3 : k < r.length := by omega
 refine h1 _ ?_
 rw [List.mem_take_iff_getElem]
 exact ⟨k, by omega, by simp [h3]⟩
theorem lead_cons (c : UInt8) (r : List UInt8) : lead (c :: r) = if isDig c then lead r + 1 else 0 := by
 unfold lead
 cases h : isDig c <;> simp [h]
theorem lead_stop : ∀ {r : List UInt8}, lead r < r.length → isDig (r.getD (lead r) 0) = false
 | [], h => absurd h (by simp)
 | c :: r, h => by
  cases hc : isDig c
  ·
   rw [lead_cons, hc]; exact hc
  ·
   have e : lead (c :: r) = lead r + 1 := by rw [lead_cons, hc]; rfl
   rw [e] at h ⊢
   have ih := lead_stop (r := r) (by simpa using h)
   simpa using ih
def bodyR (neg : Bool) (r : List UInt8) : Int × Int := if okB (Lib.cut r [46]) then told (put neg (gatherN (allDigits (Lib.cut r [46])))) else (0, 5)
theorem parse_body {l : List UInt8} (h : l.length ≤ 40) : parseR l = bodyR (Lib.hasPrefix l [45]) (Lib.trimPrefix l [45]) := by
 unfold parseR bodyR; rw [if_neg (by omega)]
theorem body_bare {neg : Bool} {W : List UInt8} (h : W.all isDig = true) (hn : W ≠ []) : bodyR neg W = if 1000000000000000000 < val W * 1000000 then (0, 3) else (put neg (val W * 1000000), 0) := by
 unfold bodyR
 rw [cut_bare h]
 have hok : okB (W, [], false) = true := by simp [okB, digB_of h hn]
 have hv := val_nn h
 have hall := all_digits hok (fun _ => rfl)
 have e : val (allDigits (W, [], false)) = val W * 1000000 := by
  have e1 : allDigits (W, [], false) = W ++ [48, 48, 48, 48, 48, 48] := by simp [allDigits]
  have e2 : p10 (List.length ([48, 48, 48, 48, 48, 48] : List UInt8)) = 1000000 := by decide
  have e3 : val ([48, 48, 48, 48, 48, 48] : List UInt8) = 0 := by decide
  rw [e1, val_app, e2, e3]; omega
 rw [if_pos hok, gather_val hall, e, told_put neg (by omega)]
 by_cases hb : 1000000000000000000 < val W * 1000000
 ·
  rw [if_pos hb, if_pos (by omega)]
 ·
  rw [if_neg hb, if_neg (by omega), show min (val W * 1000000) 1000000000000000001 = val W * 1000000 by omega]
theorem body_empty {neg : Bool} : bodyR neg [] = (0, 5) := by
 unfold bodyR; rw [cut_bare (W := []) rfl]; rfl
theorem body_dot0 {neg : Bool} {F : List UInt8} : bodyR neg (46 :: F) = (0, 5) := by
 have h := cut_dot (W := []) (F := F) rfl
 rw [List.nil_append] at h
 unfold bodyR; rw [h]; rfl
theorem body_dot_no {neg : Bool} {W F : List UInt8} (h : W.all isDig = true) (hf : (digB F && decide (F.length ≤ 6)) = false) : bodyR neg (W ++ 46 :: F) = (0, 5) := by
 unfold bodyR
 rw [cut_dot h]
 have hok : okB (W, F, true) = false := by simp only [okB, Bool.not_true, Bool.false_or, hf, Bool.and_false]
 rw [hok]; rfl
theorem body_dot {neg : Bool} {W F : List UInt8} (h : W.all isDig = true) (hn : W ≠ []) (hF : F.all isDig = true) (hFn : F ≠ []) (h6 : F.length ≤ 6) :
  bodyR neg (W ++ 46 :: F) = if 1000000000000000000 < val W * 1000000 + val F * p10 (6 - F.length) then (0, 3) else (put neg (val W * 1000000 + val F * p10 (6 - F.length)), 0) := by
 unfold bodyR
 rw [cut_dot h]
 have hok : okB (W, F, true) = true := by simp [okB, digB_of h hn, digB_of hF hFn, h6]
 have hv := val_nn h
 have hfv := val_nn hF
 have hp := p10_pos (6 - F.length)
 have hm : 0 ≤ val F * p10 (6 - F.length) := Int.mul_nonneg hfv (by omega)
 have hall := all_digits hok (fun h => by cases h)
 have e : val (allDigits (W, F, true)) = val W * 1000000 + val F * p10 (6 - F.length) := by
  unfold allDigits
  show val (W ++ F ++ List.replicate (6 - F.length) 48) = _
  have z : ∀ k : Nat, val (List.replicate k 48) = 0 := by
   intro k
   induction k with
   | zero => rfl
   | succ k ih => rw [List.replicate_succ, val_cons, ih]; simp
  have e1 : p10 F.length * p10 (6 - F.length) = 1000000 := by
   have : F.length = 0 ∨ F.length = 1 ∨ F.length = 2 ∨ F.length = 3 ∨ F.length = 4 ∨ F.length = 5 ∨ F.length = 6 := by omega
   rcases this with h | h | h | h | h | h | h <;> rw [h] <;> decide
  rw [val_app, val_app, z, List.length_replicate, Int.add_mul, Int.mul_assoc, e1]; omega
 rw [if_pos hok, gather_val hall, e, told_put neg (by omega)]
 generalize val W * 1000000 + val F * p10 (6 - F.length) = N at *
 by_cases hb : 1000000000000000000 < N
 ·
  rw [if_pos hb, if_pos (by omega)]
 ·
  rw [if_neg hb, if_neg (by omega), show min N 1000000000000000001 = N by omega]
theorem index_ge : ∀ (Y : List UInt8), -1 ≤ Lib.index Y [46]
 | [] => by simp [Lib.index]
 | c :: Y => by
  have ih := index_ge Y
  rw [Lib.index]
  split
  ·
   omega
  ·
   split
   ·
    omega
   ·
    omega
theorem index_skip : ∀ (P Y : List UInt8), (∀ c ∈ P, c ≠ 46) → Lib.index (P ++ Y) [46] = if Lib.index Y [46] = -1 then -1 else P.length + Lib.index Y [46]
 | [], Y, _ => by
  split
  ·
   rename_i h; rw [List.nil_append, h]
  ·
   simp
 | c :: P, Y, h => by
  have hne : (46 : UInt8) ≠ c := fun e => h c (by simp) e.symm
  have ih := index_skip P Y (fun c hc => h c (by simp [hc]))
  rw [List.cons_append, Lib.index, ih]
  have e : List.isPrefixOf [46] (c :: (P ++ Y)) = false := by simp [List.isPrefixOf, hne]
  rw [e]
  by_cases hy : Lib.index Y [46] = -1
  ·
   rw [if_pos hy, if_pos hy]; rfl
  ·
   rw [if_neg hy, if_neg hy]
   have hi := index_ge Y
   have e2 : ((P.length : Int) + Lib.index Y [46] == -1) = false := by rw [beq_eq_false_iff_ne]; omega
   rw [e2]; simp; omega
theorem body_bad {neg : Bool} {W X : List UInt8} {c : UInt8} (h : W.all isDig = true) (hc : isDig c = false) (h46 : c ≠ 46) : bodyR neg (W ++ c :: X) = (0, 5) := by
 have hP : ∀ x ∈ W ++ [c], x ≠ 46 := by
  intro x hx e
  rw [List.mem_append] at hx
  rcases hx with hx | hx
  ·
   have := isDig_iff.1 (List.all_eq_true.1 h x hx)
   subst e; simp at this
  ·
   have hx' : x = c := by simpa using hx
   exact h46 (hx'.symm.trans e)
 have hno : ∀ Y : List UInt8, digB (W ++ c :: Y) = false := by
  intro Y; unfold digB; rw [List.all_append, List.all_cons, hc]; simp
 have hi := index_skip (W ++ [c]) X hP
 rw [List.append_assoc, List.singleton_append] at hi
 have hok : okB (Lib.cut (W ++ c :: X) [46]) = false := by
  unfold Lib.cut
  rw [hi]
  by_cases hy : Lib.index X [46] = -1
  ·
   rw [if_pos hy, if_neg (by decide)]
   unfold okB; rw [hno]; rfl
  ·
   rw [if_neg hy]
   have hg := index_ge X
   have hx : 0 ≤ Lib.index X [46] := by omega
   rw [if_pos (by omega)]
   have e : (W ++ c :: X).take (((W ++ [c]).length : Int) + Lib.index X [46]).toNat = W ++ c :: X.take (Lib.index X [46]).toNat := by
    obtain ⟨j, hj⟩ := Int.eq_ofNat_of_zero_le hx
    rw [hj, Int.toNat_natCast, show (((W ++ [c]).length : Int) + (j : Int)).toNat = (W ++ [c]).length + j by omega]
    rw [show W ++ c :: X = (W ++ [c]) ++ X by simp, List.take_length_add_append]; simp
   unfold okB
   rw [e, hno]; rfl
 unfold bodyR; rw [hok]; rfl
end
section
open Go.RowKit
theorem one_byte (w : World) (u : Nat) (c : UInt8) (hc : (c.toNat : Int) = 48 + (u : Int) % 10) : (convert 155 9 (.slice (some ⟨w.heap.size, 0, none⟩) 1 1)).run Tryz.prog (w.alloc (.cells #[.int .u8 (48 + (u : Int) % 10)] 5)) = .ok (.string ⟨([c] : List UInt8).toArray⟩) (w.alloc (.cells #[.int .u8 (48 + (u : Int) % 10)] 5)) := by
 have h := run_convert_bytes_back (P := Tryz.prog) (w.alloc (.cells #[.int .u8 (48 + (u : Int) % 10)] 5)) 155 9 5 ⟨w.heap.size, 0, none⟩ 1 [c] Tryz.underlying155 Tryz.underlying5 Tryz.underlying9 (fun j hj => by
  have : j = 0 := by simpa using hj
  subst this
  show (w.alloc (.cells #[.int .u8 (48 + (u : Int) % 10)] 5)).cell? (Addr.add ⟨w.heap.size, 0, none⟩ 0) = some (.int .u8 (c.toNat : Int))
  rw [hc]
  exact World.cell?_alloc_new _ _ _ 0)
 exact h
theorem dig_byte (u : Nat) : ((UInt8.ofNat (48 + u % 10)).toNat : Int) = 48 + (u : Int) % 10 := by
 have := (dig_ofNat (r := u % 10) (by omega)).2
 omega
theorem rdigits_ind : ∀ (k : Nat) (u : Nat) (w : World), u ≤ k → u ≤ 4000000000000000000 →
  Calls Tryz.prog 130 #[.int .i64 u] w fun e w' => e = .returned (.string ⟨(Lib.decDigits u).toArray⟩) ∧ Below w.heap.size w w' := by
 intro k
 induction k with
 | zero =>
  intro u w hk hu
  have h : u < 10 := by omega
  have hcv := one_byte w u _ (dig_byte u)
  have HE : Hid (Lib.decDigits u = [UInt8.ofNat (48 + u % 10)]) := by
   show Lib.decDigits u = _
   rw [Lib.decDigits, dif_pos h, Nat.mod_eq_of_lt h]
  generalize UInt8.ofNat (48 + u % 10) = c at *
  go_enter Tryz.func130, Tryz.ntmps130
  go_wp2
  go_ret
  exact ⟨by rw [HE.out]; rfl, (Below.refl _ _).alloc (Nat.le_refl _) _⟩
 | succ k ih =>
  intro u w hk hu
  have IH := hide ih
  clear ih
  have hcv := one_byte w u _ (dig_byte u)
  by_cases h : u < 10
  ·
   have HE : Hid (Lib.decDigits u = [UInt8.ofNat (48 + u % 10)]) := by
    show Lib.decDigits u = _
    rw [Lib.decDigits, dif_pos h, Nat.mod_eq_of_lt h]
   generalize UInt8.ofNat (48 + u % 10) = c at *
   go_enter Tryz.func130, Tryz.ntmps130
   go_wp2
   go_ret
   exact ⟨by rw [HE.out]; rfl, (Below.refl _ _).alloc (Nat.le_refl _) _⟩
  ·
   have HE : Hid (Lib.decDigits u = Lib.decDigits (u / 10) ++ [UInt8.ofNat (48 + u % 10)]) := by
    show Lib.decDigits u = _
    rw [Lib.decDigits, dif_neg h]
   have HI : Hid (∀ W : World, Calls Tryz.prog 130 #[.int .i64 ((u : Int) / 10)] W fun e w' => e = .returned (.string ⟨(Lib.decDigits (u / 10)).toArray⟩) ∧ Below W.heap.size W w') := fun W => by
    have := IH.out (u / 10) W (by omega) (by omega)
    rw [show ((u / 10 : Nat) : Int) = (u : Int) / 10 from by omega] at this
    exact this
   have hl := dec_len (u := u / 10) (by omega)
   clear IH
   generalize UInt8.ofNat (48 + u % 10) = c at *
   generalize Lib.decDigits (u / 10) = D at *
   go_enter Tryz.func130, Tryz.ntmps130
   go_wp2_with (go_at_call 130; refine (HI.out _).mono ?_; rintro e w1 ⟨rfl, b1⟩)
   go_ret
   refine ⟨by rw [HE.out, ← ba_app]; rfl, ?_⟩
   exact ((Below.refl _ _).alloc (Nat.le_refl _) _).trans (b1.mono (by simp))
theorem rdigits_any (u : Int) (w : World) (h0 : 0 ≤ u) (h1 : u ≤ 4000000000000000000) :
  Calls Tryz.prog 130 #[.int .i64 u] w fun e w' => e = .returned (.string ⟨(Lib.decDigits u.toNat).toArray⟩) ∧ Below w.heap.size w w' := by
 obtain ⟨n, rfl⟩ := Int.eq_ofNat_of_zero_le h0
 rw [Int.toNat_natCast]
 exact rdigits_ind n n w (Nat.le_refl _) (by omega)
end
section
open Go.RowKit
theorem ba_tail (B : List UInt8) : (⟨B.toArray⟩ : ByteArray).extract 1 B.length = ⟨B.tail.toArray⟩ := Go.WideShapes.bytes_inj (by rw [extract_tail])
def strLen : Value → Nat
 | .string s => s.size
 | _ => 0
theorem trim_snoc (h : List UInt8) (c : UInt8) : Lib.trimRightB (h ++ [c]) c = Lib.trimRightB h c := by
 unfold Lib.trimRightB; simp
theorem trim_stop (h : List UInt8) {c d : UInt8} (hne : d ≠ c) : Lib.trimRightB (h ++ [d]) c = h ++ [d] := by
 unfold Lib.trimRightB; simp [hne]
theorem text_dot2 (S A F : List UInt8) : (⟨(S ++ A ++ 46 :: F).toArray⟩ : ByteArray) = ((⟨S.toArray⟩ ++ ⟨A.toArray⟩) ++ ⟨#[46]⟩) ++ ⟨F.toArray⟩ := by
 have h : (⟨#[46]⟩ : ByteArray) = ⟨([46] : List UInt8).toArray⟩ := rfl
 rw [h, ba_app, ba_app, ba_app, List.append_assoc (S ++ A)]; rfl
theorem ba_last (g : List UInt8) (c : UInt8) : ∀ (hh : g.length < (⟨(g ++ [c]).toArray⟩ : ByteArray).size), (⟨(g ++ [c]).toArray⟩ : ByteArray)[g.length]'hh = c := by
 intro hh
 rw [ByteArray.getElem_eq_getElem_data]
 simp
theorem ba_drop (g : List UInt8) (c : UInt8) : (⟨(g ++ [c]).toArray⟩ : ByteArray).extract 0 g.length = ⟨g.toArray⟩ := Go.WideShapes.bytes_inj (by simp [ByteArray.extract, ByteArray.copySlice])
theorem rprint_good (n : Int) (w : World) (h : fitsB n = true) :
  Calls Tryz.prog 139 #[.int .i64 n] w fun e w' => e = .returned (.tuple #[.string ⟨(textOf n).toArray⟩, .int .i64 0]) ∧ Below w.heap.size w w' := by
 obtain ⟨n1, n2⟩ := fitsB_true h
 have x0 := absI_nn n
 have x1 := absI_le n1 n2
 have HF1 : Hid (∀ W : World, Calls Tryz.prog 130 #[.int .i64 (absI n / 1000000)] W fun e w' => e = .returned (.string ⟨(Lib.decDigits (absI n / 1000000).toNat).toArray⟩) ∧ Below W.heap.size W w') := fun W => rdigits_any _ W (by omega) (by omega)
 have HF2 : Hid (∀ W : World, Calls Tryz.prog 130 #[.int .i64 (1000000 + absI n % 1000000)] W fun e w' => e = .returned (.string ⟨(Lib.decDigits (absI n % 1000000 + 1000000).toNat).toArray⟩) ∧ Below W.heap.size W w') := fun W => by
  have := rdigits_any (1000000 + absI n % 1000000) W (by omega) (by omega)
  rw [show (1000000 + absI n % 1000000).toNat = (absI n % 1000000 + 1000000).toNat from by omega] at this
  exact this
 have HX : Hid (textOf n = (if n < 0 then [45] else []) ++ Lib.decDigits (absI n / 1000000).toNat ++ (if Lib.trimRightB (Lib.decDigits (absI n % 1000000 + 1000000).toNat).tail 48 = [] then [] else 46 :: Lib.trimRightB (Lib.decDigits (absI n % 1000000 + 1000000).toNat).tail 48)) := rfl
 have lA := dec_len (u := (absI n / 1000000).toNat) (by omega)
 have lB := dec_len (u := (absI n % 1000000 + 1000000).toNat) (by omega)
 have pB := dec_pos (absI n % 1000000 + 1000000).toNat
 generalize Lib.decDigits (absI n / 1000000).toNat = A at *
 generalize Lib.decDigits (absI n % 1000000 + 1000000).toNat = B at *
 have HZ := hide (fun W : World => rsize_any n W n1 n2)
 have ht := ba_tail B
 have lT : B.tail.length ≤ 20 := by rw [List.length_tail]; omega
 generalize B.tail = T at *
 by_cases hn : n < 0
 ·
  go_enter Tryz.func139, Tryz.ntmps139
  go_wp2_with (first | (go_at_call 101; refine (rfits_any _ _).mono ?_; rintro e w' ⟨rfl, rfl⟩) | (go_at_call 145; refine (HZ.out _).mono ?_; rintro e w' ⟨rfl, rfl⟩))
  refine (HF1.out _).mono ?_
  rintro e w1 ⟨rfl, b1⟩
  go_wp2_with (go_at_call 145; refine (HZ.out _).mono ?_; rintro e w1 ⟨rfl, rfl⟩)
  refine (HF2.out _).mono ?_
  rintro e w2 ⟨rfl, b2⟩
  have c2 := b1.trans (b2.mono b1.size)
  clear b1 b2 HF1 HF2 HZ
  go_wp2_with fail
  go_loop [5] (fun v => ∃ g : List UInt8, v = .string ⟨g.toArray⟩ ∧ g.length ≤ 20 ∧ Lib.trimRightB g 48 = Lib.trimRightB T 48) (fun v => strLen v)
  case atStart => exact ⟨T, rfl, lT, rfl⟩
  case round =>
   obtain ⟨g, rfl, hg, htr⟩ := hrel
   have HTr := hide htr
   clear htr
   rcases List.eq_nil_or_concat g with rfl | ⟨g', c, rfl⟩
   ·
    have e0 : Lib.trimRightB T 48 = [] := HTr.out.symm
    rw [e0, if_pos rfl, List.append_nil] at HX
    clear e0
    go_wp2
    go_ret2
    exact ⟨by rw [HX.out, if_pos hn, ← ba_app]; rfl, c2⟩
   ·
    rw [List.concat_eq_append] at hg HTr ⊢
    have hg' : g'.length ≤ 19 := by rw [List.length_append] at hg; simp at hg; exact hg
    have hix := ba_last g' c
    have hex := ba_drop g' c
    by_cases hc : c = 48
    ·
     have tc : ((c.toNat : Int) == 48) = true := by rw [hc]; decide
     have HR : Hid (Lib.trimRightB g' 48 = Lib.trimRightB T 48) := by
      show Lib.trimRightB g' 48 = _
      rw [← HTr.out, hc, trim_snoc]
     clear hc HTr HX
     go_wp2
     go_round
     case rel => exact ⟨g', rfl, by omega, HR.out⟩
     case measure =>
      show (⟨g'.toArray⟩ : ByteArray).size < (⟨(g' ++ [c]).toArray⟩ : ByteArray).size
      show g'.toArray.size < (g' ++ [c]).toArray.size
      simp
    ·
     have tc : ((c.toNat : Int) == 48) = false := by
      rw [beq_eq_false_iff_ne]
      intro e
      have e48 : (48 : UInt8).toNat = 48 := rfl
      exact hc (UInt8.toNat_inj.1 (by omega))
     have e1 : Lib.trimRightB T 48 = g' ++ [c] := by rw [← HTr.out, trim_stop g' hc]
     rw [e1, if_neg (show ¬ (g' ++ [c] = []) by simp)] at HX
     have te : (g' ++ [c]).isEmpty = false := by cases g' <;> rfl
     clear hc e1 HTr
     go_wp2
     go_ret2
     refine ⟨?_, c2⟩
     rw [HX.out, if_pos hn, text_dot2]
     rfl
 ·
  go_enter Tryz.func139, Tryz.ntmps139
  go_wp2_with (first | (go_at_call 101; refine (rfits_any _ _).mono ?_; rintro e w' ⟨rfl, rfl⟩) | (go_at_call 145; refine (HZ.out _).mono ?_; rintro e w' ⟨rfl, rfl⟩))
  refine (HF1.out _).mono ?_
  rintro e w1 ⟨rfl, b1⟩
  go_wp2_with (go_at_call 145; refine (HZ.out _).mono ?_; rintro e w1 ⟨rfl, rfl⟩)
  refine (HF2.out _).mono ?_
  rintro e w2 ⟨rfl, b2⟩
  have c2 := b1.trans (b2.mono b1.size)
  clear b1 b2 HF1 HF2 HZ
  go_wp2_with fail
  go_loop [5] (fun v => ∃ g : List UInt8, v = .string ⟨g.toArray⟩ ∧ g.length ≤ 20 ∧ Lib.trimRightB g 48 = Lib.trimRightB T 48) (fun v => strLen v)
  case atStart => exact ⟨T, rfl, lT, rfl⟩
  case round =>
   obtain ⟨g, rfl, hg, htr⟩ := hrel
   have HTr := hide htr
   clear htr
   rcases List.eq_nil_or_concat g with rfl | ⟨g', c, rfl⟩
   ·
    have e0 : Lib.trimRightB T 48 = [] := HTr.out.symm
    rw [e0, if_pos rfl, List.append_nil] at HX
    clear e0
    go_wp2
    go_ret2
    exact ⟨by rw [HX.out, if_neg (show ¬ n < 0 by omega), ← ba_app]; rfl, c2⟩
   ·
    rw [List.concat_eq_append] at hg HTr ⊢
    have hg' : g'.length ≤ 19 := by rw [List.length_append] at hg; simp at hg; exact hg
    have hix := ba_last g' c
    have hex := ba_drop g' c
    by_cases hc : c = 48
    ·
     have tc : ((c.toNat : Int) == 48) = true := by rw [hc]; decide
     have HR : Hid (Lib.trimRightB g' 48 = Lib.trimRightB T 48) := by
      show Lib.trimRightB g' 48 = _
      rw [← HTr.out, hc, trim_snoc]
     clear hc HTr HX
     go_wp2
     go_round
     case rel => exact ⟨g', rfl, by omega, HR.out⟩
     case measure =>
      show (⟨g'.toArray⟩ : ByteArray).size < (⟨(g' ++ [c]).toArray⟩ : ByteArray).size
      show g'.toArray.size < (g' ++ [c]).toArray.size
      simp
    ·
     have tc : ((c.toNat : Int) == 48) = false := by
      rw [beq_eq_false_iff_ne]
      intro e
      have e48 : (48 : UInt8).toNat = 48 := rfl
      exact hc (UInt8.toNat_inj.1 (by omega))
     have e1 : Lib.trimRightB T 48 = g' ++ [c] := by rw [← HTr.out, trim_stop g' hc]
     rw [e1, if_neg (show ¬ (g' ++ [c] = []) by simp)] at HX
     have te : (g' ++ [c]).isEmpty = false := by cases g' <;> rfl
     clear hc e1 HTr
     go_wp2
     go_ret2
     refine ⟨?_, c2⟩
     rw [HX.out, if_neg (show ¬ n < 0 by omega), text_dot2]
     rfl
end
end Go.Proofs.YtfpmmckpobpokaaGreat
