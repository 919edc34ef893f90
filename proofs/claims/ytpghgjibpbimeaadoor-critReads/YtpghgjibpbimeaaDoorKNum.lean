/-
  Out of Small, Near, Mul, Round, Digits, Print, Parse, TextMath, RefRound2, RefParseMath, RefPrint2, what is asked for (laid by pack9.py).
-/
import Derived.Test.YtpghgjibpbimeaaDoorProg
import Derived.Test.YtpghgjibpbimeaaDoorShelf
import Derived.BigCall
import Derived.BigGuard
import Derived.BigQuiet
import Derived.Deep.QuietTactic
import Derived.Deep.RegionWith
import Derived.Laws.EntriesVeiled
import Derived.Lib.AppendIntMem
import Derived.Lib.IndexMore
import Derived.Lib.ItoaMem
import Derived.Lib.SmallJoins
import Derived.Lib.Walk
import Derived.WalkKit
import Derived.WalkLawsBesides
import Derived.WalkSpells
import Derived.WideShapes
namespace Go.Proofs.YtpghgjibpbimeaaDoor
section
open Go.RowKit
theorem hide {p : Prop} (h : p) : Hid p := h
/-- Does a number fit? -/
def fitsB (n : Int) : Bool := decide (-1000000000000000000 ≤ n) && decide (n ≤ 1000000000000000000)
theorem fitsB_of {n : Int} (h1 : -1000000000000000000 ≤ n) (h2 : n ≤ 1000000000000000000) : fitsB n = true := by
  unfold fitsB; simp; exact ⟨h1, h2⟩
theorem fitsB_not {n : Int} (h : n < -1000000000000000000 ∨ 1000000000000000000 < n) : fitsB n = false := by
  unfold fitsB; simp; omega
/-- A result, if it fits. -/
def told (n : Int) : Int × Int := if fitsB n then (n, 0) else (0, 3)
set_option maxHeartbeats 400000 in
theorem fits_any (n : Int) (w : World) :
    Calls Tryd.prog 63 #[.int .i64 n] w fun e w' => e = .returned (.bool (fitsB n)) ∧ w' = w := by
  by_cases h1 : -1000000000000000000 ≤ n
  · by_cases h2 : n ≤ 1000000000000000000
    · go_enter Tryd.func63, Tryd.ntmps63
      go_wp2
      go_ret
      exact ⟨by rw [fitsB_of (by omega) (by omega)]; rfl, rfl⟩
    · go_enter Tryd.func63, Tryd.ntmps63
      go_wp2
      go_ret
      exact ⟨by rw [fitsB_not (by omega)]; rfl, rfl⟩
  · go_enter Tryd.func63, Tryd.ntmps63
    go_wp2
    go_ret
    exact ⟨by rw [fitsB_not (by omega)]; rfl, rfl⟩
set_option maxHeartbeats 400000 in
theorem rfits_any (n : Int) (w : World) :
    Calls Tryd.prog 52 #[.int .i64 n] w fun e w' => e = .returned (.bool (fitsB n)) ∧ w' = w := by
  by_cases h1 : -1000000000000000000 ≤ n
  · by_cases h2 : n ≤ 1000000000000000000
    · go_enter Tryd.func52, Tryd.ntmps52
      go_wp2
      go_ret
      exact ⟨by rw [fitsB_of (by omega) (by omega)]; rfl, rfl⟩
    · go_enter Tryd.func52, Tryd.ntmps52
      go_wp2
      go_ret
      exact ⟨by rw [fitsB_not (by omega)]; rfl, rfl⟩
  · go_enter Tryd.func52, Tryd.ntmps52
    go_wp2
    go_ret
    exact ⟨by rw [fitsB_not (by omega)]; rfl, rfl⟩
set_option maxHeartbeats 400000 in
theorem fitted_any (n : Int) (w : World) :
    Calls Tryd.prog 69 #[.int .i64 n] w fun e w' => e = .returned (.tuple #[.int .i64 (told n).1, .int .i64 (told n).2]) ∧ w' = w := by
  cases h : fitsB n
  all_goals
    go_enter Tryd.func69, Tryd.ntmps69
    go_wp2_with (go_at_call 63; refine (fits_any _ _).mono ?_; rintro e w' ⟨rfl, rfl⟩)
    go_ret2
    exact ⟨by simp [told, h], rfl⟩
end
section
open Go.RowKit
set_option maxHeartbeats 400000 in
theorem signed_any (b : Bool) (w : World) :
    Calls Tryd.prog 70 #[.bool b] w fun e w' => e = .returned (.func (.func 79) #[] #[.pointer (some ⟨w.heap.size, 0, none⟩)]) ∧ w' = w.alloc (.cells #[.bool b] 4) := by
  have hmf : ∀ (fn : Fn) (first cap : Array Value) (w : World), (Instr.makeFunc fn first cap).run Tryd.prog w = .ok (.func fn first cap) w := fun _ _ _ _ => rfl
  go_enter Tryd.func70, Tryd.ntmps70
  go_wp2
  go_ret
  exact ⟨rfl, rfl⟩
end
section
open Go.RowKit
/-- A number with a sign. -/
def put (neg : Bool) (q : Int) : Int := if neg then -q else q
set_option maxHeartbeats 400000 in
theorem put_any (q : Int) (neg : Bool) (b : Nat) (w : World) (h0 : 0 ≤ q) (h1 : q ≤ 4000000000000000000) (hc : w.cell? ⟨b, 0, none⟩ = some (.bool neg)) :
    Calls Tryd.prog 79 #[.int .u64 q, .pointer (some ⟨b, 0, none⟩)] w fun e w' => e = .returned (.int .i64 (put neg q)) ∧ w' = w := by
  cases neg
  all_goals
    go_enter Tryd.func79, Tryd.ntmps79
    go_wp2
    go_ret
    exact ⟨by simp [put], rfl⟩
end
section
open Go.RowKit
/-- A power of ten. -/
def p10 (k : Nat) : Int := 10 ^ k
theorem p10_succ (k : Nat) : p10 (k + 1) = p10 k * 10 := by unfold p10; rw [Int.pow_succ]
theorem p10_pos (k : Nat) : 0 < p10 k := by unfold p10; exact Int.pow_pos (by decide)
end
section
open Go.RowKit
/-- A byte that is a digit. -/
def isDig (c : UInt8) : Bool := decide (48 ≤ c.toNat) && decide (c.toNat ≤ 57)
/-- One or more digits. -/
def digB (l : List UInt8) : Bool := l.all isDig && !l.isEmpty
theorem isDig_iff {c : UInt8} : isDig c = true ↔ 48 ≤ c.toNat ∧ c.toNat ≤ 57 := by unfold isDig; simp
theorem isDig_not {c : UInt8} : isDig c = false ↔ c.toNat < 48 ∨ 57 < c.toNat := by
  unfold isDig; simp; omega
theorem take_snoc (s : ByteArray) (k : Nat) (h : k < s.size) : s.data.toList.take (k + 1) = s.data.toList.take k ++ [s[k]] := by
  rw [List.take_succ_eq_append_getElem (by simpa using h)]; rfl
theorem digB_no {s : ByteArray} {k : Nat} (h : k < s.size) (hd : isDig s[k] = false) : digB s.data.toList = false := by
  unfold digB
  have : s.data.toList.all isDig = false := by
    rw [List.all_eq_false]
    exact ⟨s[k], by rw [ByteArray.getElem_eq_getElem_data]; exact Array.getElem_mem_toList _, by simp [hd]⟩
  rw [this]; rfl
set_option maxHeartbeats 400000 in
theorem isDigits_any (s : ByteArray) (w : World) (hs : s.size ≤ 1000) :
    Calls Tryd.prog 67 #[.string s] w fun e w' => e = .returned (.bool (digB s.data.toList)) ∧ w' = w := by
  go_enter Tryd.func67, Tryd.ntmps67
  go_wp2
  go_loop [6] (fun i => ∃ k : Nat, k ≤ s.size ∧ i = .int .i64 k ∧ (s.data.toList.take k).all isDig = true) (fun i => s.size - (intOf i).toNat)
  case atStart => exact ⟨0, Nat.zero_le _, rfl, rfl⟩
  case round =>
    obtain ⟨k, hk, rfl, hall⟩ := hrel
    by_cases hlt : k < s.size
    · have HS := hide (take_snoc s k hlt)
      have HA := hide hall
      clear hall
      by_cases hd : isDig s[k] = true
      · have hd1 := isDig_iff.1 hd
        have HD := hide hd
        obtain ⟨d1, d2⟩ := hd1
        have d1' : (48 : Int) ≤ (s[k].toNat : Int) := by omega
        have d2' : (s[k].toNat : Int) ≤ 57 := by omega
        clear hd d1 d2
        go_wp2
        go_round
        case rel => exact ⟨k + 1, by omega, by go_num, by rw [HS.out, List.all_append, HA.out]; simp [HD.out]⟩
        case measure => simp [intOf]; omega
      · have HF : Hid (digB s.data.toList = false) := digB_no hlt (by simpa using hd)
        have hd2 : isDig s[k] = false := by simpa using hd
        rcases isDig_not.1 hd2 with d1 | d1
        · have d1' : (s[k].toNat : Int) < 48 := by omega
          clear hd hd2 d1 HS HA
          go_wp2
          go_ret
          exact ⟨by rw [HF.out]; rfl, rfl⟩
        · have d1' : (57 : Int) < (s[k].toNat : Int) := by omega
          have d2' : ¬ (s[k].toNat : Int) < 48 := by omega
          clear hd hd2 d1 HS HA
          go_wp2
          go_ret
          exact ⟨by rw [HF.out]; rfl, rfl⟩
    · have hk2 : k = s.size := by omega
      rw [hk2, List.take_of_length_le (by simp)] at hall
      clear hk2
      have HE : Hid (digB s.data.toList = !s.data.toList.isEmpty) := by show digB _ = _; unfold digB; rw [hall]; rfl
      clear hall
      go_wp2
      go_ret
      exact ⟨by rw [HE.out, ← ByteArray.toList_eq]; rfl, rfl⟩
set_option maxHeartbeats 400000 in
theorem isFraction_any (s : ByteArray) (w : World) (hs : s.size ≤ 1000) :
    Calls Tryd.prog 68 #[.string s] w fun e w' => e = .returned (.bool (digB s.data.toList && decide (s.size ≤ 6))) ∧ w' = w := by
  cases hd : digB s.data.toList
  · go_enter Tryd.func68, Tryd.ntmps68
    go_wp2_with (go_at_call 67; refine (isDigits_any _ _ hs).mono ?_; rintro e w' ⟨rfl, rfl⟩)
    go_ret
    exact ⟨rfl, rfl⟩
  · by_cases h6 : s.size ≤ 6
    · go_enter Tryd.func68, Tryd.ntmps68
      go_wp2_with (go_at_call 67; refine (isDigits_any _ _ hs).mono ?_; rintro e w' ⟨rfl, rfl⟩)
      go_ret
      exact ⟨by simp [h6]; omega, rfl⟩
    · go_enter Tryd.func68, Tryd.ntmps68
      go_wp2_with (go_at_call 67; refine (isDigits_any _ _ hs).mono ?_; rintro e w' ⟨rfl, rfl⟩)
      go_ret
      exact ⟨by simp; omega, rfl⟩
/-- One digit more, up to MaxNum + 1. -/
def gath (n : Int) (c : UInt8) : Int := min (n * 10 + ((c.toNat : Int) - 48)) 1000000000000000001
/-- The number that digits make, or MaxNum + 1. -/
def gatherN (l : List UInt8) : Int := l.foldl gath 0
theorem gath_bd {n : Int} {c : UInt8} (hn : 0 ≤ n) (hc : 48 ≤ c.toNat) : 0 ≤ gath n c ∧ gath n c ≤ 1000000000000000001 := by
  unfold gath; omega
theorem gatherN_snoc (l : List UInt8) (c : UInt8) : gatherN (l ++ [c]) = gath (gatherN l) c := by unfold gatherN; rw [List.foldl_append]; rfl
theorem fold_bd : ∀ (l : List UInt8) (n : Int), 0 ≤ n → n ≤ 1000000000000000001 → l.all isDig = true → 0 ≤ l.foldl gath n ∧ l.foldl gath n ≤ 1000000000000000001
  | [], n, h0, h1, _ => ⟨h0, h1⟩
  | c :: l, n, h0, _, h => by
    rw [List.all_cons, Bool.and_eq_true] at h
    have hb := gath_bd h0 (isDig_iff.1 h.1).1
    exact fold_bd l _ hb.1 hb.2 h.2
theorem gatherN_bd {l : List UInt8} (h : l.all isDig = true) : 0 ≤ gatherN l ∧ gatherN l ≤ 1000000000000000001 := fold_bd l 0 (by decide) (by decide) h
theorem all_take {l : List UInt8} (h : l.all isDig = true) (k : Nat) : (l.take k).all isDig = true := by
  rw [List.all_eq_true] at *
  exact fun x hx => h x (List.mem_of_mem_take hx)
theorem dig_at {s : ByteArray} (h : s.data.toList.all isDig = true) (k : Nat) (hk : k < s.size) : 48 ≤ s[k].toNat ∧ s[k].toNat ≤ 57 := by
  rw [List.all_eq_true] at h
  exact isDig_iff.1 (h _ (by rw [ByteArray.getElem_eq_getElem_data]; exact Array.getElem_mem_toList _))
set_option maxHeartbeats 400000 in
theorem gather_any (s : ByteArray) (w : World) (hs : s.size ≤ 1000) (hd : s.data.toList.all isDig = true) :
    Calls Tryd.prog 71 #[.string s] w fun e w' => e = .returned (.int .u64 (gatherN s.data.toList)) ∧ w' = w := by
  have HD := hide hd
  clear hd
  go_enter Tryd.func71, Tryd.ntmps71
  go_wp2
  go_loop [3, 7] (fun n i => ∃ k : Nat, k ≤ s.size ∧ i = .int .i64 k ∧ n = .int .u64 (gatherN (s.data.toList.take k))) (fun _ i => s.size - (intOf i).toNat)
  case atStart => exact ⟨0, Nat.zero_le _, rfl, rfl⟩
  case round =>
    obtain ⟨k, hk, rfl, rfl⟩ := hrel
    by_cases hlt : k < s.size
    · obtain ⟨d1, d2⟩ := dig_at HD.out k hlt
      obtain ⟨g1, g2⟩ := gatherN_bd (all_take HD.out k)
      have HS : Hid (gatherN (s.data.toList.take (k + 1)) = min (gatherN (s.data.toList.take k) * 10 + ((s[k].toNat : Int) - 48)) 1000000000000000001) := by
        show gatherN _ = _
        rw [take_snoc s k hlt, gatherN_snoc]; rfl
      have d1' : (48 : Int) ≤ (s[k].toNat : Int) := by omega
      have d2' : (s[k].toNat : Int) ≤ 57 := by omega
      clear d1 d2
      generalize gatherN (s.data.toList.take k) = n at *
      go_wp2
      go_round
      case rel => exact ⟨k + 1, by omega, by go_num, by rw [HS.out]⟩
      case measure => simp [intOf]; omega
    · have hk2 : k = s.size := by omega
      rw [hk2, List.take_of_length_le (by simp)]
      go_wp2
      go_ret
      exact ⟨rfl, rfl⟩
end
section
open Go.RowKit Go.Sort Go.Lib
theorem extract_tail (B : List UInt8) : ((⟨B.toArray⟩ : ByteArray).extract 1 B.length).data.toList = B.tail := by
  simp [ByteArray.extract, ByteArray.copySlice]
  exact List.take_of_length_le (by simp)
theorem ba_app (a b : List UInt8) : (⟨a.toArray⟩ : ByteArray) ++ ⟨b.toArray⟩ = ⟨(a ++ b).toArray⟩ := ByteArray.ext (by simp)
end
section
open Go.RowKit
/-- Is a text, without its minus and cut at its point, a number's? -/
def okB (c : List UInt8 × List UInt8 × Bool) : Bool := digB c.1 && (!c.2.2 || (digB c.2.1 && decide (c.2.1.length ≤ 6)))
/-- All digits of a number's text, six behind the point. -/
def allDigits (c : List UInt8 × List UInt8 × Bool) : List UInt8 := c.1 ++ c.2.1 ++ List.replicate (6 - c.2.1.length) 48
/-- What Parse says. -/
def parseR (l : List UInt8) : Int × Int :=
  if 40 < l.length then (0, 5)
  else if okB (Lib.cut (Lib.trimPrefix l [45]) [46]) then told (put (Lib.hasPrefix l [45]) (gatherN (allDigits (Lib.cut (Lib.trimPrefix l [45]) [46])))) else (0, 5)
theorem cut_none {s sep : List UInt8} (h : (Lib.cut s sep).2.2 = false) : Lib.cut s sep = (s, [], false) := by
  unfold Lib.cut at *
  split at h
  · cases h
  · rename_i c; rw [if_neg c]
theorem cut_len (s sep : List UInt8) : (Lib.cut s sep).1.length ≤ s.length ∧ (Lib.cut s sep).2.1.length ≤ s.length := by
  unfold Lib.cut
  split
  · simp; omega
  · simp
theorem trimP_len (s p : List UInt8) : (Lib.trimPrefix s p).length ≤ s.length := by
  unfold Lib.trimPrefix; split <;> simp
theorem ok_digits {c : List UInt8 × List UInt8 × Bool} (h : okB c = true) (hn : c.2.2 = false → c.2.1 = []) : c.1.all isDig = true ∧ c.2.1.all isDig = true ∧ c.2.1.length ≤ 6 := by
  unfold okB digB at h
  obtain ⟨x, y, p⟩ := c
  cases p
  · have := hn rfl
    simp at this h ⊢
    subst this
    exact ⟨fun a ha => h.1 a ha, by simp, by simp⟩
  · simp at h ⊢
    exact ⟨h.1.1, h.2.1.1, h.2.2⟩
theorem all_digits {c : List UInt8 × List UInt8 × Bool} (h : okB c = true) (hn : c.2.2 = false → c.2.1 = []) : (allDigits c).all isDig = true := by
  obtain ⟨h1, h2, _⟩ := ok_digits h hn
  unfold allDigits
  rw [List.all_append, List.all_append, h1, h2, List.all_replicate]
  have : isDig 48 = true := by decide
  rw [this]; simp
theorem noughts_drop (k : Nat) (h : k ≤ 6) : ((⟨#[48, 48, 48, 48, 48, 48]⟩ : ByteArray).extract k 6) = ⟨(List.replicate (6 - k) 48).toArray⟩ := by
  have : k = 0 ∨ k = 1 ∨ k = 2 ∨ k = 3 ∨ k = 4 ∨ k = 5 ∨ k = 6 := by omega
  rcases this with h | h | h | h | h | h | h <;> subst h <;> rfl
set_option maxHeartbeats 1000000 in
theorem parse_any (s : ByteArray) (w : World) (m : Int) (hm : w.cell? ⟨2, 0, none⟩ = some (.int .i64 m)) (hs : s.size ≤ maxLen) :
    Calls Tryd.prog 45 #[.string s] w fun e w' => e = .returned (.tuple #[.int .i64 (parseR s.data.toList).1, .int .i64 (parseR s.data.toList).2]) ∧ Below w.heap.size w w' := by
  unfold maxLen at hs
  have hsz : s.size = s.data.toList.length := by simp
  by_cases h40 : 40 < s.size
  · have HE : Hid (parseR s.data.toList = (0, 5)) := by show parseR _ = _; unfold parseR; rw [if_pos (by omega)]
    clear hm hsz
    go_enter Tryd.func45, Tryd.ntmps45
    go_wp2
    go_ret2
    exact ⟨by rw [HE.out]; rfl, Below.refl _ _⟩
  · have HP := hide (fun W : World => Tryd.strings_CutPrefix s ⟨#[45]⟩ W)
    have e45 : (⟨#[45]⟩ : ByteArray).data.toList = [45] := rfl
    rw [e45] at HP
    have hpr : parseR s.data.toList = if okB (Lib.cut (Lib.trimPrefix s.data.toList [45]) [46]) then told (put (Lib.hasPrefix s.data.toList [45]) (gatherN (allDigits (Lib.cut (Lib.trimPrefix s.data.toList [45]) [46])))) else (0, 5) := by
      unfold parseR; rw [if_neg (by omega)]
    have hl := trimP_len s.data.toList [45]
    generalize Lib.hasPrefix s.data.toList [45] = neg at *
    generalize Lib.trimPrefix s.data.toList [45] = rest at *
    have HC := hide (fun (W : World) hW => Tryd.strings_Cut ⟨rest.toArray⟩ ⟨#[46]⟩ m W (by show rest.toArray.size < _; rw [List.size_toArray]; omega) hW)
    have e46 : (⟨#[46]⟩ : ByteArray).data.toList = [46] := rfl
    have er : (⟨rest.toArray⟩ : ByteArray).data.toList = rest := rfl
    rw [e46, er] at HC
    have hcl := cut_len rest [46]
    have hcn : (Lib.cut rest [46]).2.2 = false → (Lib.cut rest [46]).2.1 = [] := fun h => by rw [cut_none h]
    generalize Lib.cut rest [46] = c at *
    obtain ⟨whole, frac, pt⟩ := c
    have hcl1 : whole.length ≤ rest.length := hcl.1
    have hcl2 : frac.length ≤ rest.length := hcl.2
    have hcn' : pt = false → frac = [] := hcn
    clear hcl hcn
    have HC' : Hid (∀ W : World, W.cell? ⟨2, 0, none⟩ = some (.int .i64 m) → Calls Tryd.prog 66 #[.string ⟨rest.toArray⟩, .string ⟨#[46]⟩] W fun e w' => e = .returned (.tuple #[.string ⟨whole.toArray⟩, .string ⟨frac.toArray⟩, .bool pt]) ∧ ∃ n, w' = W.drewN n) := HC.out
    have HP' : Hid (∀ W : World, Calls Tryd.prog 65 #[.string s, .string ⟨#[45]⟩] W fun e w' => e = .returned (.tuple #[.string ⟨rest.toArray⟩, .bool neg]) ∧ w' = W) := HP.out
    have HM := hide hm
    have HDw := hide (fun W : World => isDigits_any ⟨whole.toArray⟩ W (by show whole.toArray.size ≤ _; rw [List.size_toArray]; omega))
    have HDf := hide (fun W : World => isFraction_any ⟨frac.toArray⟩ W (by show frac.toArray.size ≤ _; rw [List.size_toArray]; omega))
    have HDw' : Hid (∀ W : World, Calls Tryd.prog 67 #[.string ⟨whole.toArray⟩] W fun e w' => e = .returned (.bool (digB whole)) ∧ w' = W) := HDw.out
    have HDf' : Hid (∀ W : World, Calls Tryd.prog 68 #[.string ⟨frac.toArray⟩] W fun e w' => e = .returned (.bool (digB frac && decide (frac.length ≤ 6))) ∧ w' = W) := by
      have h : (⟨frac.toArray⟩ : ByteArray).size = frac.length := by show frac.toArray.size = _; rw [List.size_toArray]
      rw [h] at HDf; exact HDf.out
    have wl : whole.length ≤ 40 := by omega
    have fl : frac.length ≤ 40 := by omega
    have HN := hide hcn'
    have HR := hide hpr
    clear HC HP hm HDw HDf hcn' hpr e45 e46 er hsz
    cases hw : digB whole
    · have HE : Hid (parseR s.data.toList = (0, 5)) := by show parseR _ = _; rw [HR.out]; simp [okB, hw]
      go_enter Tryd.func45, Tryd.ntmps45
      go_wp2_with (first | (go_at_call 65; refine (HP'.out _).mono ?_; rintro e w' ⟨rfl, rfl⟩) | (go_at_call 66; refine (HC'.out _ HM.out).mono ?_; rintro e w1 ⟨rfl, nd, rfl⟩) | (go_at_call 67; refine (HDw'.out _).mono ?_; rintro e w2 ⟨rfl, rfl⟩))
      go_ret2
      exact ⟨by rw [HE.out]; rfl, below_drewN (Below.refl _ _) _⟩
    · cases hf : (!pt || (digB frac && decide (frac.length ≤ 6)))
      · have hno : okB (whole, frac, pt) = false := by simp only [okB, hw, Bool.true_and]; exact hf
        have HE : Hid (parseR s.data.toList = (0, 5)) := by show parseR _ = _; rw [HR.out, hno]; rfl
        clear hno
        have hp1 : pt = true := by cases pt <;> simp at hf ⊢
        have hp2 : (digB frac && decide (frac.length ≤ 6)) = false := by subst hp1; simpa using hf
        clear hf
        rw [hp2] at HDf'
        clear hp2
        subst hp1
        go_enter Tryd.func45, Tryd.ntmps45
        go_wp2_with (first | (go_at_call 65; refine (HP'.out _).mono ?_; rintro e w' ⟨rfl, rfl⟩) | (go_at_call 66; refine (HC'.out _ HM.out).mono ?_; rintro e w1 ⟨rfl, nd, rfl⟩) | (go_at_call 67; refine (HDw'.out _).mono ?_; rintro e w2 ⟨rfl, rfl⟩) | (go_at_call 68; refine (HDf'.out _).mono ?_; rintro e w2 ⟨rfl, rfl⟩))
        go_ret2
        exact ⟨by rw [HE.out]; rfl, below_drewN (Below.refl _ _) _⟩
      · have hok : okB (whole, frac, pt) = true := by simp only [okB, hw, Bool.true_and]; exact hf
        have hall := all_digits hok HN.out
        obtain ⟨_, _, hf6⟩ := ok_digits hok HN.out
        have hf6' : frac.length ≤ 6 := hf6
        have HE : Hid (parseR s.data.toList = told (put neg (gatherN (allDigits (whole, frac, pt))))) := by show parseR _ = _; rw [HR.out, if_pos hok]
        obtain ⟨g1, g2⟩ := gatherN_bd hall
        have HG : Hid (∀ W : World, Calls Tryd.prog 71 #[.string ((⟨whole.toArray⟩ : ByteArray) ++ ⟨frac.toArray⟩ ++ (⟨#[48, 48, 48, 48, 48, 48]⟩ : ByteArray).extract frac.length 6)] W fun e w' => e = .returned (.int .u64 (gatherN (allDigits (whole, frac, pt)))) ∧ w' = W) := by
          intro W
          have e : ((⟨whole.toArray⟩ : ByteArray) ++ ⟨frac.toArray⟩ ++ (⟨#[48, 48, 48, 48, 48, 48]⟩ : ByteArray).extract frac.length 6) = ⟨(allDigits (whole, frac, pt)).toArray⟩ := by
            rw [noughts_drop _ hf6', ba_app, ba_app]; rfl
          rw [e]
          exact gather_any ⟨(allDigits (whole, frac, pt)).toArray⟩ W (by show (allDigits (whole, frac, pt)).toArray.size ≤ _; rw [List.size_toArray]; simp [allDigits]; omega) hall
        generalize gatherN (allDigits (whole, frac, pt)) = G at *
        clear hall hok hf6 HR
        cases pt
        · clear hf HDf'
          go_enter Tryd.func45, Tryd.ntmps45
          go_wp2_with (first | (go_at_call 65; refine (HP'.out _).mono ?_; rintro e w' ⟨rfl, rfl⟩) | (go_at_call 66; refine (HC'.out _ HM.out).mono ?_; rintro e w1 ⟨rfl, nd, rfl⟩) | (go_at_call 67; refine (HDw'.out _).mono ?_; rintro e w2 ⟨rfl, rfl⟩) | (go_at_call 70; refine (signed_any _ _).mono ?_; rintro e w3 ⟨rfl, rfl⟩))
          refine (HG.out _).mono ?_
          rintro e w4 ⟨rfl, rfl⟩
          go_wp2_with fail
          refine (put_any G neg _ _ g1 (by omega) (by exact World.cell?_alloc_new _ _ _ 0)).mono ?_
          rintro e w5 ⟨rfl, rfl⟩
          go_wp2_with (go_at_call 69; refine (fitted_any _ _).mono ?_; rintro e w2 ⟨rfl, rfl⟩)
          go_ret2
          exact ⟨by rw [HE.out]; rfl, (below_drewN (Below.refl _ _) _).alloc (Nat.le_refl _) _⟩
        · have hp2 : (digB frac && decide (frac.length ≤ 6)) = true := by simpa using hf
          clear hf
          rw [hp2] at HDf'
          clear hp2
          go_enter Tryd.func45, Tryd.ntmps45
          go_wp2_with (first | (go_at_call 65; refine (HP'.out _).mono ?_; rintro e w' ⟨rfl, rfl⟩) | (go_at_call 66; refine (HC'.out _ HM.out).mono ?_; rintro e w1 ⟨rfl, nd, rfl⟩) | (go_at_call 67; refine (HDw'.out _).mono ?_; rintro e w2 ⟨rfl, rfl⟩) | (go_at_call 68; refine (HDf'.out _).mono ?_; rintro e w2 ⟨rfl, rfl⟩) | (go_at_call 70; refine (signed_any _ _).mono ?_; rintro e w3 ⟨rfl, rfl⟩))
          refine (HG.out _).mono ?_
          rintro e w4 ⟨rfl, rfl⟩
          go_wp2_with fail
          refine (put_any G neg _ _ g1 (by omega) (by exact World.cell?_alloc_new _ _ _ 0)).mono ?_
          rintro e w5 ⟨rfl, rfl⟩
          go_wp2_with (go_at_call 69; refine (fitted_any _ _).mono ?_; rintro e w2 ⟨rfl, rfl⟩)
          go_ret2
          exact ⟨by rw [HE.out]; rfl, (below_drewN (Below.refl _ _) _).alloc (Nat.le_refl _) _⟩
end
section
open Go.RowKit
/-- One digit more. -/
def vstep (n : Int) (c : UInt8) : Int := n * 10 + ((c.toNat : Int) - 48)
/-- The number that digits make. -/
def val (l : List UInt8) : Int := l.foldl vstep 0
theorem fold_min : ∀ (l : List UInt8) (a : Int), 0 ≤ a → l.all isDig = true → l.foldl gath (min a 1000000000000000001) = min (l.foldl vstep a) 1000000000000000001
  | [], _, _, _ => rfl
  | c :: l, a, ha, h => by
    rw [List.all_cons, Bool.and_eq_true] at h
    have hc := isDig_iff.1 h.1
    rw [List.foldl_cons, List.foldl_cons]
    have e : gath (min a 1000000000000000001) c = min (vstep a c) 1000000000000000001 := by unfold gath vstep; omega
    rw [e]
    exact fold_min l _ (by unfold vstep; omega) h.2
theorem gather_val {l : List UInt8} (h : l.all isDig = true) : gatherN l = min (val l) 1000000000000000001 := fold_min l 0 (by decide) h
theorem fold_base : ∀ (l : List UInt8) (a : Int), l.foldl vstep a = a * p10 l.length + val l
  | [], a => by simp [val, p10]
  | c :: l, a => by
    have h1 := fold_base l (vstep a c)
    have h2 := fold_base l (vstep 0 c)
    unfold val
    rw [List.foldl_cons, List.foldl_cons, h1, h2, List.length_cons, p10_succ]
    have e : vstep a c = a * 10 + vstep 0 c := by unfold vstep; omega
    rw [e, Int.add_mul, Int.mul_assoc, Int.mul_comm 10]
    omega
theorem val_app (a b : List UInt8) : val (a ++ b) = val a * p10 b.length + val b := by
  have := fold_base b (val a)
  unfold val at *
  rw [List.foldl_append]; exact this
theorem val_cons (c : UInt8) (l : List UInt8) : val (c :: l) = ((c.toNat : Int) - 48) * p10 l.length + val l := by
  have := fold_base l (vstep 0 c)
  unfold val at *
  rw [List.foldl_cons, this]
  unfold vstep; simp
theorem val_bd : ∀ {l : List UInt8}, l.all isDig = true → 0 ≤ val l ∧ val l < p10 l.length
  | [], _ => by simp [val, p10]
  | c :: l, h => by
    rw [List.all_cons, Bool.and_eq_true] at h
    have hc := isDig_iff.1 h.1
    have hb := val_bd h.2
    rw [val_cons, List.length_cons, p10_succ]
    have h1 : 0 ≤ ((c.toNat : Int) - 48) * p10 l.length := Int.mul_nonneg (by omega) (by omega)
    have h2 : ((c.toNat : Int) - 48) * p10 l.length ≤ 9 * p10 l.length := Int.mul_le_mul_of_nonneg_right (by omega) (by omega)
    omega
theorem index_here : ∀ (W F : List UInt8), W.all isDig = true → Lib.index (W ++ 46 :: F) [46] = W.length
  | [], F, _ => by simp [Lib.index]
  | c :: W, F, h => by
    rw [List.all_cons, Bool.and_eq_true] at h
    have hc := isDig_iff.1 h.1
    have hne : (46 : UInt8) ≠ c := fun e => by subst e; simp at hc
    have ih := index_here W F h.2
    rw [List.cons_append, Lib.index, ih]
    have e : List.isPrefixOf [46] (c :: (W ++ 46 :: F)) = false := by simp [List.isPrefixOf, hne]
    rw [e]
    have e2 : ((W.length : Int) == -1) = false := by rw [beq_eq_false_iff_ne]; omega
    rw [e2]; simp
theorem index_none : ∀ (W : List UInt8), W.all isDig = true → Lib.index W [46] = -1
  | [], _ => by simp [Lib.index]
  | c :: W, h => by
    rw [List.all_cons, Bool.and_eq_true] at h
    have hc := isDig_iff.1 h.1
    have hne : (46 : UInt8) ≠ c := fun e => by subst e; simp at hc
    have ih := index_none W h.2
    rw [Lib.index, ih]
    have e : List.isPrefixOf [46] (c :: W) = false := by simp [List.isPrefixOf, hne]
    rw [e]; rfl
theorem cut_dot {W F : List UInt8} (h : W.all isDig = true) : Lib.cut (W ++ 46 :: F) [46] = (W, F, true) := by
  unfold Lib.cut
  rw [index_here W F h, if_pos (by omega), Int.toNat_natCast]
  simp
theorem cut_bare {W : List UInt8} (h : W.all isDig = true) : Lib.cut W [46] = (W, [], false) := by
  unfold Lib.cut
  rw [index_none W h, if_neg (by decide)]
theorem digB_of {l : List UInt8} (h : l.all isDig = true) (hn : l ≠ []) : digB l = true := by
  unfold digB; rw [h]; cases l with
  | nil => exact absurd rfl hn
  | cons _ _ => rfl
end
section
open Go.RowKit
theorem told_put {q : Int} (neg : Bool) (h0 : 0 ≤ q) : told (put neg q) = if 1000000000000000000 < q then (0, 3) else (put neg q, 0) := by
  unfold told put
  by_cases h : 1000000000000000000 < q
  · rw [if_pos h, if_neg]
    cases neg
    · rw [fitsB_not (by simp; omega)]; decide
    · rw [fitsB_not (by simp; omega)]; decide
  · rw [if_neg h, if_pos]
    cases neg
    · exact fitsB_of (by simp; omega) (by simp; omega)
    · exact fitsB_of (by simp; omega) (by simp; omega)
end
section
open Go.RowKit
theorem val_nn {l : List UInt8} (h : l.all isDig = true) : 0 ≤ val l := (val_bd h).1
theorem val_snoc (l : List UInt8) (c : UInt8) : val (l ++ [c]) = val l * 10 + ((c.toNat : Int) - 48) := by
  unfold val; rw [List.foldl_append]; rfl
theorem take_getD (r : List UInt8) (k : Nat) (h : k < r.length) : r.take (k + 1) = r.take k ++ [r.getD k 0] := by
  rw [List.take_succ_eq_append_getElem h]
  simp [h]
theorem ba_at (r : List UInt8) (k : Nat) : ∀ (hh : k < (⟨r.toArray⟩ : ByteArray).size), (⟨r.toArray⟩ : ByteArray)[k]'hh = r.getD k 0 := by
  intro hh
  have h : k < r.length := by
    have : k < r.toArray.size := hh
    rwa [List.size_toArray] at this
  rw [ByteArray.getElem_eq_getElem_data]
  simp [h]
/-- How many digits a text opens with. -/
def lead (r : List UInt8) : Nat := (r.takeWhile isDig).length
theorem lead_le (r : List UInt8) : lead r ≤ r.length := (List.takeWhile_sublist _).length_le
theorem lead_take (r : List UInt8) : r.take (lead r) = r.takeWhile isDig := by
  have h := List.takeWhile_append_dropWhile (p := isDig) (l := r)
  unfold lead
  rw [show List.take (r.takeWhile isDig).length r = List.take (r.takeWhile isDig).length (r.takeWhile isDig ++ r.dropWhile isDig) from by rw [h], List.take_left]
theorem lead_dig (r : List UInt8) : (r.take (lead r)).all isDig = true := by rw [lead_take]; exact List.all_takeWhile
theorem lead_at {r : List UInt8} {k : Nat} (h : k < lead r) : isDig (r.getD k 0) = true := by
  have h1 := lead_dig r
  rw [List.all_eq_true] at h1
  have h2 := lead_le r
  have h3 : k < r.length := by omega
  refine h1 _ ?_
  rw [List.mem_take_iff_getElem]
  exact ⟨k, by omega, by simp [h3]⟩
theorem lead_cons (c : UInt8) (r : List UInt8) : lead (c :: r) = if isDig c then lead r + 1 else 0 := by
  unfold lead
  cases h : isDig c <;> simp [h]
theorem lead_stop : ∀ {r : List UInt8}, lead r < r.length → isDig (r.getD (lead r) 0) = false
  | [], h => absurd h (by simp)
  | c :: r, h => by
    cases hc : isDig c
    · rw [lead_cons, hc]; exact hc
    · have e : lead (c :: r) = lead r + 1 := by rw [lead_cons, hc]; rfl
      rw [e] at h ⊢
      have ih := lead_stop (r := r) (by simpa using h)
      simpa using ih
/-- What Parse says behind the minus. -/
def bodyR (neg : Bool) (r : List UInt8) : Int × Int := if okB (Lib.cut r [46]) then told (put neg (gatherN (allDigits (Lib.cut r [46])))) else (0, 5)
theorem parse_body {l : List UInt8} (h : l.length ≤ 40) : parseR l = bodyR (Lib.hasPrefix l [45]) (Lib.trimPrefix l [45]) := by
  unfold parseR bodyR; rw [if_neg (by omega)]
theorem body_bare {neg : Bool} {W : List UInt8} (h : W.all isDig = true) (hn : W ≠ []) : bodyR neg W = if 1000000000000000000 < val W * 1000000 then (0, 3) else (put neg (val W * 1000000), 0) := by
  unfold bodyR
  rw [cut_bare h]
  have hok : okB (W, [], false) = true := by simp [okB, digB_of h hn]
  have hv := val_nn h
  have hall := all_digits hok (fun _ => rfl)
  have e : val (allDigits (W, [], false)) = val W * 1000000 := by
    have e1 : allDigits (W, [], false) = W ++ [48, 48, 48, 48, 48, 48] := by simp [allDigits]
    have e2 : p10 (List.length ([48, 48, 48, 48, 48, 48] : List UInt8)) = 1000000 := by decide
    have e3 : val ([48, 48, 48, 48, 48, 48] : List UInt8) = 0 := by decide
    rw [e1, val_app, e2, e3]; omega
  rw [if_pos hok, gather_val hall, e, told_put neg (by omega)]
  by_cases hb : 1000000000000000000 < val W * 1000000
  · rw [if_pos hb, if_pos (by omega)]
  · rw [if_neg hb, if_neg (by omega), show min (val W * 1000000) 1000000000000000001 = val W * 1000000 by omega]
theorem body_empty {neg : Bool} : bodyR neg [] = (0, 5) := by
  unfold bodyR; rw [cut_bare (W := []) rfl]; rfl
theorem body_dot0 {neg : Bool} {F : List UInt8} : bodyR neg (46 :: F) = (0, 5) := by
  have h := cut_dot (W := []) (F := F) rfl
  rw [List.nil_append] at h
  unfold bodyR; rw [h]; rfl
theorem body_dot_no {neg : Bool} {W F : List UInt8} (h : W.all isDig = true) (hf : (digB F && decide (F.length ≤ 6)) = false) : bodyR neg (W ++ 46 :: F) = (0, 5) := by
  unfold bodyR
  rw [cut_dot h]
  have hok : okB (W, F, true) = false := by simp only [okB, Bool.not_true, Bool.false_or, hf, Bool.and_false]
  rw [hok]; rfl
theorem body_dot {neg : Bool} {W F : List UInt8} (h : W.all isDig = true) (hn : W ≠ []) (hF : F.all isDig = true) (hFn : F ≠ []) (h6 : F.length ≤ 6) :
    bodyR neg (W ++ 46 :: F) = if 1000000000000000000 < val W * 1000000 + val F * p10 (6 - F.length) then (0, 3) else (put neg (val W * 1000000 + val F * p10 (6 - F.length)), 0) := by
  unfold bodyR
  rw [cut_dot h]
  have hok : okB (W, F, true) = true := by simp [okB, digB_of h hn, digB_of hF hFn, h6]
  have hv := val_nn h
  have hfv := val_nn hF
  have hp := p10_pos (6 - F.length)
  have hm : 0 ≤ val F * p10 (6 - F.length) := Int.mul_nonneg hfv (by omega)
  have hall := all_digits hok (fun h => by cases h)
  have e : val (allDigits (W, F, true)) = val W * 1000000 + val F * p10 (6 - F.length) := by
    unfold allDigits
    show val (W ++ F ++ List.replicate (6 - F.length) 48) = _
    have z : ∀ k : Nat, val (List.replicate k 48) = 0 := by
      intro k
      induction k with
      | zero => rfl
      | succ k ih => rw [List.replicate_succ, val_cons, ih]; simp
    have e1 : p10 F.length * p10 (6 - F.length) = 1000000 := by
      have : F.length = 0 ∨ F.length = 1 ∨ F.length = 2 ∨ F.length = 3 ∨ F.length = 4 ∨ F.length = 5 ∨ F.length = 6 := by omega
      rcases this with h | h | h | h | h | h | h <;> rw [h] <;> decide
    rw [val_app, val_app, z, List.length_replicate, Int.add_mul, Int.mul_assoc, e1]; omega
  rw [if_pos hok, gather_val hall, e, told_put neg (by omega)]
  generalize val W * 1000000 + val F * p10 (6 - F.length) = N at *
  by_cases hb : 1000000000000000000 < N
  · rw [if_pos hb, if_pos (by omega)]
  · rw [if_neg hb, if_neg (by omega), show min N 1000000000000000001 = N by omega]
theorem index_ge : ∀ (Y : List UInt8), -1 ≤ Lib.index Y [46]
  | [] => by simp [Lib.index]
  | c :: Y => by
    have ih := index_ge Y
    rw [Lib.index]
    split
    · omega
    · split
      · omega
      · omega
theorem index_skip : ∀ (P Y : List UInt8), (∀ c ∈ P, c ≠ 46) → Lib.index (P ++ Y) [46] = if Lib.index Y [46] = -1 then -1 else P.length + Lib.index Y [46]
  | [], Y, _ => by
    split
    · rename_i h; rw [List.nil_append, h]
    · simp
  | c :: P, Y, h => by
    have hne : (46 : UInt8) ≠ c := fun e => h c (by simp) e.symm
    have ih := index_skip P Y (fun c hc => h c (by simp [hc]))
    rw [List.cons_append, Lib.index, ih]
    have e : List.isPrefixOf [46] (c :: (P ++ Y)) = false := by simp [List.isPrefixOf, hne]
    rw [e]
    by_cases hy : Lib.index Y [46] = -1
    · rw [if_pos hy, if_pos hy]; rfl
    · rw [if_neg hy, if_neg hy]
      have hi := index_ge Y
      have e2 : ((P.length : Int) + Lib.index Y [46] == -1) = false := by rw [beq_eq_false_iff_ne]; omega
      rw [e2]; simp; omega
theorem body_bad {neg : Bool} {W X : List UInt8} {c : UInt8} (h : W.all isDig = true) (hc : isDig c = false) (h46 : c ≠ 46) : bodyR neg (W ++ c :: X) = (0, 5) := by
  have hP : ∀ x ∈ W ++ [c], x ≠ 46 := by
    intro x hx e
    rw [List.mem_append] at hx
    rcases hx with hx | hx
    · have := isDig_iff.1 (List.all_eq_true.1 h x hx)
      subst e; simp at this
    · have hx' : x = c := by simpa using hx
      exact h46 (hx'.symm.trans e)
  have hno : ∀ Y : List UInt8, digB (W ++ c :: Y) = false := by
    intro Y; unfold digB; rw [List.all_append, List.all_cons, hc]; simp
  have hi := index_skip (W ++ [c]) X hP
  rw [List.append_assoc, List.singleton_append] at hi
  have hok : okB (Lib.cut (W ++ c :: X) [46]) = false := by
    unfold Lib.cut
    rw [hi]
    by_cases hy : Lib.index X [46] = -1
    · rw [if_pos hy, if_neg (by decide)]
      unfold okB; rw [hno]; rfl
    · rw [if_neg hy]
      have hg := index_ge X
      have hx : 0 ≤ Lib.index X [46] := by omega
      rw [if_pos (by omega)]
      have e : (W ++ c :: X).take (((W ++ [c]).length : Int) + Lib.index X [46]).toNat = W ++ c :: X.take (Lib.index X [46]).toNat := by
        obtain ⟨j, hj⟩ := Int.eq_ofNat_of_zero_le hx
        rw [hj, Int.toNat_natCast, show (((W ++ [c]).length : Int) + (j : Int)).toNat = (W ++ [c]).length + j by omega]
        rw [show W ++ c :: X = (W ++ [c]) ++ X by simp, List.take_length_add_append]; simp
      unfold okB
      rw [e, hno]; rfl
  unfold bodyR; rw [hok]; rfl
end
section
open Go.RowKit
theorem ba_tail (B : List UInt8) : (⟨B.toArray⟩ : ByteArray).extract 1 B.length = ⟨B.tail.toArray⟩ := Go.WideShapes.bytes_inj (by rw [extract_tail])
end
end Go.Proofs.YtpghgjibpbimeaaDoor
