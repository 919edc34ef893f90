/-
  Out of Small, Near, Mul, Round, Fmt, Digits, Print, Parse, TextMath, what is asked for (laid by pack9.py).
-/
import Derived.Test.YtpghgjibpbimeaaGreatDoorProg
import Derived.Test.YtpghgjibpbimeaaGreatDoorShelf
import Derived.BigCall
import Derived.BigGuard
import Derived.BigQuiet
import Derived.Deep.QuietTactic
import Derived.Deep.RegionWith
import Derived.Laws.EntriesVeiled
import Derived.Lib.AppendIntMem
import Derived.Lib.IndexMore
import Derived.Lib.ItoaMem
import Derived.Lib.SmallJoins
import Derived.Lib.Walk
import Derived.WalkKit
import Derived.WalkLawsBesides
import Derived.WalkSpells
namespace Go.Proofs.YtpghgjibpbimeaaGreatDoor
section
open Go.RowKit
theorem hide {p : Prop} (h : p) : Hid p := h
/-- Does a number fit? -/
def fitsB (n : Int) : Bool := decide (-1000000000000000000 ≤ n) && decide (n ≤ 1000000000000000000)
theorem fitsB_true {n : Int} (h : fitsB n = true) : -1000000000000000000 ≤ n ∧ n ≤ 1000000000000000000 := by
  unfold fitsB at h; simp at h; exact h
theorem fitsB_of {n : Int} (h1 : -1000000000000000000 ≤ n) (h2 : n ≤ 1000000000000000000) : fitsB n = true := by
  unfold fitsB; simp; exact ⟨h1, h2⟩
theorem fitsB_not {n : Int} (h : n < -1000000000000000000 ∨ 1000000000000000000 < n) : fitsB n = false := by
  unfold fitsB; simp; omega
/-- A result, if it fits. -/
def told (n : Int) : Int × Int := if fitsB n then (n, 0) else (0, 3)
theorem told_yes {n : Int} (h : fitsB n = true) : told n = (n, 0) := by simp [told, h]
set_option maxHeartbeats 400000 in
theorem fits_any (n : Int) (w : World) :
    Calls Tryz.prog 39 #[.int .i64 n] w fun e w' => e = .returned (.bool (fitsB n)) ∧ w' = w := by
  by_cases h1 : -1000000000000000000 ≤ n
  · by_cases h2 : n ≤ 1000000000000000000
    · go_enter Tryz.func39, Tryz.ntmps39
      go_wp2
      go_ret
      exact ⟨by rw [fitsB_of (by omega) (by omega)]; rfl, rfl⟩
    · go_enter Tryz.func39, Tryz.ntmps39
      go_wp2
      go_ret
      exact ⟨by rw [fitsB_not (by omega)]; rfl, rfl⟩
  · go_enter Tryz.func39, Tryz.ntmps39
    go_wp2
    go_ret
    exact ⟨by rw [fitsB_not (by omega)]; rfl, rfl⟩
set_option maxHeartbeats 400000 in
theorem rfits_any (n : Int) (w : World) :
    Calls Tryz.prog 46 #[.int .i64 n] w fun e w' => e = .returned (.bool (fitsB n)) ∧ w' = w := by
  by_cases h1 : -1000000000000000000 ≤ n
  · by_cases h2 : n ≤ 1000000000000000000
    · go_enter Tryz.func46, Tryz.ntmps46
      go_wp2
      go_ret
      exact ⟨by rw [fitsB_of (by omega) (by omega)]; rfl, rfl⟩
    · go_enter Tryz.func46, Tryz.ntmps46
      go_wp2
      go_ret
      exact ⟨by rw [fitsB_not (by omega)]; rfl, rfl⟩
  · go_enter Tryz.func46, Tryz.ntmps46
    go_wp2
    go_ret
    exact ⟨by rw [fitsB_not (by omega)]; rfl, rfl⟩
set_option maxHeartbeats 400000 in
theorem fitted_any (n : Int) (w : World) :
    Calls Tryz.prog 80 #[.int .i64 n] w fun e w' => e = .returned (.tuple #[.int .i64 (told n).1, .int .i64 (told n).2]) ∧ w' = w := by
  cases h : fitsB n
  all_goals
    go_enter Tryz.func80, Tryz.ntmps80
    go_wp2_with (go_at_call 39; refine (fits_any _ _).mono ?_; rintro e w' ⟨rfl, rfl⟩)
    go_ret2
    exact ⟨by simp [told, h], rfl⟩
end
section
open Go.RowKit
/-- A number without its sign. -/
def absI (n : Int) : Int := if n < 0 then -n else n
theorem absI_neg {n : Int} (h : n < 0) : absI n = -n := by simp [absI, h]
theorem absI_pos {n : Int} (h : 0 ≤ n) : absI n = n := by unfold absI; rw [if_neg (by omega)]
theorem absI_nn (n : Int) : 0 ≤ absI n := by unfold absI; split <;> omega
theorem absI_le {n B : Int} (h1 : -B ≤ n) (h2 : n ≤ B) : absI n ≤ B := by unfold absI; split <;> omega
set_option maxHeartbeats 400000 in
theorem size_any (n : Int) (w : World) (h1 : -1000000000000000000 ≤ n) (h2 : n ≤ 1000000000000000000) :
    Calls Tryz.prog 54 #[.int .i64 n] w fun e w' => e = .returned (.int .u64 (absI n)) ∧ w' = w := by
  by_cases h : n < 0
  · have e := absI_neg h
    go_enter Tryz.func54, Tryz.ntmps54
    go_wp2
    go_ret
    exact ⟨by simp [e], rfl⟩
  · have e := absI_pos (n := n) (by omega)
    go_enter Tryz.func54, Tryz.ntmps54
    go_wp2
    go_ret
    exact ⟨by simp, rfl⟩
set_option maxHeartbeats 400000 in
theorem signed_any (b : Bool) (w : World) :
    Calls Tryz.prog 81 #[.bool b] w fun e w' => e = .returned (.func (.func 94) #[] #[.pointer (some ⟨w.heap.size, 0, none⟩)]) ∧ w' = w.alloc (.cells #[.bool b] 4) := by
  have hmf : ∀ (fn : Fn) (first cap : Array Value) (w : World), (Instr.makeFunc fn first cap).run Tryz.prog w = .ok (.func fn first cap) w := fun _ _ _ _ => rfl
  go_enter Tryz.func81, Tryz.ntmps81
  go_wp2
  go_ret
  exact ⟨rfl, rfl⟩
end
section
open Go.RowKit
/-- A number with a sign. -/
def put (neg : Bool) (q : Int) : Int := if neg then -q else q
set_option maxHeartbeats 400000 in
theorem put_any (q : Int) (neg : Bool) (b : Nat) (w : World) (h0 : 0 ≤ q) (h1 : q ≤ 4000000000000000000) (hc : w.cell? ⟨b, 0, none⟩ = some (.bool neg)) :
    Calls Tryz.prog 94 #[.int .u64 q, .pointer (some ⟨b, 0, none⟩)] w fun e w' => e = .returned (.int .i64 (put neg q)) ∧ w' = w := by
  cases neg
  all_goals
    go_enter Tryz.func94, Tryz.ntmps94
    go_wp2
    go_ret
    exact ⟨by simp [put], rfl⟩
end
section
open Go.RowKit
/-- A power of ten. -/
def p10 (k : Nat) : Int := 10 ^ k
theorem p10_succ (k : Nat) : p10 (k + 1) = p10 k * 10 := by unfold p10; rw [Int.pow_succ]
end
section
open Go.RowKit Go.Sort Go.Lib
/-- The library's table of powers of ten lies as it was laid. -/
def TabOk (w : World) : Prop := Lib.TabIs Tryz.prog w "internal/strconv.uint64pow10" .u64 Lib.pow10Tab
theorem gTab : Tryz.prog.globalNamed "internal/strconv.uint64pow10" = some 2 := by kernel_rfl
theorem tab_below {w w' : World} (h : TabOk w) (hb : Below w.heap.size w w') : TabOk w' := Joins.tab_stays gTab h hb (Nat.le_refl _)
/-- The new block's bytes are a row of zeros. -/
theorem holds_zero0 (w : World) (T : TypeId) (nd : Nat) (hs : nd ≤ 24) : Holds (fun (b : UInt8) => Value.int .u8 (b.toNat : Int)) (w.alloc (.cells zeros24 T)) w.heap.size 0 (Array.replicate nd (0 : UInt8)) := fun j hj => by
  have hj' : j < nd := by simpa using hj
  refine ⟨?_, World.frozen?_alloc_new _ _ _ _⟩
  rw [World.cell?_alloc_new, zeros24_at _ (by omega), getElem!_pos _ j hj]
  simp
theorem fin0 (w : World) (o : Obj) (dk : Array UInt8) (k : Nat) : Below w.heap.size w ((putRow (fun (b : UInt8) => Value.int .u8 (b.toNat : Int)) (w.alloc o) w.heap.size 0 dk).drewN k) := by
  rw [alloc_eq_grow]
  obtain ⟨os', _, e⟩ := putRow_grow_new (fun (b : UInt8) => Value.int .u8 (b.toNat : Int)) w #[o] w.heap.size 0 dk (Nat.le_refl _)
  rw [e]
  exact below_grow w.heap.size w (Nat.le_refl _) k os'
set_option maxHeartbeats 1000000 in
theorem iformatUint_any (u : Nat) (hu64 : u < 18446744073709551616) (w : World) (htab : TabOk w) :
    Calls Tryz.prog 66 #[.int .u64 u, .int .i64 10] w fun e w' => e = .returned (.string ⟨(Lib.decDigits u).toArray⟩) ∧ Below w.heap.size w w' := by
  by_cases hs : u < 100
  · go_enter Tryz.func66, Tryz.ntmps66
    go_wp2_with (go_at_call 56; refine (Tryz.internal_strconv_small u hs _).mono ?_; rintro e w' ⟨rfl, rfl⟩)
    go_ret
    exact ⟨rfl, Below.refl _ _⟩
  · have hu1 : 1 ≤ u := by omega
    have hnd20 : Lib.nDigits u ≤ 20 := by have := Lib.numDigits_eq u hu1 hu64; split at this <;> omega
    have hal : Tryz.prog.arrayLen 84 = 24 := by simp [Program.arrayLen, Tryz.underlying84]
    have hsl : ∀ W, (Instr.sliceAt 84 (.pointer (some ⟨w.heap.size, 0, none⟩)) none (some (.int .i64 (Lib.nDigits u : Int))) none).run Tryz.prog W = .ok (.slice (some ⟨w.heap.size, 0, none⟩) (Lib.nDigits u) 24) W := fun W => by
      rw [run_sliceAt_array_h W 84 ⟨w.heap.size, 0, none⟩ (by simp [Program.arrayLen, Program.elem, Tryz.underlying84]) .i64 (Lib.nDigits u : Int) (by omega) (by rw [hal]; omega)]
      go_simp
    have hH0 := holds_zero0 w 84 (Lib.nDigits u) (by omega)
    have hfmt := Tryz.internal_strconv_formatBase10 w.heap.size 0 24 u (Array.replicate (Lib.nDigits u) 0) (w.alloc (.cells Lib.zeros24 84)) hH0 (by rw [Array.size_replicate]; exact Lib.lt_pow_nDigits u) hu64 (by rw [Array.size_replicate]; omega)
    rw [Array.size_replicate] at hfmt
    have HH0 := hide hH0
    have HF := hide hfmt
    have HT := hide htab
    clear hH0 hal hfmt htab
    go_enter Tryz.func66, Tryz.ntmps66
    go_wp2_with (go_at_call 57; refine (Tryz.internal_strconv_numDigits u hu1 hu64 _ (Lib.tabIs_alloc HT.out _)).mono ?_; rintro e w' ⟨rfl, rfl⟩)
    refine HF.out.mono ?_
    rintro e w' ⟨rfl, k, v', dk, rfl, hF⟩
    have hcv : (convert 54 9 (.slice (some ⟨w.heap.size, 0, none⟩) (Lib.nDigits u) 24)).run Tryz.prog ((putRow (fun (b : UInt8) => Value.int .u8 (b.toNat : Int)) (w.alloc (.cells Lib.zeros24 84)) w.heap.size 0 dk).drewN k) = .ok (.string ⟨(Lib.decDigits u).toArray⟩) ((putRow (fun (b : UInt8) => Value.int .u8 (b.toNat : Int)) (w.alloc (.cells Lib.zeros24 84)) w.heap.size 0 dk).drewN k) := by
      have h := run_convert_bytes_back (P := Tryz.prog) ((putRow (fun (b : UInt8) => Value.int .u8 (b.toNat : Int)) (w.alloc (.cells Lib.zeros24 84)) w.heap.size 0 dk).drewN k) 54 9 5 ⟨w.heap.size, 0, none⟩ 24 (Lib.decDigits u) Tryz.underlying54 Tryz.underlying5 Tryz.underlying9 (fun j hj => by
        rw [Lib.row_is_numeral hF j hj, Lib.add_plain, World.cell?_drewN]
        exact cell?_putRow (fun (b : UInt8) => Value.int .u8 (b.toNat : Int)) _ w.heap.size 0 _ dk HH0.out (by rw [hF.size, Array.size_replicate]) j (by rw [hF.size]; rw [Lib.decDigits_length] at hj; exact hj))
      rw [Lib.decDigits_length] at h
      exact h
    go_wp2
    go_ret
    exact ⟨rfl, fin0 _ _ _ _⟩
set_option maxHeartbeats 400000 in
theorem formatUint_any (u : Int) (h0 : 0 ≤ u) (hu64 : u < 18446744073709551616) (w : World) (htab : TabOk w) :
    Calls Tryz.prog 53 #[.int .u64 u, .int .i64 10] w fun e w' => e = .returned (.string ⟨(Lib.decDigits u.toNat).toArray⟩) ∧ Below w.heap.size w w' := by
  obtain ⟨n, rfl⟩ := Int.eq_ofNat_of_zero_le h0
  rw [Int.toNat_natCast]
  have HF := hide (fun W hW => iformatUint_any n (by omega) W hW)
  have HT := hide htab
  clear htab
  go_enter Tryz.func53, Tryz.ntmps53
  go_wp2_with (go_at_call 66; refine (HF.out _ HT.out).mono ?_; rintro e w' ⟨rfl, hb⟩)
  go_ret
  exact ⟨rfl, hb⟩
end
section
open Go.RowKit
/-- A byte that is a digit. -/
def isDig (c : UInt8) : Bool := decide (48 ≤ c.toNat) && decide (c.toNat ≤ 57)
/-- One or more digits. -/
def digB (l : List UInt8) : Bool := l.all isDig && !l.isEmpty
theorem isDig_iff {c : UInt8} : isDig c = true ↔ 48 ≤ c.toNat ∧ c.toNat ≤ 57 := by unfold isDig; simp
theorem isDig_not {c : UInt8} : isDig c = false ↔ c.toNat < 48 ∨ 57 < c.toNat := by
  unfold isDig; simp; omega
theorem take_snoc (s : ByteArray) (k : Nat) (h : k < s.size) : s.data.toList.take (k + 1) = s.data.toList.take k ++ [s[k]] := by
  rw [List.take_succ_eq_append_getElem (by simpa using h)]; rfl
theorem digB_no {s : ByteArray} {k : Nat} (h : k < s.size) (hd : isDig s[k] = false) : digB s.data.toList = false := by
  unfold digB
  have : s.data.toList.all isDig = false := by
    rw [List.all_eq_false]
    exact ⟨s[k], by rw [ByteArray.getElem_eq_getElem_data]; exact Array.getElem_mem_toList _, by simp [hd]⟩
  rw [this]; rfl
set_option maxHeartbeats 400000 in
theorem isDigits_any (s : ByteArray) (w : World) (hs : s.size ≤ 1000) :
    Calls Tryz.prog 78 #[.string s] w fun e w' => e = .returned (.bool (digB s.data.toList)) ∧ w' = w := by
  go_enter Tryz.func78, Tryz.ntmps78
  go_wp2
  go_loop [6] (fun i => ∃ k : Nat, k ≤ s.size ∧ i = .int .i64 k ∧ (s.data.toList.take k).all isDig = true) (fun i => s.size - (intOf i).toNat)
  case atStart => exact ⟨0, Nat.zero_le _, rfl, rfl⟩
  case round =>
    obtain ⟨k, hk, rfl, hall⟩ := hrel
    by_cases hlt : k < s.size
    · have HS := hide (take_snoc s k hlt)
      have HA := hide hall
      clear hall
      by_cases hd : isDig s[k] = true
      · have hd1 := isDig_iff.1 hd
        have HD := hide hd
        obtain ⟨d1, d2⟩ := hd1
        have d1' : (48 : Int) ≤ (s[k].toNat : Int) := by omega
        have d2' : (s[k].toNat : Int) ≤ 57 := by omega
        clear hd d1 d2
        go_wp2
        go_round
        case rel => exact ⟨k + 1, by omega, by go_num, by rw [HS.out, List.all_append, HA.out]; simp [HD.out]⟩
        case measure => simp [intOf]; omega
      · have HF : Hid (digB s.data.toList = false) := digB_no hlt (by simpa using hd)
        have hd2 : isDig s[k] = false := by simpa using hd
        rcases isDig_not.1 hd2 with d1 | d1
        · have d1' : (s[k].toNat : Int) < 48 := by omega
          clear hd hd2 d1 HS HA
          go_wp2
          go_ret
          exact ⟨by rw [HF.out]; rfl, rfl⟩
        · have d1' : (57 : Int) < (s[k].toNat : Int) := by omega
          have d2' : ¬ (s[k].toNat : Int) < 48 := by omega
          clear hd hd2 d1 HS HA
          go_wp2
          go_ret
          exact ⟨by rw [HF.out]; rfl, rfl⟩
    · have hk2 : k = s.size := by omega
      rw [hk2, List.take_of_length_le (by simp)] at hall
      clear hk2
      have HE : Hid (digB s.data.toList = !s.data.toList.isEmpty) := by show digB _ = _; unfold digB; rw [hall]; rfl
      clear hall
      go_wp2
      go_ret
      exact ⟨by rw [HE.out, ← ByteArray.toList_eq]; rfl, rfl⟩
set_option maxHeartbeats 400000 in
theorem isFraction_any (s : ByteArray) (w : World) (hs : s.size ≤ 1000) :
    Calls Tryz.prog 79 #[.string s] w fun e w' => e = .returned (.bool (digB s.data.toList && decide (s.size ≤ 6))) ∧ w' = w := by
  cases hd : digB s.data.toList
  · go_enter Tryz.func79, Tryz.ntmps79
    go_wp2_with (go_at_call 78; refine (isDigits_any _ _ hs).mono ?_; rintro e w' ⟨rfl, rfl⟩)
    go_ret
    exact ⟨rfl, rfl⟩
  · by_cases h6 : s.size ≤ 6
    · go_enter Tryz.func79, Tryz.ntmps79
      go_wp2_with (go_at_call 78; refine (isDigits_any _ _ hs).mono ?_; rintro e w' ⟨rfl, rfl⟩)
      go_ret
      exact ⟨by simp [h6]; omega, rfl⟩
    · go_enter Tryz.func79, Tryz.ntmps79
      go_wp2_with (go_at_call 78; refine (isDigits_any _ _ hs).mono ?_; rintro e w' ⟨rfl, rfl⟩)
      go_ret
      exact ⟨by simp; omega, rfl⟩
/-- One digit more, up to MaxNum + 1. -/
def gath (n : Int) (c : UInt8) : Int := min (n * 10 + ((c.toNat : Int) - 48)) 1000000000000000001
/-- The number that digits make, or MaxNum + 1. -/
def gatherN (l : List UInt8) : Int := l.foldl gath 0
theorem gath_bd {n : Int} {c : UInt8} (hn : 0 ≤ n) (hc : 48 ≤ c.toNat) : 0 ≤ gath n c ∧ gath n c ≤ 1000000000000000001 := by
  unfold gath; omega
theorem gatherN_snoc (l : List UInt8) (c : UInt8) : gatherN (l ++ [c]) = gath (gatherN l) c := by unfold gatherN; rw [List.foldl_append]; rfl
theorem fold_bd : ∀ (l : List UInt8) (n : Int), 0 ≤ n → n ≤ 1000000000000000001 → l.all isDig = true → 0 ≤ l.foldl gath n ∧ l.foldl gath n ≤ 1000000000000000001
  | [], n, h0, h1, _ => ⟨h0, h1⟩
  | c :: l, n, h0, _, h => by
    rw [List.all_cons, Bool.and_eq_true] at h
    have hb := gath_bd h0 (isDig_iff.1 h.1).1
    exact fold_bd l _ hb.1 hb.2 h.2
theorem gatherN_bd {l : List UInt8} (h : l.all isDig = true) : 0 ≤ gatherN l ∧ gatherN l ≤ 1000000000000000001 := fold_bd l 0 (by decide) (by decide) h
theorem all_take {l : List UInt8} (h : l.all isDig = true) (k : Nat) : (l.take k).all isDig = true := by
  rw [List.all_eq_true] at *
  exact fun x hx => h x (List.mem_of_mem_take hx)
theorem dig_at {s : ByteArray} (h : s.data.toList.all isDig = true) (k : Nat) (hk : k < s.size) : 48 ≤ s[k].toNat ∧ s[k].toNat ≤ 57 := by
  rw [List.all_eq_true] at h
  exact isDig_iff.1 (h _ (by rw [ByteArray.getElem_eq_getElem_data]; exact Array.getElem_mem_toList _))
set_option maxHeartbeats 400000 in
theorem gather_any (s : ByteArray) (w : World) (hs : s.size ≤ 1000) (hd : s.data.toList.all isDig = true) :
    Calls Tryz.prog 82 #[.string s] w fun e w' => e = .returned (.int .u64 (gatherN s.data.toList)) ∧ w' = w := by
  have HD := hide hd
  clear hd
  go_enter Tryz.func82, Tryz.ntmps82
  go_wp2
  go_loop [3, 7] (fun n i => ∃ k : Nat, k ≤ s.size ∧ i = .int .i64 k ∧ n = .int .u64 (gatherN (s.data.toList.take k))) (fun _ i => s.size - (intOf i).toNat)
  case atStart => exact ⟨0, Nat.zero_le _, rfl, rfl⟩
  case round =>
    obtain ⟨k, hk, rfl, rfl⟩ := hrel
    by_cases hlt : k < s.size
    · obtain ⟨d1, d2⟩ := dig_at HD.out k hlt
      obtain ⟨g1, g2⟩ := gatherN_bd (all_take HD.out k)
      have HS : Hid (gatherN (s.data.toList.take (k + 1)) = min (gatherN (s.data.toList.take k) * 10 + ((s[k].toNat : Int) - 48)) 1000000000000000001) := by
        show gatherN _ = _
        rw [take_snoc s k hlt, gatherN_snoc]; rfl
      have d1' : (48 : Int) ≤ (s[k].toNat : Int) := by omega
      have d2' : (s[k].toNat : Int) ≤ 57 := by omega
      clear d1 d2
      generalize gatherN (s.data.toList.take k) = n at *
      go_wp2
      go_round
      case rel => exact ⟨k + 1, by omega, by go_num, by rw [HS.out]⟩
      case measure => simp [intOf]; omega
    · have hk2 : k = s.size := by omega
      rw [hk2, List.take_of_length_le (by simp)]
      go_wp2
      go_ret
      exact ⟨rfl, rfl⟩
end
section
open Go.RowKit Go.Sort Go.Lib
/-- The fraction's digits, six of them, then those up to the last that is not 0. -/
def frac6 (m : Int) : List UInt8 := (Lib.decDigits (m % 1000000 + 1000000).toNat).tail
def fracT (m : Int) : List UInt8 := Lib.trimRightB (frac6 m) 48
/-- A number's text. -/
def textOf (n : Int) : List UInt8 :=
  (if n < 0 then [45] else []) ++ Lib.decDigits (absI n / 1000000).toNat ++ (if fracT (absI n) = [] then [] else 46 :: fracT (absI n))
theorem dec_len {u : Nat} (h : u < 18446744073709551616) : (Lib.decDigits u).length ≤ 20 := by
  rw [Lib.decDigits_length]
  by_cases h1 : 1 ≤ u
  · have := Lib.numDigits_eq u h1 h; split at this <;> omega
  · have : u = 0 := by omega
    subst this
    rw [Lib.nDigits_small (by omega)]; omega
theorem dec_pos (u : Nat) : 1 ≤ (Lib.decDigits u).length := by
  rw [Lib.decDigits_length]
  by_cases h : u < 10
  · rw [Lib.nDigits_small h]; exact Nat.le_refl _
  · rw [Lib.nDigits_big h]; omega
theorem extract_tail (B : List UInt8) : ((⟨B.toArray⟩ : ByteArray).extract 1 B.length).data.toList = B.tail := by
  simp [ByteArray.extract, ByteArray.copySlice]
  exact List.take_of_length_le (by simp)
theorem ba_app (a b : List UInt8) : (⟨a.toArray⟩ : ByteArray) ++ ⟨b.toArray⟩ = ⟨(a ++ b).toArray⟩ := ByteArray.ext (by simp)
theorem text_dot (S A F : List UInt8) : (⟨(S ++ A ++ 46 :: F).toArray⟩ : ByteArray) = (⟨S.toArray⟩ ++ ⟨A.toArray⟩) ++ (⟨#[46]⟩ ++ ⟨F.toArray⟩) := by
  have h : (⟨#[46]⟩ : ByteArray) = ⟨([46] : List UInt8).toArray⟩ := rfl
  rw [h, ba_app, ba_app, ba_app]; rfl
theorem trim_len (l : List UInt8) (c : UInt8) : (Lib.trimRightB l c).length ≤ l.length := by
  unfold Lib.trimRightB
  rw [List.length_reverse]
  refine Nat.le_trans (List.dropWhile_sublist _).length_le ?_
  rw [List.length_reverse]; exact Nat.le_refl _
set_option maxHeartbeats 1000000 in
theorem print_good (n : Int) (w : World) (h : fitsB n = true) (htab : TabOk w) :
    Calls Tryz.prog 44 #[.int .i64 n] w fun e w' => e = .returned (.tuple #[.string ⟨(textOf n).toArray⟩, .int .i64 0]) ∧ Below w.heap.size w w' := by
  obtain ⟨n1, n2⟩ := fitsB_true h
  have x0 := absI_nn n
  have x1 := absI_le n1 n2
  have HF1 : Hid (∀ W : World, TabOk W → Calls Tryz.prog 53 #[.int .u64 (absI n / 1000000), .int .i64 10] W fun e w' => e = .returned (.string ⟨(Lib.decDigits (absI n / 1000000).toNat).toArray⟩) ∧ Below W.heap.size W w') := fun W hW => formatUint_any _ (by omega) (by omega) W hW
  have HF2 : Hid (∀ W : World, TabOk W → Calls Tryz.prog 53 #[.int .u64 (absI n % 1000000 + 1000000), .int .i64 10] W fun e w' => e = .returned (.string ⟨(Lib.decDigits (absI n % 1000000 + 1000000).toNat).toArray⟩) ∧ Below W.heap.size W w') := fun W hW => formatUint_any _ (by omega) (by omega) W hW
  have HX : Hid (textOf n = (if n < 0 then [45] else []) ++ Lib.decDigits (absI n / 1000000).toNat ++ (if Lib.trimRightB (Lib.decDigits (absI n % 1000000 + 1000000).toNat).tail 48 = [] then [] else 46 :: Lib.trimRightB (Lib.decDigits (absI n % 1000000 + 1000000).toNat).tail 48)) := rfl
  have lA := dec_len (u := (absI n / 1000000).toNat) (by omega)
  have lB := dec_len (u := (absI n % 1000000 + 1000000).toNat) (by omega)
  have pB := dec_pos (absI n % 1000000 + 1000000).toNat
  generalize Lib.decDigits (absI n / 1000000).toNat = A at *
  generalize Lib.decDigits (absI n % 1000000 + 1000000).toNat = B at *
  have HR : Hid (∀ W : World, Calls Tryz.prog 55 #[.string ((⟨B.toArray⟩ : ByteArray).extract 1 B.length), .string ⟨#[48]⟩] W fun e w' => e = .returned (.string ⟨(Lib.trimRightB B.tail 48).toArray⟩) ∧ w' = W) := fun W => by
    have := Tryz.strings_TrimRight_one ((⟨B.toArray⟩ : ByteArray).extract 1 B.length) 48 (by decide) W (by
      show ((⟨B.toArray⟩ : ByteArray).extract 1 B.length).data.size ≤ _
      rw [← Array.length_toList, extract_tail, List.length_tail]; omega)
    rw [extract_tail] at this
    exact this
  have lF : (Lib.trimRightB B.tail 48).length ≤ 20 := by
    have h1 := trim_len B.tail 48
    rw [List.length_tail] at h1; omega
  generalize Lib.trimRightB B.tail 48 = F at *
  have HT := hide htab
  clear htab
  by_cases hn : n < 0
  · go_enter Tryz.func44, Tryz.ntmps44
    go_wp2_with (first | (go_at_call 39; refine (fits_any _ _).mono ?_; rintro e w' ⟨rfl, rfl⟩) | (go_at_call 54; refine (size_any _ _ n1 n2).mono ?_; rintro e w' ⟨rfl, rfl⟩))
    refine (HF1.out _ HT.out).mono ?_
    rintro e w1 ⟨rfl, hb1⟩
    have HT1 := hide (tab_below HT.out hb1)
    go_wp2_with (go_at_call 54; refine (size_any _ _ n1 n2).mono ?_; rintro e w1 ⟨rfl, rfl⟩)
    refine (HF2.out _ HT1.out).mono ?_
    rintro e w2 ⟨rfl, hb2⟩
    by_cases hF : F = []
    · subst hF
      go_wp2_with (go_at_call 55; refine (HR.out _).mono ?_; rintro e w3 ⟨rfl, rfl⟩)
      go_ret2
      refine ⟨?_, hb1.trans (hb2.mono hb1.size)⟩
      rw [HX.out, if_pos hn, if_pos trivial, List.append_nil, ← ba_app]
      rfl
    · have tF : F.isEmpty = false := by cases F with | nil => exact absurd rfl hF | cons _ _ => rfl
      go_wp2_with (go_at_call 55; refine (HR.out _).mono ?_; rintro e w3 ⟨rfl, rfl⟩)
      go_ret2
      refine ⟨?_, hb1.trans (hb2.mono hb1.size)⟩
      rw [HX.out, if_pos hn, if_neg hF, text_dot]
      rfl
  · go_enter Tryz.func44, Tryz.ntmps44
    go_wp2_with (first | (go_at_call 39; refine (fits_any _ _).mono ?_; rintro e w' ⟨rfl, rfl⟩) | (go_at_call 54; refine (size_any _ _ n1 n2).mono ?_; rintro e w' ⟨rfl, rfl⟩))
    refine (HF1.out _ HT.out).mono ?_
    rintro e w1 ⟨rfl, hb1⟩
    have HT1 := hide (tab_below HT.out hb1)
    go_wp2_with (go_at_call 54; refine (size_any _ _ n1 n2).mono ?_; rintro e w1 ⟨rfl, rfl⟩)
    refine (HF2.out _ HT1.out).mono ?_
    rintro e w2 ⟨rfl, hb2⟩
    by_cases hF : F = []
    · subst hF
      go_wp2_with (go_at_call 55; refine (HR.out _).mono ?_; rintro e w3 ⟨rfl, rfl⟩)
      go_ret2
      refine ⟨?_, hb1.trans (hb2.mono hb1.size)⟩
      rw [HX.out, if_neg (by omega), if_pos trivial, List.append_nil, ← ba_app]
      rfl
    · have tF : F.isEmpty = false := by cases F with | nil => exact absurd rfl hF | cons _ _ => rfl
      go_wp2_with (go_at_call 55; refine (HR.out _).mono ?_; rintro e w3 ⟨rfl, rfl⟩)
      go_ret2
      refine ⟨?_, hb1.trans (hb2.mono hb1.size)⟩
      rw [HX.out, if_neg (by omega), if_neg hF, text_dot]
      rfl
end
section
open Go.RowKit
/-- Is a text, without its minus and cut at its point, a number's? -/
def okB (c : List UInt8 × List UInt8 × Bool) : Bool := digB c.1 && (!c.2.2 || (digB c.2.1 && decide (c.2.1.length ≤ 6)))
/-- All digits of a number's text, six behind the point. -/
def allDigits (c : List UInt8 × List UInt8 × Bool) : List UInt8 := c.1 ++ c.2.1 ++ List.replicate (6 - c.2.1.length) 48
/-- What Parse says. -/
def parseR (l : List UInt8) : Int × Int :=
  if 40 < l.length then (0, 5)
  else if okB (Lib.cut (Lib.trimPrefix l [45]) [46]) then told (put (Lib.hasPrefix l [45]) (gatherN (allDigits (Lib.cut (Lib.trimPrefix l [45]) [46])))) else (0, 5)
theorem cut_none {s sep : List UInt8} (h : (Lib.cut s sep).2.2 = false) : Lib.cut s sep = (s, [], false) := by
  unfold Lib.cut at *
  split at h
  · cases h
  · rename_i c; rw [if_neg c]
theorem cut_len (s sep : List UInt8) : (Lib.cut s sep).1.length ≤ s.length ∧ (Lib.cut s sep).2.1.length ≤ s.length := by
  unfold Lib.cut
  split
  · simp; omega
  · simp
theorem trimP_len (s p : List UInt8) : (Lib.trimPrefix s p).length ≤ s.length := by
  unfold Lib.trimPrefix; split <;> simp
theorem ok_digits {c : List UInt8 × List UInt8 × Bool} (h : okB c = true) (hn : c.2.2 = false → c.2.1 = []) : c.1.all isDig = true ∧ c.2.1.all isDig = true ∧ c.2.1.length ≤ 6 := by
  unfold okB digB at h
  obtain ⟨x, y, p⟩ := c
  cases p
  · have := hn rfl
    simp at this h ⊢
    subst this
    exact ⟨fun a ha => h.1 a ha, by simp, by simp⟩
  · simp at h ⊢
    exact ⟨h.1.1, h.2.1.1, h.2.2⟩
theorem all_digits {c : List UInt8 × List UInt8 × Bool} (h : okB c = true) (hn : c.2.2 = false → c.2.1 = []) : (allDigits c).all isDig = true := by
  obtain ⟨h1, h2, _⟩ := ok_digits h hn
  unfold allDigits
  rw [List.all_append, List.all_append, h1, h2, List.all_replicate]
  have : isDig 48 = true := by decide
  rw [this]; simp
theorem noughts_drop (k : Nat) (h : k ≤ 6) : ((⟨#[48, 48, 48, 48, 48, 48]⟩ : ByteArray).extract k 6) = ⟨(List.replicate (6 - k) 48).toArray⟩ := by
  have : k = 0 ∨ k = 1 ∨ k = 2 ∨ k = 3 ∨ k = 4 ∨ k = 5 ∨ k = 6 := by omega
  rcases this with h | h | h | h | h | h | h <;> subst h <;> rfl
set_option maxHeartbeats 1000000 in
theorem parse_any (s : ByteArray) (w : World) (m : Int) (hm : w.cell? ⟨5, 0, none⟩ = some (.int .i64 m)) (hs : s.size ≤ maxLen) :
    Calls Tryz.prog 60 #[.string s] w fun e w' => e = .returned (.tuple #[.int .i64 (parseR s.data.toList).1, .int .i64 (parseR s.data.toList).2]) ∧ Below w.heap.size w w' := by
  unfold maxLen at hs
  have hsz : s.size = s.data.toList.length := by simp
  by_cases h40 : 40 < s.size
  · have HE : Hid (parseR s.data.toList = (0, 5)) := by show parseR _ = _; unfold parseR; rw [if_pos (by omega)]
    clear hm hsz
    go_enter Tryz.func60, Tryz.ntmps60
    go_wp2
    go_ret2
    exact ⟨by rw [HE.out]; rfl, Below.refl _ _⟩
  · have HP := hide (fun W : World => Tryz.strings_CutPrefix s ⟨#[45]⟩ W)
    have e45 : (⟨#[45]⟩ : ByteArray).data.toList = [45] := rfl
    rw [e45] at HP
    have hpr : parseR s.data.toList = if okB (Lib.cut (Lib.trimPrefix s.data.toList [45]) [46]) then told (put (Lib.hasPrefix s.data.toList [45]) (gatherN (allDigits (Lib.cut (Lib.trimPrefix s.data.toList [45]) [46])))) else (0, 5) := by
      unfold parseR; rw [if_neg (by omega)]
    have hl := trimP_len s.data.toList [45]
    generalize Lib.hasPrefix s.data.toList [45] = neg at *
    generalize Lib.trimPrefix s.data.toList [45] = rest at *
    have HC := hide (fun (W : World) hW => Tryz.strings_Cut ⟨rest.toArray⟩ ⟨#[46]⟩ m W (by show rest.toArray.size < _; rw [List.size_toArray]; omega) hW)
    have e46 : (⟨#[46]⟩ : ByteArray).data.toList = [46] := rfl
    have er : (⟨rest.toArray⟩ : ByteArray).data.toList = rest := rfl
    rw [e46, er] at HC
    have hcl := cut_len rest [46]
    have hcn : (Lib.cut rest [46]).2.2 = false → (Lib.cut rest [46]).2.1 = [] := fun h => by rw [cut_none h]
    generalize Lib.cut rest [46] = c at *
    obtain ⟨whole, frac, pt⟩ := c
    have hcl1 : whole.length ≤ rest.length := hcl.1
    have hcl2 : frac.length ≤ rest.length := hcl.2
    have hcn' : pt = false → frac = [] := hcn
    clear hcl hcn
    have HC' : Hid (∀ W : World, W.cell? ⟨5, 0, none⟩ = some (.int .i64 m) → Calls Tryz.prog 77 #[.string ⟨rest.toArray⟩, .string ⟨#[46]⟩] W fun e w' => e = .returned (.tuple #[.string ⟨whole.toArray⟩, .string ⟨frac.toArray⟩, .bool pt]) ∧ ∃ n, w' = W.drewN n) := HC.out
    have HP' : Hid (∀ W : World, Calls Tryz.prog 76 #[.string s, .string ⟨#[45]⟩] W fun e w' => e = .returned (.tuple #[.string ⟨rest.toArray⟩, .bool neg]) ∧ w' = W) := HP.out
    have HM := hide hm
    have HDw := hide (fun W : World => isDigits_any ⟨whole.toArray⟩ W (by show whole.toArray.size ≤ _; rw [List.size_toArray]; omega))
    have HDf := hide (fun W : World => isFraction_any ⟨frac.toArray⟩ W (by show frac.toArray.size ≤ _; rw [List.size_toArray]; omega))
    have HDw' : Hid (∀ W : World, Calls Tryz.prog 78 #[.string ⟨whole.toArray⟩] W fun e w' => e = .returned (.bool (digB whole)) ∧ w' = W) := HDw.out
    have HDf' : Hid (∀ W : World, Calls Tryz.prog 79 #[.string ⟨frac.toArray⟩] W fun e w' => e = .returned (.bool (digB frac && decide (frac.length ≤ 6))) ∧ w' = W) := by
      have h : (⟨frac.toArray⟩ : ByteArray).size = frac.length := by show frac.toArray.size = _; rw [List.size_toArray]
      rw [h] at HDf; exact HDf.out
    have wl : whole.length ≤ 40 := by omega
    have fl : frac.length ≤ 40 := by omega
    have HN := hide hcn'
    have HR := hide hpr
    clear HC HP hm HDw HDf hcn' hpr e45 e46 er hsz
    cases hw : digB whole
    · have HE : Hid (parseR s.data.toList = (0, 5)) := by show parseR _ = _; rw [HR.out]; simp [okB, hw]
      go_enter Tryz.func60, Tryz.ntmps60
      go_wp2_with (first | (go_at_call 76; refine (HP'.out _).mono ?_; rintro e w' ⟨rfl, rfl⟩) | (go_at_call 77; refine (HC'.out _ HM.out).mono ?_; rintro e w1 ⟨rfl, nd, rfl⟩) | (go_at_call 78; refine (HDw'.out _).mono ?_; rintro e w2 ⟨rfl, rfl⟩))
      go_ret2
      exact ⟨by rw [HE.out]; rfl, below_drewN (Below.refl _ _) _⟩
    · cases hf : (!pt || (digB frac && decide (frac.length ≤ 6)))
      · have hno : okB (whole, frac, pt) = false := by simp only [okB, hw, Bool.true_and]; exact hf
        have HE : Hid (parseR s.data.toList = (0, 5)) := by show parseR _ = _; rw [HR.out, hno]; rfl
        clear hno
        have hp1 : pt = true := by cases pt <;> simp at hf ⊢
        have hp2 : (digB frac && decide (frac.length ≤ 6)) = false := by subst hp1; simpa using hf
        clear hf
        rw [hp2] at HDf'
        clear hp2
        subst hp1
        go_enter Tryz.func60, Tryz.ntmps60
        go_wp2_with (first | (go_at_call 76; refine (HP'.out _).mono ?_; rintro e w' ⟨rfl, rfl⟩) | (go_at_call 77; refine (HC'.out _ HM.out).mono ?_; rintro e w1 ⟨rfl, nd, rfl⟩) | (go_at_call 78; refine (HDw'.out _).mono ?_; rintro e w2 ⟨rfl, rfl⟩) | (go_at_call 79; refine (HDf'.out _).mono ?_; rintro e w2 ⟨rfl, rfl⟩))
        go_ret2
        exact ⟨by rw [HE.out]; rfl, below_drewN (Below.refl _ _) _⟩
      · have hok : okB (whole, frac, pt) = true := by simp only [okB, hw, Bool.true_and]; exact hf
        have hall := all_digits hok HN.out
        obtain ⟨_, _, hf6⟩ := ok_digits hok HN.out
        have hf6' : frac.length ≤ 6 := hf6
        have HE : Hid (parseR s.data.toList = told (put neg (gatherN (allDigits (whole, frac, pt))))) := by show parseR _ = _; rw [HR.out, if_pos hok]
        obtain ⟨g1, g2⟩ := gatherN_bd hall
        have HG : Hid (∀ W : World, Calls Tryz.prog 82 #[.string ((⟨whole.toArray⟩ : ByteArray) ++ ⟨frac.toArray⟩ ++ (⟨#[48, 48, 48, 48, 48, 48]⟩ : ByteArray).extract frac.length 6)] W fun e w' => e = .returned (.int .u64 (gatherN (allDigits (whole, frac, pt)))) ∧ w' = W) := by
          intro W
          have e : ((⟨whole.toArray⟩ : ByteArray) ++ ⟨frac.toArray⟩ ++ (⟨#[48, 48, 48, 48, 48, 48]⟩ : ByteArray).extract frac.length 6) = ⟨(allDigits (whole, frac, pt)).toArray⟩ := by
            rw [noughts_drop _ hf6', ba_app, ba_app]; rfl
          rw [e]
          exact gather_any ⟨(allDigits (whole, frac, pt)).toArray⟩ W (by show (allDigits (whole, frac, pt)).toArray.size ≤ _; rw [List.size_toArray]; simp [allDigits]; omega) hall
        generalize gatherN (allDigits (whole, frac, pt)) = G at *
        clear hall hok hf6 HR
        cases pt
        · clear hf HDf'
          go_enter Tryz.func60, Tryz.ntmps60
          go_wp2_with (first | (go_at_call 76; refine (HP'.out _).mono ?_; rintro e w' ⟨rfl, rfl⟩) | (go_at_call 77; refine (HC'.out _ HM.out).mono ?_; rintro e w1 ⟨rfl, nd, rfl⟩) | (go_at_call 78; refine (HDw'.out _).mono ?_; rintro e w2 ⟨rfl, rfl⟩) | (go_at_call 81; refine (signed_any _ _).mono ?_; rintro e w3 ⟨rfl, rfl⟩))
          refine (HG.out _).mono ?_
          rintro e w4 ⟨rfl, rfl⟩
          go_wp2_with fail
          refine (put_any G neg _ _ g1 (by omega) (by exact World.cell?_alloc_new _ _ _ 0)).mono ?_
          rintro e w5 ⟨rfl, rfl⟩
          go_wp2_with (go_at_call 80; refine (fitted_any _ _).mono ?_; rintro e w2 ⟨rfl, rfl⟩)
          go_ret2
          exact ⟨by rw [HE.out]; rfl, (below_drewN (Below.refl _ _) _).alloc (Nat.le_refl _) _⟩
        · have hp2 : (digB frac && decide (frac.length ≤ 6)) = true := by simpa using hf
          clear hf
          rw [hp2] at HDf'
          clear hp2
          go_enter Tryz.func60, Tryz.ntmps60
          go_wp2_with (first | (go_at_call 76; refine (HP'.out _).mono ?_; rintro e w' ⟨rfl, rfl⟩) | (go_at_call 77; refine (HC'.out _ HM.out).mono ?_; rintro e w1 ⟨rfl, nd, rfl⟩) | (go_at_call 78; refine (HDw'.out _).mono ?_; rintro e w2 ⟨rfl, rfl⟩) | (go_at_call 79; refine (HDf'.out _).mono ?_; rintro e w2 ⟨rfl, rfl⟩) | (go_at_call 81; refine (signed_any _ _).mono ?_; rintro e w3 ⟨rfl, rfl⟩))
          refine (HG.out _).mono ?_
          rintro e w4 ⟨rfl, rfl⟩
          go_wp2_with fail
          refine (put_any G neg _ _ g1 (by omega) (by exact World.cell?_alloc_new _ _ _ 0)).mono ?_
          rintro e w5 ⟨rfl, rfl⟩
          go_wp2_with (go_at_call 80; refine (fitted_any _ _).mono ?_; rintro e w2 ⟨rfl, rfl⟩)
          go_ret2
          exact ⟨by rw [HE.out]; rfl, (below_drewN (Below.refl _ _) _).alloc (Nat.le_refl _) _⟩
end
section
open Go.RowKit
/-- One digit more. -/
def vstep (n : Int) (c : UInt8) : Int := n * 10 + ((c.toNat : Int) - 48)
/-- The number that digits make. -/
def val (l : List UInt8) : Int := l.foldl vstep 0
theorem fold_min : ∀ (l : List UInt8) (a : Int), 0 ≤ a → l.all isDig = true → l.foldl gath (min a 1000000000000000001) = min (l.foldl vstep a) 1000000000000000001
  | [], _, _, _ => rfl
  | c :: l, a, ha, h => by
    rw [List.all_cons, Bool.and_eq_true] at h
    have hc := isDig_iff.1 h.1
    rw [List.foldl_cons, List.foldl_cons]
    have e : gath (min a 1000000000000000001) c = min (vstep a c) 1000000000000000001 := by unfold gath vstep; omega
    rw [e]
    exact fold_min l _ (by unfold vstep; omega) h.2
theorem gather_val {l : List UInt8} (h : l.all isDig = true) : gatherN l = min (val l) 1000000000000000001 := fold_min l 0 (by decide) h
theorem fold_base : ∀ (l : List UInt8) (a : Int), l.foldl vstep a = a * p10 l.length + val l
  | [], a => by simp [val, p10]
  | c :: l, a => by
    have h1 := fold_base l (vstep a c)
    have h2 := fold_base l (vstep 0 c)
    unfold val
    rw [List.foldl_cons, List.foldl_cons, h1, h2, List.length_cons, p10_succ]
    have e : vstep a c = a * 10 + vstep 0 c := by unfold vstep; omega
    rw [e, Int.add_mul, Int.mul_assoc, Int.mul_comm 10]
    omega
theorem val_app (a b : List UInt8) : val (a ++ b) = val a * p10 b.length + val b := by
  have := fold_base b (val a)
  unfold val at *
  rw [List.foldl_append]; exact this
theorem val_cons (c : UInt8) (l : List UInt8) : val (c :: l) = ((c.toNat : Int) - 48) * p10 l.length + val l := by
  have := fold_base l (vstep 0 c)
  unfold val at *
  rw [List.foldl_cons, this]
  unfold vstep; simp
theorem val_bd : ∀ {l : List UInt8}, l.all isDig = true → 0 ≤ val l ∧ val l < p10 l.length
  | [], _ => by simp [val, p10]
  | c :: l, h => by
    rw [List.all_cons, Bool.and_eq_true] at h
    have hc := isDig_iff.1 h.1
    have hb := val_bd h.2
    rw [val_cons, List.length_cons, p10_succ]
    have h1 : 0 ≤ ((c.toNat : Int) - 48) * p10 l.length := Int.mul_nonneg (by omega) (by omega)
    have h2 : ((c.toNat : Int) - 48) * p10 l.length ≤ 9 * p10 l.length := Int.mul_le_mul_of_nonneg_right (by omega) (by omega)
    omega
theorem dig_ofNat {r : Nat} (h : r < 10) : isDig (UInt8.ofNat (48 + r)) = true ∧ ((UInt8.ofNat (48 + r)).toNat : Int) - 48 = r := by
  have e : (UInt8.ofNat (48 + r)).toNat = 48 + r := by rw [UInt8.toNat_ofNat']; omega
  exact ⟨isDig_iff.2 (by omega), by omega⟩
theorem dec_facts : ∀ (k u : Nat), u ≤ k → (Lib.decDigits u).all isDig = true ∧ val (Lib.decDigits u) = u
  | 0, u, hk => by
    have h : u < 10 := by omega
    have e : Lib.decDigits u = [UInt8.ofNat (48 + u)] := by rw [Lib.decDigits, dif_pos h]
    have hd := dig_ofNat h
    rw [e]
    generalize UInt8.ofNat (48 + u) = c at *
    refine ⟨by rw [List.all_cons, hd.1]; rfl, ?_⟩
    rw [val_cons, hd.2]; simp [val, p10]
  | k + 1, u, hk => by
    by_cases h : u < 10
    · have e : Lib.decDigits u = [UInt8.ofNat (48 + u)] := by rw [Lib.decDigits, dif_pos h]
      have hd := dig_ofNat h
      rw [e]
      generalize UInt8.ofNat (48 + u) = c at *
      refine ⟨by rw [List.all_cons, hd.1]; rfl, ?_⟩
      rw [val_cons, hd.2]; simp [val, p10]
    · have e : Lib.decDigits u = Lib.decDigits (u / 10) ++ [UInt8.ofNat (48 + u % 10)] := by rw [Lib.decDigits, dif_neg h]
      have ih := dec_facts k (u / 10) (by omega)
      have hd := dig_ofNat (r := u % 10) (by omega)
      rw [e]
      generalize UInt8.ofNat (48 + u % 10) = c at *
      refine ⟨by rw [List.all_append, ih.1, List.all_cons, hd.1]; rfl, ?_⟩
      rw [val_app, ih.2, val_cons, hd.2]
      simp [val, p10]
      omega
theorem dec_all (u : Nat) : (Lib.decDigits u).all isDig = true := (dec_facts u u (Nat.le_refl _)).1
theorem dec_val (u : Nat) : val (Lib.decDigits u) = u := (dec_facts u u (Nat.le_refl _)).2
theorem dec_ne (u : Nat) : Lib.decDigits u ≠ [] := fun h => by have := dec_pos u; rw [h] at this; simp at this
theorem seven {u : Nat} (h1 : 1000000 ≤ u) (h2 : u < 2000000) : (Lib.decDigits u).length = 7 := by
  rw [Lib.decDigits_length, Lib.nDigits_big (by omega), Lib.nDigits_big (by omega), Lib.nDigits_big (by omega), Lib.nDigits_big (by omega), Lib.nDigits_big (by omega), Lib.nDigits_big (by omega), Lib.nDigits_small (by omega)]
theorem frac6_facts (m : Int) : (frac6 m).length = 6 ∧ (frac6 m).all isDig = true ∧ val (frac6 m) = m % 1000000 := by
  unfold frac6
  obtain ⟨u, hu⟩ : ∃ u : Nat, (m % 1000000 + 1000000).toNat = u := ⟨_, rfl⟩
  rw [hu]
  have hl := seven (u := u) (by omega) (by omega)
  have ha := dec_all u
  have hv := dec_val u
  generalize Lib.decDigits u = l at *
  match l, hl, ha, hv with
  | c :: t, hl, ha, hv =>
    rw [List.all_cons, Bool.and_eq_true] at ha
    have hc := isDig_iff.1 ha.1
    have hb := val_bd ha.2
    have ht : t.length = 6 := by simpa using hl
    rw [val_cons, ht] at hv
    rw [ht] at hb
    have e6 : p10 6 = 1000000 := by decide
    rw [e6] at hv hb
    exact ⟨ht, ha.2, by show val t = _; omega⟩
theorem trim_back (l : List UInt8) (c : UInt8) : Lib.trimRightB l c ++ List.replicate (l.length - (Lib.trimRightB l c).length) c = l := by
  unfold Lib.trimRightB
  have h := List.takeWhile_append_dropWhile (p := (· == c)) (l := l.reverse)
  have h1 : l.reverse.takeWhile (· == c) = List.replicate (l.reverse.takeWhile (· == c)).length c := by
    rw [List.eq_replicate_iff]
    refine ⟨rfl, fun b hb => ?_⟩
    have := List.all_eq_true.1 (List.all_takeWhile (p := (· == c)) (l := l.reverse)) b hb
    simpa using this
  have h2 := congrArg List.length h
  rw [List.length_append, List.length_reverse] at h2
  rw [List.length_reverse]
  have h3 : l.length - (l.reverse.dropWhile (· == c)).length = (l.reverse.takeWhile (· == c)).length := by omega
  rw [h3, ← List.reverse_replicate, ← List.reverse_append, ← h1, h, List.reverse_reverse]
theorem fracT_facts (m : Int) : (fracT m).length ≤ 6 ∧ (fracT m).all isDig = true ∧ fracT m ++ List.replicate (6 - (fracT m).length) 48 = frac6 m := by
  obtain ⟨h1, h2, _⟩ := frac6_facts m
  have h3 := trim_back (frac6 m) 48
  have h4 := trim_len (frac6 m) 48
  rw [h1] at h3 h4
  refine ⟨h4, ?_, h3⟩
  rw [← h3, List.all_append, Bool.and_eq_true] at h2
  exact h2.1
theorem index_here : ∀ (W F : List UInt8), W.all isDig = true → Lib.index (W ++ 46 :: F) [46] = W.length
  | [], F, _ => by simp [Lib.index]
  | c :: W, F, h => by
    rw [List.all_cons, Bool.and_eq_true] at h
    have hc := isDig_iff.1 h.1
    have hne : (46 : UInt8) ≠ c := fun e => by subst e; simp at hc
    have ih := index_here W F h.2
    rw [List.cons_append, Lib.index, ih]
    have e : List.isPrefixOf [46] (c :: (W ++ 46 :: F)) = false := by simp [List.isPrefixOf, hne]
    rw [e]
    have e2 : ((W.length : Int) == -1) = false := by rw [beq_eq_false_iff_ne]; omega
    rw [e2]; simp
theorem index_none : ∀ (W : List UInt8), W.all isDig = true → Lib.index W [46] = -1
  | [], _ => by simp [Lib.index]
  | c :: W, h => by
    rw [List.all_cons, Bool.and_eq_true] at h
    have hc := isDig_iff.1 h.1
    have hne : (46 : UInt8) ≠ c := fun e => by subst e; simp at hc
    have ih := index_none W h.2
    rw [Lib.index, ih]
    have e : List.isPrefixOf [46] (c :: W) = false := by simp [List.isPrefixOf, hne]
    rw [e]; rfl
theorem cut_dot {W F : List UInt8} (h : W.all isDig = true) : Lib.cut (W ++ 46 :: F) [46] = (W, F, true) := by
  unfold Lib.cut
  rw [index_here W F h, if_pos (by omega), Int.toNat_natCast]
  simp
theorem cut_bare {W : List UInt8} (h : W.all isDig = true) : Lib.cut W [46] = (W, [], false) := by
  unfold Lib.cut
  rw [index_none W h, if_neg (by decide)]
theorem digB_of {l : List UInt8} (h : l.all isDig = true) (hn : l ≠ []) : digB l = true := by
  unfold digB; rw [h]; cases l with
  | nil => exact absurd rfl hn
  | cons _ _ => rfl
/-- Cut at its point, a number's text is its digits, and they make the number. -/
theorem body_read (A : Int) (h0 : 0 ≤ A) (h1 : A ≤ 1000000000000000000) : okB (Lib.cut (Lib.decDigits (A / 1000000).toNat ++ (if fracT A = [] then [] else 46 :: fracT A)) [46]) = true ∧
    gatherN (allDigits (Lib.cut (Lib.decDigits (A / 1000000).toNat ++ (if fracT A = [] then [] else 46 :: fracT A)) [46])) = A := by
  have hW := dec_all (A / 1000000).toNat
  have hWv := dec_val (A / 1000000).toNat
  have hWn := dec_ne (A / 1000000).toNat
  generalize Lib.decDigits (A / 1000000).toNat = W at *
  obtain ⟨f1, f2, f3⟩ := fracT_facts A
  obtain ⟨g1, g2, g3⟩ := frac6_facts A
  have hall : (W ++ frac6 A).all isDig = true := by rw [List.all_append, hW, g2]; rfl
  have hv : val (W ++ frac6 A) = A := by
    rw [val_app, g1, g3, hWv, show p10 6 = 1000000 by decide]; omega
  have hg : gatherN (W ++ frac6 A) = A := by rw [gather_val hall, hv]; omega
  by_cases hF : fracT A = []
  · rw [if_pos hF, List.append_nil, cut_bare hW]
    refine ⟨by simp [okB, digB_of hW hWn], ?_⟩
    have e : allDigits (W, [], false) = W ++ frac6 A := by
      rw [← f3, hF]; simp [allDigits]
    rw [e]; exact hg
  · rw [if_neg hF, cut_dot hW]
    refine ⟨by simp [okB, digB_of hW hWn, digB_of f2 hF, f1], ?_⟩
    have e : allDigits (W, fracT A, true) = W ++ frac6 A := by
      unfold allDigits; rw [List.append_assoc, f3]
    rw [e]; exact hg
/-- What is written is read as it was. -/
theorem parse_print {n : Int} (h : fitsB n = true) : parseR (textOf n) = (n, 0) := by
  obtain ⟨n1, n2⟩ := fitsB_true h
  have x0 := absI_nn n
  have x1 := absI_le n1 n2
  obtain ⟨b1, b2⟩ := body_read (absI n) x0 x1
  have hfl := (fracT_facts (absI n)).1
  have hdl := dec_len (u := (absI n / 1000000).toNat) (by omega)
  have hlen : (textOf n).length ≤ 40 := by
    unfold textOf
    rw [List.length_append, List.length_append]
    split <;> split <;> simp <;> omega
  have hW := dec_all (absI n / 1000000).toNat
  have hWn := dec_ne (absI n / 1000000).toNat
  have hput : put (decide (n < 0)) (absI n) = n := by
    unfold put absI
    by_cases hn : n < 0 <;> simp [hn]
  unfold parseR
  rw [if_neg (by omega)]
  have key : Lib.trimPrefix (textOf n) [45] = Lib.decDigits (absI n / 1000000).toNat ++ (if fracT (absI n) = [] then [] else 46 :: fracT (absI n)) ∧ Lib.hasPrefix (textOf n) [45] = decide (n < 0) := by
    unfold textOf Lib.trimPrefix Lib.hasPrefix
    generalize (if fracT (absI n) = [] then [] else 46 :: fracT (absI n)) = T
    generalize Lib.decDigits (absI n / 1000000).toNat = W at *
    by_cases hn : n < 0
    · simp [hn]
    · match W, hW, hWn with
      | c :: W, hW, _ =>
        rw [List.all_cons, Bool.and_eq_true] at hW
        have hc := isDig_iff.1 hW.1
        have hne : (45 : UInt8) ≠ c := fun e => by subst e; simp at hc
        simp [hn, List.isPrefixOf, hne]
  rw [key.1, key.2, if_pos b1, b2, hput, told_yes h]
end
end Go.Proofs.YtpghgjibpbimeaaGreatDoor
