/-
  The answer's Replace, Repeat, Join, Lower, Char and Code.
-/
import Derived.Test.YthooimaadgabiaaDoorSt11
import Derived.BigQuiet
import Derived.Deep.QuietTactic
namespace Go.Proofs.YthooimaadgabiaaDoor
open Go.RowKit
set_option linter.unusedSimpArgs false
set_option linter.unusedVariables false

set_option maxRecDepth 100000 in
set_option maxHeartbeats 2000000 in
theorem rChar_any (n : Int) (w : World) :
    Calls Tryd.prog 33 #[.int .i64 n] w fun e w' => e = .returned (tupT (chS n)) ∧ Below w.heap.size w w' := by
  by_cases h1 : n < 1
  · rw [show chS n = none from if_pos (.inl h1)]
    go_enter Tryd.func33, Tryd.ntmps33
    go_wp2
    go_ret2
    exact ⟨rfl, Below.refl _ _⟩
  by_cases h2 : 255 < n
  · rw [show chS n = none from if_pos (.inr h2)]
    go_enter Tryd.func33, Tryd.ntmps33
    go_wp2
    go_ret2
    exact ⟨rfl, Below.refl _ _⟩
  · rw [show chS n = some [UInt8.ofNat n.toNat] from if_neg (by omega)]
    obtain ⟨N, rfl⟩ : ∃ N : Nat, n = N := ⟨n.toNat, by omega⟩
    have hN : (UInt8.ofNat N).toNat = N := by rw [UInt8.toNat_ofNat']; omega
    have hb : (convert 67 9 (.slice (some ⟨w.heap.size, 0, none⟩) 1 1)).run Tryd.prog (w.alloc (.cells #[.int .u8 (N : Int)] 5)) = .ok (.string ⟨[UInt8.ofNat N].toArray⟩) (w.alloc (.cells #[.int .u8 (N : Int)] 5)) := by
      have hn := World.alloc_heap_new w (.cells #[.int .u8 (N : Int)] 5)
      refine bytes_back _ w.heap.size 1 1 [UInt8.ofNat N] ⟨by simp, fun j hj => ?_⟩ rfl
      have h0 : j = 0 := by simp at hj; omega
      subst h0
      refine ⟨?_, Lib.frozen_of_heap hn 0⟩
      rw [Lib.cell_of_heap hn 0]
      simp [hN]
    rw [Int.toNat_natCast]
    go_enter Tryd.func33, Tryd.ntmps33
    go_wp2
    go_ret2
    exact ⟨rfl, (Below.refl _ _).alloc (Nat.le_refl _) _⟩
set_option maxRecDepth 100000 in
set_option maxHeartbeats 2000000 in
theorem rCode_any (s : By) (w : World) (ms : s.length ≤ maxLen) :
    Calls Tryd.prog 35 #[.string ⟨s.toArray⟩] w fun e w' => e = .returned (tupI (cdS s)) ∧ Below w.heap.size w w' := by
  by_cases ks : 255 < s.length
  · have HL := hide (long_is (a := s) (b := []) (c := []) (r := true) (decide_eq_true (.inl ks)) w)
    rw [show cdS s = none from if_pos ks]
    generalize (⟨s.toArray⟩ : ByteArray) = S at *
    go_enter Tryd.func35, Tryd.ntmps35
    go_wp2_with (go_at_call 42; refine HL.out.mono ?_; rintro e w9 ⟨rfl, rfl⟩)
    go_ret2
    exact ⟨rfl, Below.refl _ _⟩
  have HL := hide (long_is (a := s) (b := []) (c := []) (r := false) (decide_eq_false (by simp; omega)) w)
  cases s with
  | nil =>
    have hem : List.isEmpty ([] : By) = true := rfl
    rw [show cdS [] = none from rfl]
    go_enter Tryd.func35, Tryd.ntmps35
    go_wp2_with (go_at_call 42; refine HL.out.mono ?_; rintro e w9 ⟨rfl, rfl⟩)
    go_ret2
    exact ⟨rfl, Below.refl _ _⟩
  | cons a t =>
    have hem : List.isEmpty (a :: t) = false := rfl
    rw [show cdS (a :: t) = some (a.toNat : Int) from if_neg ks]
    have sz := mk_size (a :: t)
    have hx : ∀ h, (⟨(a :: t).toArray⟩ : ByteArray)[0]'h = a := fun h => rfl
    have hsz : (0 : Int) < ((a :: t).length : Int) := by simp only [List.length_cons]; omega
    have hwr : IntKind.i64.wrap (a.toNat : Int) = (a.toNat : Int) := by have := a.toNat_lt; rw [IntKind.wrap_i64]; omega
    go_enter Tryd.func35, Tryd.ntmps35
    go_wp2_with (go_at_call 42; refine HL.out.mono ?_; rintro e w9 ⟨rfl, rfl⟩)
    go_ret2
    exact ⟨rfl, Below.refl _ _⟩
set_option maxRecDepth 100000 in
set_option maxHeartbeats 2000000 in
theorem rLower_any (s : By) (w : World) (ms : s.length ≤ maxLen) :
    Calls Tryd.prog 31 #[.string ⟨s.toArray⟩] w fun e w' => e = .returned (tupT (loS s)) ∧ Below w.heap.size w w' := by
  by_cases ks : 255 < s.length
  · have HL := hide (long_is (a := s) (b := []) (c := []) (r := true) (decide_eq_true (.inl ks)) w)
    rw [show loS s = none from if_pos ks]
    generalize (⟨s.toArray⟩ : ByteArray) = S at *
    go_enter Tryd.func31, Tryd.ntmps31
    go_wp2_with (go_at_call 42; refine HL.out.mono ?_; rintro e w9 ⟨rfl, rfl⟩)
    go_ret2
    exact ⟨rfl, Below.refl _ _⟩
  have HL := hide (long_is (a := s) (b := []) (c := []) (r := false) (decide_eq_false (by simp; omega)) w)
  have hs : s.length ≤ 255 := by omega
  rw [show loS s = some (loL s) from if_neg ks]
  have sz := mk_size s
  obtain ⟨cap, w1, hconv, hb1, hr1, hz1⟩ := bytes_conv ⟨s.toArray⟩ w
  rw [mk_list] at hr1
  have HB1 := hide hb1
  have HR1 := hide hr1
  clear hb1 hr1 ks
  generalize hS : (⟨s.toArray⟩ : ByteArray) = S at *
  clear hS
  go_enter Tryd.func31, Tryd.ntmps31
  go_wp2_with (go_at_call 42; refine HL.out.mono ?_; rintro e w9 ⟨rfl, rfl⟩)
  go_loopw [5] (fun i wr => ∃ k : Nat, k ≤ s.length ∧ i = .int .i64 k ∧ Below w9.heap.size w9 wr ∧ RowB wr w9.heap.size (loTo s k)) (fun i _ => s.length - (intOf i).toNat)
  case atStart => exact ⟨0, Nat.zero_le _, rfl, HB1.out, by rw [loTo_zero]; exact HR1.out⟩
  case round =>
    obtain ⟨k, hk, rfl, hb, hr⟩ := hrel
    have HB := hide hb
    have HR := hide hr
    clear hb hr hconv
    by_cases hlt : k < s.length
    · have g0 : (k : Int) < (s.length : Int) := by omega
      have hkf : k < (loTo s k).length := by rw [loTo_len]; exact hlt
      have HS := hide (loTo_step s k hlt)
      have HK := hide (loTo_keep s k hlt)
      have hcell := (HR.out.2 k hkf).1
      have hfz := (HR.out.2 k hkf).2
      rw [loTo_at _ k hlt] at hcell
      have hu : s[k].toNat < 256 := UInt8.toNat_lt _
      have hwk : IntKind.i64.wrap ((k : Int) + 1) = (k : Int) + 1 := by rw [IntKind.wrap_i64]; omega
      generalize s[k] = c at *
      have HF := hide hkf
      clear hkf
      by_cases h1 : (65 : Int) ≤ c.toNat
      · by_cases h2 : (c.toNat : Int) ≤ 90
        · go_wp2
          go_roundw
          case rel =>
            have e : ((c.toNat : Int) - 65 + 97) = ((loB c).toNat : Int) := lo_in (by omega) (by omega)
            exact ⟨k + 1, by omega, by go_num, HB.out.setCell (Nat.le_refl _) _, by rw [← HS.out, e]; exact HR.out.set HF.out _⟩
          case measure => simp [intOf]; omega
        · go_wp2
          go_roundw
          case rel => exact ⟨k + 1, by omega, by go_num, HB.out, by rw [HK.out (lo_out (by omega))]; exact HR.out⟩
          case measure => simp [intOf]; omega
      · go_wp2
        go_roundw
        case rel => exact ⟨k + 1, by omega, by go_num, HB.out, by rw [HK.out (lo_out (by omega))]; exact HR.out⟩
        case measure => simp [intOf]; omega
    · have hbk := fun cap => bytes_back wr w9.heap.size cap s.length _ HR.out (by rw [loTo_len])
      have HA := hide (loTo_all s (k := k) (by omega))
      have g0 : ¬ (k : Int) < (s.length : Int) := by omega
      go_wp2
      go_ret2
      exact ⟨by rw [← HA.out]; rfl, HB.out⟩
set_option maxRecDepth 100000 in
set_option maxHeartbeats 2000000 in
theorem rRepeat_any (s : By) (n : Int) (w : World) (ms : s.length ≤ maxLen) (nn : n ≤ 9223372036854775807) :
    Calls Tryd.prog 27 #[.string ⟨s.toArray⟩, .int .i64 n] w fun e w' => e = .returned (tupT (rtS s n)) ∧ Below w.heap.size w w' := by
  by_cases ks : 255 < s.length
  · have HL := hide (long_is (a := s) (b := []) (c := []) (r := true) (decide_eq_true (.inl ks)) w)
    rw [show rtS s n = none from if_pos (.inl ks)]
    generalize (⟨s.toArray⟩ : ByteArray) = S at *
    go_enter Tryd.func27, Tryd.ntmps27
    go_wp2_with (go_at_call 42; refine HL.out.mono ?_; rintro e w9 ⟨rfl, rfl⟩)
    go_ret2
    exact ⟨rfl, Below.refl _ _⟩
  have HL := hide (long_is (a := s) (b := []) (c := []) (r := false) (decide_eq_false (by simp; omega)) w)
  by_cases kn : n < 0
  · rw [show rtS s n = none from if_pos (.inr kn)]
    generalize (⟨s.toArray⟩ : ByteArray) = S at *
    go_enter Tryd.func27, Tryd.ntmps27
    go_wp2_with (go_at_call 42; refine HL.out.mono ?_; rintro e w9 ⟨rfl, rfl⟩)
    go_ret2
    exact ⟨rfl, Below.refl _ _⟩
  have kn2 : (n < 0) = False := eq_false kn
  rw [show rtS s n = (if s = [] then some [] else capS (rpL s n.toNat)) from if_neg (by omega)]
  obtain ⟨N, rfl⟩ : ∃ N : Nat, n = N := ⟨n.toNat, by omega⟩
  rw [Int.toNat_natCast]
  have sz := mk_size s
  by_cases he : s = []
  · rw [if_pos he]
    subst he
    have hem : List.isEmpty ([] : By) = true := rfl
    by_cases h0 : (0 : Int) < (N : Int)
    · go_enter Tryd.func27, Tryd.ntmps27
      go_wp2_with (go_at_call 42; refine HL.out.mono ?_; rintro e w9 ⟨rfl, rfl⟩)
      go_loopw [6, 7] (fun ov iv wr => ov = .string ⟨#[]⟩ ∧ iv = .int .i64 0 ∧ wr = w9) (fun _ iv _ => 0)
      case atStart => exact ⟨rfl, rfl, rfl⟩
      case round =>
        obtain ⟨rfl, rfl, rfl⟩ := hrel
        go_wp2
        go_ret2
        exact ⟨rfl, Below.refl _ _⟩
    · go_enter Tryd.func27, Tryd.ntmps27
      go_wp2_with (go_at_call 42; refine HL.out.mono ?_; rintro e w9 ⟨rfl, rfl⟩)
      go_loopw [6, 7] (fun ov iv wr => ov = .string ⟨#[]⟩ ∧ iv = .int .i64 0 ∧ wr = w9) (fun _ iv _ => 0)
      case atStart => exact ⟨rfl, rfl, rfl⟩
      case round =>
        obtain ⟨rfl, rfl, rfl⟩ := hrel
        go_wp2
        go_ret2
        exact ⟨rfl, Below.refl _ _⟩
  rw [if_neg he]
  have hpos : 0 < s.length := List.length_pos_iff.2 he
  have hem : List.isEmpty s = false := by simpa using he
  obtain ⟨Z, hZ⟩ : ∃ Z, capS (rpL s N) = Z := ⟨_, rfl⟩
  rw [hZ]
  have HZ := hide hZ
  have hsl : s.length ≤ 255 := by omega
  clear hZ he ks
  go_enter Tryd.func27, Tryd.ntmps27
  go_wp2_with (go_at_call 42; refine HL.out.mono ?_; rintro e w9 ⟨rfl, rfl⟩)
  go_loopw [6, 7] (fun ov iv wr => ∃ k : Nat, k ≤ N ∧ ov = .string ⟨(rpL s k).toArray⟩ ∧ iv = .int .i64 k ∧ Hid ((rpL s k).length ≤ 255) ∧ wr = w9) (fun _ iv _ => N - (intOf iv).toNat)
  case atStart => exact ⟨0, Nat.zero_le _, rfl, rfl, hide (Nat.zero_le _), rfl⟩
  case round =>
    obtain ⟨k, hk, rfl, rfl, HLE, rfl⟩ := hrel
    have szk := mk_size (rpL s k)
    have hle := HLE.out
    by_cases hlt : k < N
    · have g1 : (k : Int) < (N : Int) := by omega
      have hk2 : (rpL s (k + 1)).length = (rpL s k).length + s.length := by rw [rpL, List.length_append]
      have szk2 := mk_size (rpL s (k + 1))
      have hcat : (⟨(rpL s k).toArray⟩ : ByteArray) ++ ⟨s.toArray⟩ = ⟨(rpL s (k + 1)).toArray⟩ := by
        apply ByteArray.ext
        simp [ByteArray.data_append, rpL]
      have g9 : (9223372036854775807 < (rpL s k).length + s.length) = False := eq_false (by omega)
      have hwk : IntKind.i64.wrap ((k : Int) + 1) = (k : Int) + 1 := by rw [IntKind.wrap_i64]; omega
      by_cases hs2 : (rpL s (k + 1)).length ≤ 255
      · have HL2 := hide hs2
        have g3 : (255 < ((rpL s (k + 1)).length : Int)) = False := eq_false (by omega)
        clear hs2 hle HLE
        rw [hk2] at g3
        rw [Int.natCast_add] at g3
        clear hcat szk2
        go_wp2
        go_roundw
        case rel => exact ⟨k + 1, by omega, rfl, by go_num, HL2, (by first | rfl | trivial)⟩
        case measure => simp [intOf]; omega
      · have HZ2 : Hid (Z = none) := HZ.out.symm.trans (cap_no (by have := rpL_le s (show k + 1 ≤ N by omega); omega))
        have g3 : (255 < ((rpL s (k + 1)).length : Int)) = True := eq_true (by omega)
        clear hs2 hle HLE
        rw [hk2] at g3
        rw [Int.natCast_add] at g3
        clear hcat szk2
        go_wp2
        go_ret2
        rw [HZ2.out]
        exact ⟨rfl, Below.refl _ _⟩
    · have hkl : k = N := by omega
      subst hkl
      have HZ2 : Hid (Z = some (rpL s k)) := HZ.out.symm.trans (cap_yes hle)
      have g1 : ¬ (k : Int) < (k : Int) := by omega
      go_wp2
      go_ret2
      rw [HZ2.out]
      exact ⟨rfl, Below.refl _ _⟩
end Go.Proofs.YthooimaadgabiaaDoor
