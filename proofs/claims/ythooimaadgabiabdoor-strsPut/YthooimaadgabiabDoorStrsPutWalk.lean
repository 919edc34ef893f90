/-
  The walk of StrsPut.
-/
import Derived.Test.YthooimaadgabiabDoorStL
namespace Go.Proofs.YthooimaadgabiabDoor
open Go.RowKit
set_option linter.unusedSimpArgs false
set_option linter.unusedVariables false

set_option maxRecDepth 100000 in
set_option maxHeartbeats 4000000 in
theorem strsPut_walk (ss : ByteArray) (at_ n : Int) (st : ByteArray) (w : World) (hc : CellOk w) (ws : ss.size ≤ maxLen) (wa : -9223372036854775808 ≤ at_ ∧ at_ ≤ 9223372036854775807) (wn : -9223372036854775808 ≤ n ∧ n ≤ 9223372036854775807) (wt : st.size ≤ maxLen) :
    Calls Tryd.prog 3 #[.string ss, .int .i64 at_, .int .i64 n, .string st] w fun e w' => e = .returned (.bool true) ∧ Below w.heap.size w w' := by
  obtain ⟨s, rfl⟩ := by_form ss
  obtain ⟨t, rfl⟩ := by_form st
  rw [mk_size] at ws wt
  have sz := mk_size s
  have szt := mk_size t
  have HL : Hid (∀ W : World, Below w.heap.size w W → Calls Tryd.prog 6 #[] W fun e w' => e = .returned (.bool true) ∧ Below W.heap.size W w') := fun W hW => lives_any W (cellOk_below hc hW)
  have HB := hide (Below.refl w.heap.size w)
  by_cases k1 : 100 < s.length
  · have gk1 : (100 < (s.length : Int)) = True := eq_true (by omega)
    clear hc
    go_enter Tryd.func3, Tryd.ntmps3
    go_wp2_with (go_at_call 6; refine (HL.out _ HB.out).mono ?_; rintro e wz ⟨rfl, hz⟩; replace HB := hide (upR HB.out hz); clear hz)
    go_ret
    exact ⟨by first | rfl | simp, HB.out⟩
  have gk1 : (100 < (s.length : Int)) = False := eq_false (by omega)
  by_cases k2 : 100 < t.length
  · have gk2 : (100 < (t.length : Int)) = True := eq_true (by omega)
    clear hc
    go_enter Tryd.func3, Tryd.ntmps3
    go_wp2_with (go_at_call 6; refine (HL.out _ HB.out).mono ?_; rintro e wz ⟨rfl, hz⟩; replace HB := hide (upR HB.out hz); clear hz)
    go_ret
    exact ⟨by first | rfl | simp, HB.out⟩
  have gk2 : (100 < (t.length : Int)) = False := eq_false (by omega)
  by_cases k3 : at_ < 1
  · have gk3 : (at_ < 1) = True := eq_true (by omega)
    clear hc
    go_enter Tryd.func3, Tryd.ntmps3
    go_wp2_with (go_at_call 6; refine (HL.out _ HB.out).mono ?_; rintro e wz ⟨rfl, hz⟩; replace HB := hide (upR HB.out hz); clear hz)
    go_ret
    exact ⟨by first | rfl | simp, HB.out⟩
  have gk3 : (at_ < 1) = False := eq_false (by omega)
  have hwl : IntKind.i64.wrap ((s.length : Int) + 1) = (s.length : Int) + 1 := by rw [IntKind.wrap_i64]; omega
  by_cases k4 : (s.length : Int) + 1 < at_
  · have gk4 : ((s.length : Int) + 1 < at_) = True := eq_true (by omega)
    clear hc
    go_enter Tryd.func3, Tryd.ntmps3
    go_wp2_with (go_at_call 6; refine (HL.out _ HB.out).mono ?_; rintro e wz ⟨rfl, hz⟩; replace HB := hide (upR HB.out hz); clear hz)
    go_ret
    exact ⟨by first | rfl | simp, HB.out⟩
  have gk4 : ((s.length : Int) + 1 < at_) = False := eq_false (by omega)
  by_cases k5 : n < 0
  · have gk5 : (n < 0) = True := eq_true (by omega)
    clear hc
    go_enter Tryd.func3, Tryd.ntmps3
    go_wp2_with (go_at_call 6; refine (HL.out _ HB.out).mono ?_; rintro e wz ⟨rfl, hz⟩; replace HB := hide (upR HB.out hz); clear hz)
    go_ret
    exact ⟨by first | rfl | simp, HB.out⟩
  have gk5 : (n < 0) = False := eq_false (by omega)
  by_cases k6 : 200 < n
  · have gk6 : (200 < n) = True := eq_true (by omega)
    clear hc
    go_enter Tryd.func3, Tryd.ntmps3
    go_wp2_with (go_at_call 6; refine (HL.out _ HB.out).mono ?_; rintro e wz ⟨rfl, hz⟩; replace HB := hide (upR HB.out hz); clear hz)
    go_ret
    exact ⟨by first | rfl | simp, HB.out⟩
  have gk6 : (200 < n) = False := eq_false (by omega)
  obtain ⟨k, hk⟩ : ∃ k : Nat, at_ - 1 = k := ⟨(at_ - 1).toNat, by omega⟩
  obtain ⟨m, rfl⟩ : ∃ m : Nat, n = m := ⟨n.toNat, by omega⟩
  have hks : k ≤ s.length := by omega
  have hrp : ∀ (u : By) (q : Int), u.length ≤ 100 → 0 ≤ q → rpS s at_ q u = some (s.take k ++ (u ++ (s.drop k).drop q.toNat)) := fun u q hu hq => by
    unfold rpS
    rw [if_neg (by omega), hk, Int.toNat_natCast]
    exact cap_yes (by rw [List.length_append, List.length_append, List.length_take, List.length_drop, List.length_drop]; omega)
  have hFl : (s.take k).length = k := by rw [List.length_take]; omega
  obtain ⟨A, hA⟩ : ∃ A, s.take k ++ (t ++ (s.drop k).drop m) = A := ⟨_, rfl⟩
  have hAl : A.length = k + t.length + (s.length - k - m) := by
    rw [← hA, List.length_append, List.length_append, hFl, List.length_drop, List.length_drop]; omega
  have H1 : Hid (∀ W : World, Calls Tryd.prog 7 #[.string ⟨s.toArray⟩, .int .i64 at_, .int .i64 (m : Int), .string ⟨t.toArray⟩] W fun e w' => e = .returned (.tuple #[.string ⟨A.toArray⟩, .int .i64 0]) ∧ Below W.heap.size W w') := fun W => by
    have := Replace_any s at_ m t W ws wa.2 wt
    rw [hrp t m (by omega) (by omega), Int.toNat_natCast, hA] at this
    exact this
  have H2 : Hid (∀ W : World, Calls Tryd.prog 8 #[.string ⟨A.toArray⟩, .int .i64 at_, .int .i64 (t.length : Int)] W fun e w' => e = .returned (.tuple #[.string ⟨t.toArray⟩, .int .i64 0]) ∧ Below W.heap.size W w') := fun W => by
    have := Mid_any A at_ (t.length : Int) W (by unfold maxLen; omega) wa.2
    rw [show mdS A at_ (t.length : Int) = some t by
      unfold mdS
      rw [if_neg (by omega), hk, Int.toNat_natCast, Int.toNat_natCast, ← hA, List.drop_left' hFl, List.take_left' rfl]] at this
    exact this
  have H3 : Hid (∀ W : World, Calls Tryd.prog 7 #[.string ⟨s.toArray⟩, .int .i64 at_, .int .i64 0, .string ⟨#[]⟩] W fun e w' => e = .returned (.tuple #[.string ⟨s.toArray⟩, .int .i64 0]) ∧ Below W.heap.size W w') := fun W => by
    have := Replace_any s at_ 0 [] W ws wa.2 (by simp)
    rw [hrp [] 0 (by simp) (by omega)] at this
    rw [show s.take k ++ ([] ++ (s.drop k).drop (0 : Int).toNat) = s by simp] at this
    exact this
  have hkA : (k : Int) = at_ - 1 := hk.symm
  have H4 : Hid (∀ W : World, Calls Tryd.prog 9 #[.string ⟨A.toArray⟩, .int .i64 (at_ - 1)] W fun e w' => e = .returned (.tuple #[.string ⟨(s.take k).toArray⟩, .int .i64 0]) ∧ Below W.heap.size W w') := fun W => by
    have := Left_any A (at_ - 1) W (by unfold maxLen; omega)
    rw [show lfS A (at_ - 1) = some (s.take k) by
      unfold lfS
      rw [if_neg (by omega), hk, Int.toNat_natCast, ← hA, List.take_left' hFl]] at this
    exact this
  have H5 : Hid (∀ W : World, Calls Tryd.prog 9 #[.string ⟨s.toArray⟩, .int .i64 (at_ - 1)] W fun e w' => e = .returned (.tuple #[.string ⟨(s.take k).toArray⟩, .int .i64 0]) ∧ Below W.heap.size W w') := fun W => by
    have := Left_any s (at_ - 1) W ws
    rw [show lfS s (at_ - 1) = some (s.take k) by
      unfold lfS
      rw [if_neg (by omega), hk, Int.toNat_natCast]] at this
    exact this
  have szA := mk_size A
  have w1 : IntKind.i64.wrap (at_ - 1) = at_ - 1 := by rw [IntKind.wrap_i64]; omega
  have w2 : IntKind.i64.wrap ((s.length : Int) - at_) = (s.length : Int) - at_ := by rw [IntKind.wrap_i64]; omega
  have w3 : IntKind.i64.wrap ((s.length : Int) - at_ + 1) = (s.length : Int) - at_ + 1 := by rw [IntKind.wrap_i64]; omega
  obtain ⟨M, hM⟩ : ∃ M : Int, min (m : Int) ((s.length : Int) - at_ + 1) = M := ⟨_, rfl⟩
  have hMv : (A.length : Int) = (s.length : Int) - M + (t.length : Int) := by omega
  have w4 : IntKind.i64.wrap ((s.length : Int) - M) = (s.length : Int) - M := by rw [IntKind.wrap_i64]; omega
  have w5 : IntKind.i64.wrap ((s.length : Int) - M + (t.length : Int)) = (s.length : Int) - M + (t.length : Int) := by rw [IntKind.wrap_i64]; omega
  have hE : ((A.length : Int) == (s.length : Int) - M + (t.length : Int)) = true := by rw [beq_iff_eq]; exact hMv
  have HE := hide hMv
  clear hrp hFl hA hAl hMv hkA hk hks hc k1 k2 k3 k4 k5 k6
  generalize s.take k = F at *
  go_enter Tryd.func3, Tryd.ntmps3
  go_wp2_with (first
    | (go_at_call 7; refine (H1.out _).mono ?_; rintro e wz ⟨rfl, hz⟩; replace HB := hide (upR HB.out hz); clear hz; clear H1)
    | (go_at_call 8; refine (H2.out _).mono ?_; rintro e wz ⟨rfl, hz⟩; replace HB := hide (upR HB.out hz); clear hz)
    | (go_at_call 7; refine (H3.out _).mono ?_; rintro e wz ⟨rfl, hz⟩; replace HB := hide (upR HB.out hz); clear hz)
    | (go_at_call 9; refine (H4.out _).mono ?_; rintro e wz ⟨rfl, hz⟩; replace HB := hide (upR HB.out hz); clear hz; clear H4)
    | (go_at_call 9; refine (H5.out _).mono ?_; rintro e wz ⟨rfl, hz⟩; replace HB := hide (upR HB.out hz); clear hz)
    | (go_at_call 6; refine (HL.out _ HB.out).mono ?_; rintro e wz ⟨rfl, hz⟩; replace HB := hide (upR HB.out hz); clear hz))
  go_ret
  exact ⟨by first | rfl | simp, HB.out⟩
end Go.Proofs.YthooimaadgabiabDoor
