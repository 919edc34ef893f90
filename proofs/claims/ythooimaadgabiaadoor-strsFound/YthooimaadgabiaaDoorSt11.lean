/-
  The answer's Left, Right, Mid, Find, Search, Replace, Repeat, Join, Lower, Char and Code.
-/
import Derived.Test.YthooimaadgabiaaDoorSt7
import Derived.Test.YthooimaadgabiaaDoorSt2
import Derived.Test.YthooimaadgabiaaDoorStM
namespace Go.Proofs.YthooimaadgabiaaDoor
open Go.RowKit
set_option linter.unusedSimpArgs false
set_option linter.unusedVariables false

theorem mk_mid (l : By) (a b : Nat) (h : a ≤ b) : (⟨l.toArray⟩ : ByteArray).extract a b = ⟨((l.drop a).take (b - a)).toArray⟩ := by
  apply ByteArray.ext
  simp [ByteArray.data_extract]
theorem long_any (a b c : By) (w : World) :
    Calls Tryd.prog 42 #[.string ⟨a.toArray⟩, .string ⟨b.toArray⟩, .string ⟨c.toArray⟩] w fun e w' => e = .returned (.bool (decide (255 < a.length ∨ 255 < b.length ∨ 255 < c.length))) ∧ w' = w := by
  have sa := mk_size a
  have sb := mk_size b
  have sc := mk_size c
  by_cases h1 : 255 < a.length
  · rw [decide_eq_true (.inl h1)]
    have g1 : (255 < (a.length : Int)) = True := eq_true (by omega)
    go_enter Tryd.func42, Tryd.ntmps42
    go_wp2
    go_ret
    exact ⟨by simp [h1], rfl⟩
  have g1 : (255 < (a.length : Int)) = False := eq_false (by omega)
  by_cases h2 : 255 < b.length
  · rw [decide_eq_true (.inr (.inl h2))]
    have g2 : (255 < (b.length : Int)) = True := eq_true (by omega)
    go_enter Tryd.func42, Tryd.ntmps42
    go_wp2
    go_ret
    exact ⟨by simp [h1, h2], rfl⟩
  have g2 : (255 < (b.length : Int)) = False := eq_false (by omega)
  by_cases h3 : 255 < c.length
  · rw [decide_eq_true (.inr (.inr h3))]
    have g3 : (255 < (c.length : Int)) = True := eq_true (by omega)
    go_enter Tryd.func42, Tryd.ntmps42
    go_wp2
    go_ret
    exact ⟨by simp [h1, h2, h3], rfl⟩
  have g3 : (255 < (c.length : Int)) = False := eq_false (by omega)
  rw [decide_eq_false (by omega)]
  go_enter Tryd.func42, Tryd.ntmps42
  go_wp2
  go_ret
  exact ⟨by simp [h1, h2, h3], rfl⟩
theorem long_is {a b c : By} {r : Bool} (h : decide (255 < a.length ∨ 255 < b.length ∨ 255 < c.length) = r) (w : World) :
    Calls Tryd.prog 42 #[.string ⟨a.toArray⟩, .string ⟨b.toArray⟩, .string ⟨c.toArray⟩] w fun e w' => e = .returned (.bool r) ∧ w' = w := by rw [← h]; exact long_any a b c w
theorem rtold_any (l : By) (w : World) :
    Calls Tryd.prog 58 #[.string ⟨l.toArray⟩] w fun e w' => e = .returned (tupT (capS l)) ∧ w' = w := by
  have sz := mk_size l
  by_cases h : 255 < l.length
  · rw [cap_no h]
    have g : (255 < (l.length : Int)) = True := eq_true (by omega)
    go_enter Tryd.func58, Tryd.ntmps58
    go_wp2
    go_ret2
    exact ⟨rfl, rfl⟩
  · rw [cap_yes (by omega)]
    have g : (255 < (l.length : Int)) = False := eq_false (by omega)
    go_enter Tryd.func58, Tryd.ntmps58
    go_wp2
    go_ret2
    exact ⟨rfl, rfl⟩
set_option maxHeartbeats 1000000 in
theorem rLeft_any (s : By) (n : Int) (w : World) (ms : s.length ≤ maxLen) :
    Calls Tryd.prog 10 #[.string ⟨s.toArray⟩, .int .i64 n] w fun e w' => e = .returned (tupT (lfS s n)) ∧ Below w.heap.size w w' := by
  unfold maxLen at ms
  have sz := mk_size s
  by_cases ks : 255 < s.length
  · have HL := hide (long_is (a := s) (b := []) (c := []) (r := true) (decide_eq_true (.inl ks)) w)
    rw [show lfS s n = none from if_pos (.inl ks)]
    generalize (⟨s.toArray⟩ : ByteArray) = S at *
    go_enter Tryd.func10, Tryd.ntmps10
    go_wp2_with (go_at_call 42; refine HL.out.mono ?_; rintro e w9 ⟨rfl, rfl⟩)
    go_ret2
    exact ⟨rfl, Below.refl _ _⟩
  have HL := hide (long_is (a := s) (b := []) (c := []) (r := false) (decide_eq_false (by simp; omega)) w)
  by_cases kn : n < 0
  · rw [show lfS s n = none from if_pos (.inr kn)]
    generalize (⟨s.toArray⟩ : ByteArray) = S at *
    go_enter Tryd.func10, Tryd.ntmps10
    go_wp2_with (go_at_call 42; refine HL.out.mono ?_; rintro e w9 ⟨rfl, rfl⟩)
    go_ret2
    exact ⟨rfl, Below.refl _ _⟩
  · rw [show lfS s n = some (s.take n.toNat) from if_neg (by omega)]
    have hmin : min n (s.length : Int) = ((min n.toNat s.length : Nat) : Int) := by omega
    obtain ⟨k, hk⟩ : ∃ k, min n.toNat s.length = k := ⟨_, rfl⟩
    have e1 : s.take n.toNat = s.take k := by
      rw [← hk]
      by_cases h : n.toNat ≤ s.length
      · rw [Nat.min_eq_left h]
      · rw [Nat.min_eq_right (by omega), List.take_of_length_le (by omega), List.take_length]
    rw [hk] at hmin
    have hkl : (k : Int) ≤ (s.length : Int) := by omega
    have x1 := mk_take s k
    have kn2 : (n < 0) = False := eq_false kn
    rw [e1]
    clear e1 hk ks
    generalize s.take k = F at *
    generalize (⟨s.toArray⟩ : ByteArray) = S at *
    go_enter Tryd.func10, Tryd.ntmps10
    go_wp2_with (go_at_call 42; refine HL.out.mono ?_; rintro e w9 ⟨rfl, rfl⟩)
    go_ret2
    exact ⟨rfl, Below.refl _ _⟩
set_option maxHeartbeats 1000000 in
theorem rRight_any (s : By) (n : Int) (w : World) (ms : s.length ≤ maxLen) :
    Calls Tryd.prog 12 #[.string ⟨s.toArray⟩, .int .i64 n] w fun e w' => e = .returned (tupT (rgS s n)) ∧ Below w.heap.size w w' := by
  unfold maxLen at ms
  have sz := mk_size s
  by_cases ks : 255 < s.length
  · have HL := hide (long_is (a := s) (b := []) (c := []) (r := true) (decide_eq_true (.inl ks)) w)
    rw [show rgS s n = none from if_pos (.inl ks)]
    generalize (⟨s.toArray⟩ : ByteArray) = S at *
    go_enter Tryd.func12, Tryd.ntmps12
    go_wp2_with (go_at_call 42; refine HL.out.mono ?_; rintro e w9 ⟨rfl, rfl⟩)
    go_ret2
    exact ⟨rfl, Below.refl _ _⟩
  have HL := hide (long_is (a := s) (b := []) (c := []) (r := false) (decide_eq_false (by simp; omega)) w)
  by_cases kn : n < 0
  · rw [show rgS s n = none from if_pos (.inr kn)]
    generalize (⟨s.toArray⟩ : ByteArray) = S at *
    go_enter Tryd.func12, Tryd.ntmps12
    go_wp2_with (go_at_call 42; refine HL.out.mono ?_; rintro e w9 ⟨rfl, rfl⟩)
    go_ret2
    exact ⟨rfl, Below.refl _ _⟩
  · rw [show rgS s n = some (s.drop (s.length - n.toNat)) from if_neg (by omega)]
    obtain ⟨m, hm⟩ : ∃ m : Nat, min n (s.length : Int) = (m : Int) := ⟨min n.toNat s.length, by omega⟩
    obtain ⟨k, hk⟩ : ∃ k, s.length - n.toNat = k := ⟨_, rfl⟩
    have hsub : (s.length : Int) - (m : Int) = (k : Int) := by omega
    have hw : IntKind.i64.wrap (k : Int) = (k : Int) := by rw [IntKind.wrap_i64]; omega
    have hkl : (k : Int) ≤ (s.length : Int) := by omega
    have x1 := mk_drop s k
    have kn2 : (n < 0) = False := eq_false kn
    rw [hk]
    clear hk ks
    generalize s.drop k = F at *
    generalize (⟨s.toArray⟩ : ByteArray) = S at *
    go_enter Tryd.func12, Tryd.ntmps12
    go_wp2_with (go_at_call 42; refine HL.out.mono ?_; rintro e w9 ⟨rfl, rfl⟩)
    go_ret2
    exact ⟨rfl, Below.refl _ _⟩
set_option maxHeartbeats 1000000 in
theorem rMid_any (s : By) (at_ n : Int) (w : World) (ms : s.length ≤ maxLen) (na : at_ ≤ 9223372036854775807) :
    Calls Tryd.prog 14 #[.string ⟨s.toArray⟩, .int .i64 at_, .int .i64 n] w fun e w' => e = .returned (tupT (mdS s at_ n)) ∧ Below w.heap.size w w' := by
  unfold maxLen at ms
  have sz := mk_size s
  by_cases ks : 255 < s.length
  · have HL := hide (long_is (a := s) (b := []) (c := []) (r := true) (decide_eq_true (.inl ks)) w)
    rw [show mdS s at_ n = none from if_pos (.inl ks)]
    generalize (⟨s.toArray⟩ : ByteArray) = S at *
    go_enter Tryd.func14, Tryd.ntmps14
    go_wp2_with (go_at_call 42; refine HL.out.mono ?_; rintro e w9 ⟨rfl, rfl⟩)
    go_ret2
    exact ⟨rfl, Below.refl _ _⟩
  have HL := hide (long_is (a := s) (b := []) (c := []) (r := false) (decide_eq_false (by simp; omega)) w)
  by_cases kn : n < 0
  · rw [show mdS s at_ n = none from if_pos (.inr (.inl kn))]
    generalize (⟨s.toArray⟩ : ByteArray) = S at *
    go_enter Tryd.func14, Tryd.ntmps14
    go_wp2_with (go_at_call 42; refine HL.out.mono ?_; rintro e w9 ⟨rfl, rfl⟩)
    go_ret2
    exact ⟨rfl, Below.refl _ _⟩
  have kn2 : (n < 0) = False := eq_false kn
  by_cases ka : at_ < 1
  · rw [show mdS s at_ n = none from if_pos (.inr (.inr ka))]
    generalize (⟨s.toArray⟩ : ByteArray) = S at *
    go_enter Tryd.func14, Tryd.ntmps14
    go_wp2_with (go_at_call 42; refine HL.out.mono ?_; rintro e w9 ⟨rfl, rfl⟩)
    go_ret2
    exact ⟨rfl, Below.refl _ _⟩
  · have ka2 : (at_ < 1) = False := eq_false ka
    rw [show mdS s at_ n = some ((s.drop (at_ - 1).toNat).take n.toNat) from if_neg (by omega)]
    have hw : IntKind.i64.wrap (at_ - 1) = at_ - 1 := by rw [IntKind.wrap_i64]; omega
    obtain ⟨j, hj⟩ : ∃ j : Nat, min (at_ - 1) (s.length : Int) = (j : Int) := ⟨min (at_ - 1).toNat s.length, by omega⟩
    have e0 : s.drop (at_ - 1).toNat = s.drop j := by
      by_cases h : (at_ - 1).toNat ≤ s.length
      · rw [show j = (at_ - 1).toNat by omega]
      · rw [List.drop_eq_nil_of_le (by omega), show j = s.length by omega, List.drop_length]
    have hjl : (j : Int) ≤ (s.length : Int) := by omega
    have x0 := mk_drop s j
    rw [e0]
    obtain ⟨D, hD⟩ : ∃ D, s.drop j = D := ⟨_, rfl⟩
    rw [hD] at x0 ⊢
    have hDl : D.length ≤ 255 := by rw [← hD, List.length_drop]; omega
    have szD := mk_size D
    obtain ⟨k, hk⟩ : ∃ k : Nat, min n (D.length : Int) = (k : Int) := ⟨min n.toNat D.length, by omega⟩
    have e1 : D.take n.toNat = D.take k := by
      by_cases h : n.toNat ≤ D.length
      · rw [show k = n.toNat by omega]
      · rw [List.take_of_length_le (by omega), show k = D.length by omega, List.take_length]
    have hkl : (k : Int) ≤ (D.length : Int) := by omega
    have x1 := mk_take D k
    rw [e1]
    clear e0 e1 hD ks
    generalize D.take k = F at *
    generalize (⟨D.toArray⟩ : ByteArray) = DD at *
    generalize (⟨s.toArray⟩ : ByteArray) = S at *
    go_enter Tryd.func14, Tryd.ntmps14
    go_wp2_with (go_at_call 42; refine HL.out.mono ?_; rintro e w9 ⟨rfl, rfl⟩)
    go_ret2
    exact ⟨rfl, Below.refl _ _⟩

end Go.Proofs.YthooimaadgabiaaDoor
