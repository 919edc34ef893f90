/-
  The walk of StrsWhole.
-/
import Derived.Test.YthooimaadgabiaaDoorStL
namespace Go.Proofs.YthooimaadgabiaaDoor
open Go.RowKit
set_option linter.unusedSimpArgs false
set_option linter.unusedVariables false

set_option maxRecDepth 100000 in
set_option maxHeartbeats 4000000 in
theorem strsWhole_walk (ss : ByteArray) (n : Int) (w : World) (hc : CellOk w) (ws : ss.size ≤ maxLen) (wn : -9223372036854775808 ≤ n ∧ n ≤ 9223372036854775807) :
    Calls Tryd.prog 7 #[.string ss, .int .i64 n] w fun e w' => e = .returned (.bool true) ∧ Below w.heap.size w w' := by
  obtain ⟨s, rfl⟩ := by_form ss
  rw [mk_size] at ws
  have sz := mk_size s
  have HL : Hid (∀ W : World, Below w.heap.size w W → Calls Tryd.prog 15 #[] W fun e w' => e = .returned (.bool true) ∧ Below W.heap.size W w') := fun W hW => lives_any W (cellOk_below hc hW)
  have HB := hide (Below.refl w.heap.size w)
  have H1 : Hid (∀ W : World, Calls Tryd.prog 9 #[.string ⟨s.toArray⟩, .int .i64 n] W fun e w' => e = .returned (tupT (lfS s n)) ∧ Below W.heap.size W w') := fun W => Left_any s n W ws
  by_cases k1 : 255 < s.length
  · rw [show lfS s n = none from if_pos (.inl k1)] at H1
    simp only [tupT] at H1
    have g1 : (255 < (s.length : Int)) = True := eq_true (by omega)
    clear hc
    go_enter Tryd.func7, Tryd.ntmps7
    go_wp2_with (first
      | (go_at_call 9; refine (H1.out _).mono ?_; rintro e wz ⟨rfl, hz⟩; replace HB := hide (upR HB.out hz); clear hz)
      | (go_at_call 15; refine (HL.out _ HB.out).mono ?_; rintro e wz ⟨rfl, hz⟩; replace HB := hide (upR HB.out hz); clear hz))
    go_ret
    exact ⟨by first | rfl | simp, HB.out⟩
  have g1 : (255 < (s.length : Int)) = False := eq_false (by omega)
  by_cases k2 : n < 0
  · rw [show lfS s n = none from if_pos (.inr k2)] at H1
    simp only [tupT] at H1
    clear hc
    go_enter Tryd.func7, Tryd.ntmps7
    go_wp2_with (first
      | (go_at_call 9; refine (H1.out _).mono ?_; rintro e wz ⟨rfl, hz⟩; replace HB := hide (upR HB.out hz); clear hz)
      | (go_at_call 15; refine (HL.out _ HB.out).mono ?_; rintro e wz ⟨rfl, hz⟩; replace HB := hide (upR HB.out hz); clear hz))
    go_ret
    exact ⟨by first | rfl | simp, HB.out⟩
  have g2 : (n < 0) = False := eq_false k2
  rw [show lfS s n = some (s.take n.toNat) from if_neg (by omega)] at H1
  simp only [tupT] at H1
  by_cases k3 : 255 < n
  · generalize s.take n.toNat = A at *
    clear hc
    go_enter Tryd.func7, Tryd.ntmps7
    go_wp2_with (first
      | (go_at_call 9; refine (H1.out _).mono ?_; rintro e wz ⟨rfl, hz⟩; replace HB := hide (upR HB.out hz); clear hz)
      | (go_at_call 15; refine (HL.out _ HB.out).mono ?_; rintro e wz ⟨rfl, hz⟩; replace HB := hide (upR HB.out hz); clear hz))
    go_ret
    exact ⟨by first | rfl | simp, HB.out⟩
  have g3 : (255 < n) = False := eq_false k3
  have hAl : (s.take n.toNat).length = min n.toNat s.length := List.length_take
  have hdrop : s.drop (s.length - (s.length - (s.take n.toNat).length)) = s.drop n.toNat := by
    rw [hAl]
    by_cases h : n.toNat ≤ s.length
    · rw [Nat.min_eq_left h, show s.length - (s.length - n.toNat) = n.toNat by omega]
    · rw [Nat.min_eq_right (by omega), Nat.sub_self, Nat.sub_zero, List.drop_length, List.drop_eq_nil_of_le (by omega)]
  have H2 : Hid (∀ W : World, Calls Tryd.prog 11 #[.string ⟨s.toArray⟩, .int .i64 ((s.length : Int) - ((s.take n.toNat).length : Int))] W fun e w' => e = .returned (.tuple #[.string ⟨(s.drop n.toNat).toArray⟩, .int .i64 0]) ∧ Below W.heap.size W w') := fun W => by
    have := Right_any s ((s.length : Int) - ((s.take n.toNat).length : Int)) W ws (by omega)
    rw [show rgS s ((s.length : Int) - ((s.take n.toNat).length : Int)) = some (s.drop n.toNat) by
      unfold rgS
      rw [if_neg (by omega), show ((s.length : Int) - ((s.take n.toNat).length : Int)).toNat = s.length - (s.take n.toNat).length by omega, hdrop]] at this
    exact this
  have H3 : Hid (∀ W : World, Calls Tryd.prog 13 #[.string ⟨s.toArray⟩, .int .i64 (n + 1), .int .i64 255] W fun e w' => e = .returned (.tuple #[.string ⟨(s.drop n.toNat).toArray⟩, .int .i64 0]) ∧ Below W.heap.size W w') := fun W => by
    have := Mid_any s (n + 1) 255 W ws (by omega)
    rw [show mdS s (n + 1) 255 = some (s.drop n.toNat) by
      unfold mdS
      rw [if_neg (by omega), show (n + 1 - 1).toNat = n.toNat by omega, List.take_of_length_le (by rw [List.length_drop]; show _ ≤ 255; omega)]] at this
    exact this
  have hw1 : IntKind.i64.wrap (n + 1) = n + 1 := by rw [IntKind.wrap_i64]; omega
  have hw2 : IntKind.i64.wrap ((s.length : Int) - ((s.take n.toNat).length : Int)) = (s.length : Int) - ((s.take n.toNat).length : Int) := by rw [IntKind.wrap_i64]; omega
  have hcat : s.take n.toNat ++ s.drop n.toNat = s := List.take_append_drop _ _
  have hA2 : (s.take n.toNat).length ≤ 255 := by omega
  have hC2 : (s.drop n.toNat).length ≤ 255 := by rw [List.length_drop]; omega
  clear hAl hdrop hc
  generalize s.take n.toNat = A at *
  generalize s.drop n.toNat = C at *
  have szA := mk_size A
  have szC := mk_size C
  have hE : ((A ++ C : By) == s) = true := by rw [hcat]; exact beq_self_eq_true _
  have g9 : (9223372036854775807 < A.length + C.length) = False := eq_false (by omega)
  have y1 := mk_app A C
  go_enter Tryd.func7, Tryd.ntmps7
  go_wp2_with (first
    | (go_at_call 9; refine (H1.out _).mono ?_; rintro e wz ⟨rfl, hz⟩; replace HB := hide (upR HB.out hz); clear hz)
    | (go_at_call 11; refine (H2.out _).mono ?_; rintro e wz ⟨rfl, hz⟩; replace HB := hide (upR HB.out hz); clear hz)
    | (go_at_call 13; refine (H3.out _).mono ?_; rintro e wz ⟨rfl, hz⟩; replace HB := hide (upR HB.out hz); clear hz)
    | (go_at_call 15; refine (HL.out _ HB.out).mono ?_; rintro e wz ⟨rfl, hz⟩; replace HB := hide (upR HB.out hz); clear hz))
  go_ret
  exact ⟨by first | rfl | simp [hE], HB.out⟩
end Go.Proofs.YthooimaadgabiaaDoor
