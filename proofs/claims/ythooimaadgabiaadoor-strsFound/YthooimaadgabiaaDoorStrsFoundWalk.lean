/-
  The walk of StrsFound.
-/
import Derived.Test.YthooimaadgabiaaDoorStL
import Derived.Test.YthooimaadgabiaaDoorSt11
namespace Go.Proofs.YthooimaadgabiaaDoor
open Go.RowKit
set_option linter.unusedSimpArgs false
set_option linter.unusedVariables false

set_option maxRecDepth 100000 in
set_option maxHeartbeats 4000000 in
theorem strsFound_walk (sp ss : ByteArray) (f : Int) (w : World) (hc : CellOk w) (wp : sp.size ≤ maxLen) (ws : ss.size ≤ maxLen) (wf : -9223372036854775808 ≤ f ∧ f ≤ 9223372036854775807) :
    Calls Tryd.prog 8 #[.string sp, .string ss, .int .i64 f] w fun e w' => e = .returned (.bool true) ∧ Below w.heap.size w w' := by
  obtain ⟨p, rfl⟩ := by_form sp
  obtain ⟨s, rfl⟩ := by_form ss
  rw [mk_size] at wp ws
  have szp := mk_size p
  have sz := mk_size s
  have HL : Hid (∀ W : World, Below w.heap.size w W → Calls Tryd.prog 15 #[] W fun e w' => e = .returned (.bool true) ∧ Below W.heap.size W w') := fun W hW => lives_any W (cellOk_below hc hW)
  have HB := hide (Below.refl w.heap.size w)
  by_cases k1 : 100 < p.length
  · have g1 : (100 < (p.length : Int)) = True := eq_true (by omega)
    clear hc
    go_enter Tryd.func8, Tryd.ntmps8
    go_wp2_with (go_at_call 15; refine (HL.out _ HB.out).mono ?_; rintro e wz ⟨rfl, hz⟩; replace HB := hide (upR HB.out hz); clear hz)
    go_ret
    exact ⟨by first | rfl | simp, HB.out⟩
  have g1 : (100 < (p.length : Int)) = False := eq_false (by omega)
  by_cases k2 : 255 < s.length
  · have g2 : (255 < (s.length : Int)) = True := eq_true (by omega)
    clear hc
    go_enter Tryd.func8, Tryd.ntmps8
    go_wp2_with (go_at_call 15; refine (HL.out _ HB.out).mono ?_; rintro e wz ⟨rfl, hz⟩; replace HB := hide (upR HB.out hz); clear hz)
    go_ret
    exact ⟨by first | rfl | simp, HB.out⟩
  have g2 : (255 < (s.length : Int)) = False := eq_false (by omega)
  by_cases k3 : f < 1
  · clear hc
    go_enter Tryd.func8, Tryd.ntmps8
    go_wp2_with (go_at_call 15; refine (HL.out _ HB.out).mono ?_; rintro e wz ⟨rfl, hz⟩; replace HB := hide (upR HB.out hz); clear hz)
    go_ret
    exact ⟨by first | rfl | simp, HB.out⟩
  have g3 : (f < 1) = False := eq_false k3
  have hwl : IntKind.i64.wrap ((s.length : Int) + 1) = (s.length : Int) + 1 := by rw [IntKind.wrap_i64]; omega
  by_cases k4 : (s.length : Int) + 1 < f
  · clear hc
    go_enter Tryd.func8, Tryd.ntmps8
    go_wp2_with (go_at_call 15; refine (HL.out _ HB.out).mono ?_; rintro e wz ⟨rfl, hz⟩; replace HB := hide (upR HB.out hz); clear hz)
    go_ret
    exact ⟨by first | rfl | simp, HB.out⟩
  obtain ⟨k0, rfl⟩ : ∃ k : Nat, f = (k : Int) + 1 := ⟨(f - 1).toNat, by omega⟩
  have g3' : ((k0 : Int) + 1 < 1) = False := eq_false (by omega)
  have g4 : ((s.length : Int) + 1 < (k0 : Int) + 1) = False := eq_false k4
  have g4' : ((s.length : Int) < (k0 : Int)) = False := eq_false (by omega)
  have hk1 : k0 ≤ s.length := by omega
  have hsl : s.length ≤ 255 := by omega
  have hpl : p.length ≤ 100 := by omega
  have hfd : fdS p s ((k0 : Int) + 1) = upS (seekL (prefixB p) s k0) := by
    unfold fdS plS
    rw [if_neg (by omega), if_neg (by omega), show ((k0 : Int) + 1 - 1).toNat = k0 by omega]
  have HF0 : Hid (∀ W : World, Calls Tryd.prog 16 #[.string ⟨p.toArray⟩, .string ⟨s.toArray⟩, .int .i64 ((k0 : Int) + 1)] W fun e w' => e = .returned (tupI (upS (seekL (prefixB p) s k0))) ∧ Below W.heap.size W w') := fun W => by
    have := Find_any p s ((k0 : Int) + 1) W wp ws (by omega)
    rwa [hfd] at this
  clear hfd k1 k2 k3 k4
  cases hz0 : seekL (prefixB p) s k0 with
  | some j =>
    obtain ⟨hj1, hj2, hj3, hj4⟩ := seek_some hz0
    have HN : Hid (∀ x, k0 ≤ x → x < j → prefixB p (s.drop x) = false) := hj4
    have htk : (s.drop j).take p.length = p := by rw [prefix_take] at hj3; simpa using hj3
    have HM : Hid (∀ W : World, Calls Tryd.prog 13 #[.string ⟨s.toArray⟩, .int .i64 ((j : Int) + 1), .int .i64 (p.length : Int)] W fun e w' => e = .returned (.tuple #[.string ⟨p.toArray⟩, .int .i64 0]) ∧ Below W.heap.size W w') := fun W => by
      have := Mid_any s ((j : Int) + 1) (p.length : Int) W ws (by omega)
      rw [show mdS s ((j : Int) + 1) (p.length : Int) = some p by
        unfold mdS
        rw [if_neg (by omega), show ((j : Int) + 1 - 1).toNat = j by omega, Int.toNat_natCast, htk]] at this
      exact this
    have HF : Hid (∀ W : World, Calls Tryd.prog 16 #[.string ⟨p.toArray⟩, .string ⟨s.toArray⟩, .int .i64 ((k0 : Int) + 1)] W fun e w' => e = .returned (.tuple #[.int .i64 ((j : Int) + 1), .int .i64 0]) ∧ Below W.heap.size W w') := fun W => by
      have := HF0.out W
      rw [hz0] at this
      exact this
    have q1 : ((j : Int) + 1 < (k0 : Int) + 1) = False := eq_false (by omega)
    have q2 : ((s.length : Int) + 1 < (j : Int) + 1) = False := eq_false (by omega)
    have q3 : (p != p) = false := by simp
    have hke : k0 ≤ j := hj1
    have hes : j ≤ s.length := hj2
    clear hj1 hj2 hj3 hj4 htk HF0 hz0 hc
    go_enter Tryd.func8, Tryd.ntmps8
    go_wp2_with (first | (go_at_call 16; refine (HF.out _).mono ?_; rintro e wz ⟨rfl, hz⟩; replace HB := hide (upR HB.out hz); clear hz) | (go_at_call 13; refine (HM.out _).mono ?_; rintro e wz ⟨rfl, hz⟩; replace HB := hide (upR HB.out hz); clear hz) | (go_at_call 15; refine (HL.out _ HB.out).mono ?_; rintro e wz ⟨rfl, hz⟩; replace HB := hide (upR HB.out hz); clear hz))
    obtain ⟨wo, hwo⟩ : ∃ wo : World, Hid (Below w.heap.size w wo) ∧ wo = wz := ⟨wz, HB, rfl⟩
    obtain ⟨HBo, hwo⟩ := hwo
    subst hwo
    go_loopw [12] (fun iv wr => ∃ x : Nat, k0 ≤ x ∧ x ≤ j ∧ iv = .int .i64 ((x : Int) + 1) ∧ wr = wo) (fun iv _ => s.length + 3 - (intOf iv).toNat)
    case atStart => exact ⟨k0, Nat.le_refl _, by omega, rfl, rfl⟩
    case round =>
      obtain ⟨x, hx1, hx2, rfl, rfl⟩ := hrel
      have hwx : IntKind.i64.wrap ((x : Int) + 1 + 1) = (x : Int) + 1 + 1 := by rw [IntKind.wrap_i64]; omega
      have hwy : IntKind.i64.wrap ((x : Int) + (p.length : Int)) = (x : Int) + (p.length : Int) := by rw [IntKind.wrap_i64]; omega
      have hwz : IntKind.i64.wrap (x : Int) = (x : Int) := by rw [IntKind.wrap_i64]; omega
      by_cases hlt : x < j
      · have g6 : ((x : Int) + 1 < (j : Int) + 1) = True := eq_true (by omega)
        have g6' : ((x : Int) < (j : Int)) = True := eq_true (by omega)
        have hnp := HN.out x hx1 hlt
        rw [prefix_take] at hnp
        have hnp2 : (s.drop x).take p.length ≠ p := by simpa using hnp
        by_cases hfit : x + p.length ≤ s.length
        · have g7 : ((x : Int) + (p.length : Int) ≤ (s.length : Int)) = True := eq_true (by omega)
          have g8 : (x : Int) ≤ (x : Int) + (p.length : Int) := by omega
          have hX : ((x : Int) + (p.length : Int)).toNat = x + p.length := by omega
          have xs : (⟨s.toArray⟩ : ByteArray).extract x (x + p.length) = ⟨((s.drop x).take p.length).toArray⟩ := by rw [mk_mid s x _ (by omega), show x + p.length - x = p.length by omega]
          obtain ⟨Y, hY⟩ : ∃ Y, (s.drop x).take p.length = Y := ⟨_, rfl⟩
          rw [hY] at xs hnp2
          have hE : (Y == p) = false := by rw [beq_eq_false_iff_ne]; exact hnp2
          clear hnp hnp2 hY
          go_wp2
          go_roundw
          case rel => exact ⟨x + 1, by omega, by omega, by go_num, (by first | rfl | trivial)⟩
          case measure => simp [intOf]; omega
        · have g7 : ((x : Int) + (p.length : Int) ≤ (s.length : Int)) = False := eq_false (by omega)
          clear hnp hnp2
          go_wp2
          go_roundw
          case rel => exact ⟨x + 1, by omega, by omega, by go_num, (by first | rfl | trivial)⟩
          case measure => simp [intOf]; omega
      · have g6 : ((x : Int) + 1 < (j : Int) + 1) = False := eq_false (by omega)
        have g6' : ((x : Int) < (j : Int)) = False := eq_false (by omega)
        go_wp2_with (go_at_call 15; refine (HL.out _ HB.out).mono ?_; rintro e wz ⟨rfl, hz⟩; replace HB := hide (upR HB.out hz); clear hz)
        go_ret
        exact ⟨by first | rfl | simp, HB.out⟩
  | none =>
    have HN : Hid (∀ x, k0 ≤ x → x < s.length → prefixB p (s.drop x) = false) := fun x h1 h2 => seek_none hz0 x h1 (by omega)
    have HF : Hid (∀ W : World, Calls Tryd.prog 16 #[.string ⟨p.toArray⟩, .string ⟨s.toArray⟩, .int .i64 ((k0 : Int) + 1)] W fun e w' => e = .returned (.tuple #[.int .i64 0, .int .i64 2]) ∧ Below W.heap.size W w') := fun W => by
      have := HF0.out W
      rw [hz0] at this
      exact this
    have hke : k0 ≤ s.length := hk1
    have hes : s.length ≤ s.length := Nat.le_refl _
    clear HF0 hz0 hc
    go_enter Tryd.func8, Tryd.ntmps8
    go_wp2_with (first | (go_at_call 16; refine (HF.out _).mono ?_; rintro e wz ⟨rfl, hz⟩; replace HB := hide (upR HB.out hz); clear hz) | (go_at_call 15; refine (HL.out _ HB.out).mono ?_; rintro e wz ⟨rfl, hz⟩; replace HB := hide (upR HB.out hz); clear hz))
    obtain ⟨wo, hwo⟩ : ∃ wo : World, Hid (Below w.heap.size w wo) ∧ wo = wz := ⟨wz, HB, rfl⟩
    obtain ⟨HBo, hwo⟩ := hwo
    subst hwo
    go_loopw [12] (fun iv wr => ∃ x : Nat, k0 ≤ x ∧ x ≤ s.length ∧ iv = .int .i64 ((x : Int) + 1) ∧ wr = wo) (fun iv _ => s.length + 3 - (intOf iv).toNat)
    case atStart => exact ⟨k0, Nat.le_refl _, by omega, rfl, rfl⟩
    case round =>
      obtain ⟨x, hx1, hx2, rfl, rfl⟩ := hrel
      have hwx : IntKind.i64.wrap ((x : Int) + 1 + 1) = (x : Int) + 1 + 1 := by rw [IntKind.wrap_i64]; omega
      have hwy : IntKind.i64.wrap ((x : Int) + (p.length : Int)) = (x : Int) + (p.length : Int) := by rw [IntKind.wrap_i64]; omega
      have hwz : IntKind.i64.wrap (x : Int) = (x : Int) := by rw [IntKind.wrap_i64]; omega
      by_cases hlt : x < s.length
      · have g6 : ((x : Int) + 1 < (s.length : Int) + 1) = True := eq_true (by omega)
        have hnp := HN.out x hx1 hlt
        rw [prefix_take] at hnp
        have hnp2 : (s.drop x).take p.length ≠ p := by simpa using hnp
        by_cases hfit : x + p.length ≤ s.length
        · have g7 : ((x : Int) + (p.length : Int) ≤ (s.length : Int)) = True := eq_true (by omega)
          have g8 : (x : Int) ≤ (x : Int) + (p.length : Int) := by omega
          have hX : ((x : Int) + (p.length : Int)).toNat = x + p.length := by omega
          have xs : (⟨s.toArray⟩ : ByteArray).extract x (x + p.length) = ⟨((s.drop x).take p.length).toArray⟩ := by rw [mk_mid s x _ (by omega), show x + p.length - x = p.length by omega]
          obtain ⟨Y, hY⟩ : ∃ Y, (s.drop x).take p.length = Y := ⟨_, rfl⟩
          rw [hY] at xs hnp2
          have hE : (Y == p) = false := by rw [beq_eq_false_iff_ne]; exact hnp2
          clear hnp hnp2 hY
          go_wp2
          go_roundw
          case rel => exact ⟨x + 1, by omega, by omega, by go_num, (by first | rfl | trivial)⟩
          case measure => simp [intOf]; omega
        · have g7 : ((x : Int) + (p.length : Int) ≤ (s.length : Int)) = False := eq_false (by omega)
          clear hnp hnp2
          go_wp2
          go_roundw
          case rel => exact ⟨x + 1, by omega, by omega, by go_num, (by first | rfl | trivial)⟩
          case measure => simp [intOf]; omega
      · have g6 : ((x : Int) + 1 < (s.length : Int) + 1) = False := eq_false (by omega)
        have g6' : ((x : Int) < (s.length : Int)) = False := eq_false (by omega)
        go_wp2_with (go_at_call 15; refine (HL.out _ HB.out).mono ?_; rintro e wz ⟨rfl, hz⟩; replace HB := hide (upR HB.out hz); clear hz)
        go_ret
        exact ⟨by first | rfl | simp, HB.out⟩
end Go.Proofs.YthooimaadgabiaaDoor
