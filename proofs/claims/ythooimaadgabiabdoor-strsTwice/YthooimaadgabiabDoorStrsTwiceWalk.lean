/-
  The walk of StrsTwice.
-/
import Derived.Test.YthooimaadgabiabDoorStL
import Derived.Test.YthooimaadgabiabDoorStT
namespace Go.Proofs.YthooimaadgabiabDoor
open Go.RowKit
set_option linter.unusedSimpArgs false
set_option linter.unusedVariables false

set_option maxRecDepth 100000 in
set_option maxHeartbeats 4000000 in
theorem strsTwice_walk (ss : ByteArray) (n : Int) (w : World) (hc : CellOk w) (ws : ss.size ≤ maxLen) (wn : -9223372036854775808 ≤ n ∧ n ≤ 9223372036854775807) :
    Calls Tryd.prog 4 #[.string ss, .int .i64 n] w fun e w' => e = .returned (.bool true) ∧ Below w.heap.size w w' := by
  obtain ⟨s, rfl⟩ := by_form ss
  rw [mk_size] at ws
  have sz := mk_size s
  have HL : Hid (∀ W : World, Below w.heap.size w W → Calls Tryd.prog 6 #[] W fun e w' => e = .returned (.bool true) ∧ Below W.heap.size W w') := fun W hW => lives_any W (cellOk_below hc hW)
  have HB := hide (Below.refl w.heap.size w)
  by_cases k1 : 255 < s.length
  · have gk1 : (255 < (s.length : Int)) = True := eq_true (by omega)
    clear hc
    go_enter Tryd.func4, Tryd.ntmps4
    go_wp2_with (go_at_call 6; refine (HL.out _ HB.out).mono ?_; rintro e wz ⟨rfl, hz⟩; replace HB := hide (upR HB.out hz); clear hz)
    go_ret
    exact ⟨by first | rfl | simp, HB.out⟩
  have gk1 : (255 < (s.length : Int)) = False := eq_false (by omega)
  have hsl : s.length ≤ 255 := by omega
  have htl := trL_len s
  have H1 : Hid (∀ W : World, Below w.heap.size w W → Calls Tryd.prog 10 #[.string ⟨s.toArray⟩] W fun e w' => e = .returned (.tuple #[.string ⟨(trL s).toArray⟩, .int .i64 0]) ∧ Below W.heap.size W w') := fun W hW => by
    have := Trim_any s W ws (cellOk_below hc hW)
    rw [show trS s = some (trL s) from if_neg k1] at this
    exact this
  have H2 : Hid (∀ W : World, Below w.heap.size w W → Calls Tryd.prog 10 #[.string ⟨(trL s).toArray⟩] W fun e w' => e = .returned (.tuple #[.string ⟨(trL s).toArray⟩, .int .i64 0]) ∧ Below W.heap.size W w') := fun W hW => by
    have := Trim_any (trL s) W (by unfold maxLen; omega) (cellOk_below hc hW)
    rw [show trS (trL s) = some (trL s) by unfold trS; rw [if_neg (by omega), trL_twice]] at this
    exact this
  have HF : Hid (∀ W : World, Calls Tryd.prog 12 #[.string ⟨s.toArray⟩] W fun e w' => e = .returned (.string ⟨(foldL s).toArray⟩) ∧ Below W.heap.size W w') := fun W => by
    have := fold_any ⟨s.toArray⟩ W
    rwa [mk_list] at this
  have H3 : Hid (∀ W : World, Calls Tryd.prog 11 #[.string ⟨s.toArray⟩] W fun e w' => e = .returned (.tuple #[.string ⟨(loL s).toArray⟩, .int .i64 0]) ∧ Below W.heap.size W w') := fun W => by
    have := Lower_any s W ws
    rw [show loS s = some (loL s) from if_neg k1] at this
    exact this
  have H4 : Hid (∀ W : World, Calls Tryd.prog 11 #[.string ⟨(foldL s).toArray⟩] W fun e w' => e = .returned (.tuple #[.string ⟨(loL s).toArray⟩, .int .i64 0]) ∧ Below W.heap.size W w') := fun W => by
    have := Lower_any (foldL s) W (by rw [foldL_len]; exact ws)
    rw [show loS (foldL s) = some (loL s) by unfold loS; rw [foldL_len, if_neg k1, loL_fold]] at this
    exact this
  have H5 : Hid (∀ W : World, Calls Tryd.prog 11 #[.string ⟨(loL s).toArray⟩] W fun e w' => e = .returned (.tuple #[.string ⟨(loL s).toArray⟩, .int .i64 0]) ∧ Below W.heap.size W w') := fun W => by
    have := Lower_any (loL s) W (by rw [loL_len]; exact ws)
    rw [show loS (loL s) = some (loL s) by unfold loS; rw [loL_len, if_neg k1, loL_twice]] at this
    exact this
  have HRp := hide (fun W => Repeat_any s n W ws wn.2)
  clear htl hc
  generalize hTT : trL s = T at *
  generalize hLL : loL s = L at *
  generalize hFF : foldL s = F at *
  clear hTT hLL hFF
  by_cases k2 : n < 0
  · go_enter Tryd.func4, Tryd.ntmps4
    go_wp2_with (first
      | (go_at_call 10; refine (H1.out _ HB.out).mono ?_; rintro e wz ⟨rfl, hz⟩; replace HB := hide (upR HB.out hz); clear hz; clear H1)
      | (go_at_call 10; refine (H2.out _ HB.out).mono ?_; rintro e wz ⟨rfl, hz⟩; replace HB := hide (upR HB.out hz); clear hz)
      | (go_at_call 12; refine (HF.out _).mono ?_; rintro e wz ⟨rfl, hz⟩; replace HB := hide (upR HB.out hz); clear hz)
      | (go_at_call 11; refine (H3.out _).mono ?_; rintro e wz ⟨rfl, hz⟩; replace HB := hide (upR HB.out hz); clear hz; clear H3)
      | (go_at_call 11; refine (H4.out _).mono ?_; rintro e wz ⟨rfl, hz⟩; replace HB := hide (upR HB.out hz); clear hz; clear H4)
      | (go_at_call 11; refine (H5.out _).mono ?_; rintro e wz ⟨rfl, hz⟩; replace HB := hide (upR HB.out hz); clear hz)
      | (go_at_call 6; refine (HL.out _ HB.out).mono ?_; rintro e wz ⟨rfl, hz⟩; replace HB := hide (upR HB.out hz); clear hz))
    go_ret
    exact ⟨by first | rfl | simp, HB.out⟩
  have gk2 : (n < 0) = False := eq_false k2
  by_cases k3 : 300 < n
  · go_enter Tryd.func4, Tryd.ntmps4
    go_wp2_with (first
      | (go_at_call 10; refine (H1.out _ HB.out).mono ?_; rintro e wz ⟨rfl, hz⟩; replace HB := hide (upR HB.out hz); clear hz; clear H1)
      | (go_at_call 10; refine (H2.out _ HB.out).mono ?_; rintro e wz ⟨rfl, hz⟩; replace HB := hide (upR HB.out hz); clear hz)
      | (go_at_call 12; refine (HF.out _).mono ?_; rintro e wz ⟨rfl, hz⟩; replace HB := hide (upR HB.out hz); clear hz)
      | (go_at_call 11; refine (H3.out _).mono ?_; rintro e wz ⟨rfl, hz⟩; replace HB := hide (upR HB.out hz); clear hz; clear H3)
      | (go_at_call 11; refine (H4.out _).mono ?_; rintro e wz ⟨rfl, hz⟩; replace HB := hide (upR HB.out hz); clear hz; clear H4)
      | (go_at_call 11; refine (H5.out _).mono ?_; rintro e wz ⟨rfl, hz⟩; replace HB := hide (upR HB.out hz); clear hz)
      | (go_at_call 6; refine (HL.out _ HB.out).mono ?_; rintro e wz ⟨rfl, hz⟩; replace HB := hide (upR HB.out hz); clear hz))
    go_ret
    exact ⟨by first | rfl | simp, HB.out⟩
  have gk3 : (300 < n) = False := eq_false k3
  obtain ⟨N, rfl⟩ : ∃ N : Nat, n = N := ⟨n.toNat, by omega⟩
  have hN : N ≤ 300 := by omega
  have hml : s.length * N ≤ 255 * 300 := Nat.mul_le_mul hsl hN
  have hmw : IntKind.i64.wrap ((s.length : Int) * (N : Int)) = (s.length : Int) * (N : Int) := by
    rw [← Int.natCast_mul, IntKind.wrap_i64]; omega
  by_cases k4 : 255 < s.length * N
  · have gk4 : (255 < (s.length : Int) * (N : Int)) = True := eq_true (by rw [← Int.natCast_mul]; omega)
    have HR : Hid (∀ W : World, Calls Tryd.prog 13 #[.string ⟨s.toArray⟩, .int .i64 (N : Int)] W fun e w' => e = .returned (.tuple #[.string ⟨#[]⟩, .int .i64 2]) ∧ Below W.heap.size W w') := fun W => by
      have := HRp.out W
      rw [show rtS s (N : Int) = none by
        unfold rtS
        rw [if_neg (by omega), if_neg (fun e => by rw [e] at k4; simp at k4), Int.toNat_natCast]
        exact cap_no (by rw [rpL_len]; exact k4)] at this
      exact this
    clear HRp
    go_enter Tryd.func4, Tryd.ntmps4
    go_wp2_with (first
      | (go_at_call 10; refine (H1.out _ HB.out).mono ?_; rintro e wz ⟨rfl, hz⟩; replace HB := hide (upR HB.out hz); clear hz; clear H1)
      | (go_at_call 10; refine (H2.out _ HB.out).mono ?_; rintro e wz ⟨rfl, hz⟩; replace HB := hide (upR HB.out hz); clear hz)
      | (go_at_call 12; refine (HF.out _).mono ?_; rintro e wz ⟨rfl, hz⟩; replace HB := hide (upR HB.out hz); clear hz)
      | (go_at_call 11; refine (H3.out _).mono ?_; rintro e wz ⟨rfl, hz⟩; replace HB := hide (upR HB.out hz); clear hz; clear H3)
      | (go_at_call 11; refine (H4.out _).mono ?_; rintro e wz ⟨rfl, hz⟩; replace HB := hide (upR HB.out hz); clear hz; clear H4)
      | (go_at_call 11; refine (H5.out _).mono ?_; rintro e wz ⟨rfl, hz⟩; replace HB := hide (upR HB.out hz); clear hz)
      | (go_at_call 13; refine (HR.out _).mono ?_; rintro e wz ⟨rfl, hz⟩; replace HB := hide (upR HB.out hz); clear hz)
      | (go_at_call 6; refine (HL.out _ HB.out).mono ?_; rintro e wz ⟨rfl, hz⟩; replace HB := hide (upR HB.out hz); clear hz))
    go_ret
    exact ⟨by first | rfl | simp, HB.out⟩
  have gk4 : (255 < (s.length : Int) * (N : Int)) = False := eq_false (by rw [← Int.natCast_mul]; omega)
  obtain ⟨R, hR, hRl, hRt⟩ : ∃ R : By, rtS s (N : Int) = some R ∧ R.length = s.length * N ∧ (N = 0 ∨ R.take s.length = s) := by
    unfold rtS
    rw [if_neg (by omega)]
    by_cases he : s = []
    · rw [if_pos he]; exact ⟨[], rfl, by rw [he]; simp, .inr (by rw [he]; rfl)⟩
    · rw [if_neg he, Int.toNat_natCast]
      refine ⟨rpL s N, cap_yes (by rw [rpL_len]; omega), rpL_len s N, ?_⟩
      by_cases h0 : N = 0
      · exact .inl h0
      · exact .inr (rpL_take s (by omega))
  have HR : Hid (∀ W : World, Calls Tryd.prog 13 #[.string ⟨s.toArray⟩, .int .i64 (N : Int)] W fun e w' => e = .returned (.tuple #[.string ⟨R.toArray⟩, .int .i64 0]) ∧ Below W.heap.size W w') := fun W => by
    have := HRp.out W
    rw [hR] at this
    exact this
  have szR := mk_size R
  have hEl : ((R.length : Int) == (s.length : Int) * (N : Int)) = true := by rw [beq_iff_eq, ← Int.natCast_mul, hRl]
  clear HRp hR
  by_cases h0 : N = 0
  · subst h0
    have hR0 : R = [] := List.eq_nil_of_length_eq_zero (by rw [hRl]; rfl)
    subst hR0
    have HR0 : Hid (∀ W : World, Calls Tryd.prog 13 #[.string ⟨s.toArray⟩, .int .i64 0] W fun e w' => e = .returned (.tuple #[.string ⟨#[]⟩, .int .i64 0]) ∧ Below W.heap.size W w') := HR
    have hw0 : IntKind.i64.wrap 0 = 0 := by rw [IntKind.wrap_i64]; omega
    clear hRt hml k4 hRl HR hEl gk4 hmw
    go_enter Tryd.func4, Tryd.ntmps4
    go_wp2_with (first
      | (go_at_call 10; refine (H1.out _ HB.out).mono ?_; rintro e wz ⟨rfl, hz⟩; replace HB := hide (upR HB.out hz); clear hz; clear H1)
      | (go_at_call 10; refine (H2.out _ HB.out).mono ?_; rintro e wz ⟨rfl, hz⟩; replace HB := hide (upR HB.out hz); clear hz)
      | (go_at_call 12; refine (HF.out _).mono ?_; rintro e wz ⟨rfl, hz⟩; replace HB := hide (upR HB.out hz); clear hz)
      | (go_at_call 11; refine (H3.out _).mono ?_; rintro e wz ⟨rfl, hz⟩; replace HB := hide (upR HB.out hz); clear hz; clear H3)
      | (go_at_call 11; refine (H4.out _).mono ?_; rintro e wz ⟨rfl, hz⟩; replace HB := hide (upR HB.out hz); clear hz; clear H4)
      | (go_at_call 11; refine (H5.out _).mono ?_; rintro e wz ⟨rfl, hz⟩; replace HB := hide (upR HB.out hz); clear hz)
      | (go_at_call 13; refine (HR0.out _).mono ?_; rintro e wz ⟨rfl, hz⟩; replace HB := hide (upR HB.out hz); clear hz)
      | (go_at_call 6; refine (HL.out _ HB.out).mono ?_; rintro e wz ⟨rfl, hz⟩; replace HB := hide (upR HB.out hz); clear hz))
    go_ret
    exact ⟨by first | rfl | simp, HB.out⟩
  · have e0 : ((N : Int) == 0) = false := by rw [beq_eq_false_iff_ne]; omega
    have hRt2 := hRt.resolve_left h0
    have hge : s.length ≤ R.length := by
      have := congrArg List.length hRt2
      rw [List.length_take] at this
      omega
    have xs : (⟨R.toArray⟩ : ByteArray).extract 0 s.length = ⟨s.toArray⟩ := by rw [mk_take, hRt2]
    have g7 : (s.length : Int) ≤ (R.length : Int) := by omega
    have hEs : ((s : By) == s) = true := beq_self_eq_true _
    clear hRt hRt2 hml k4 hRl
    go_enter Tryd.func4, Tryd.ntmps4
    go_wp2_with (first
      | (go_at_call 10; refine (H1.out _ HB.out).mono ?_; rintro e wz ⟨rfl, hz⟩; replace HB := hide (upR HB.out hz); clear hz; clear H1)
      | (go_at_call 10; refine (H2.out _ HB.out).mono ?_; rintro e wz ⟨rfl, hz⟩; replace HB := hide (upR HB.out hz); clear hz)
      | (go_at_call 12; refine (HF.out _).mono ?_; rintro e wz ⟨rfl, hz⟩; replace HB := hide (upR HB.out hz); clear hz)
      | (go_at_call 11; refine (H3.out _).mono ?_; rintro e wz ⟨rfl, hz⟩; replace HB := hide (upR HB.out hz); clear hz; clear H3)
      | (go_at_call 11; refine (H4.out _).mono ?_; rintro e wz ⟨rfl, hz⟩; replace HB := hide (upR HB.out hz); clear hz; clear H4)
      | (go_at_call 11; refine (H5.out _).mono ?_; rintro e wz ⟨rfl, hz⟩; replace HB := hide (upR HB.out hz); clear hz)
      | (go_at_call 13; refine (HR.out _).mono ?_; rintro e wz ⟨rfl, hz⟩; replace HB := hide (upR HB.out hz); clear hz)
      | (go_at_call 6; refine (HL.out _ HB.out).mono ?_; rintro e wz ⟨rfl, hz⟩; replace HB := hide (upR HB.out hz); clear hz))
    go_ret
    exact ⟨by first | rfl | simp, HB.out⟩
end Go.Proofs.YthooimaadgabiabDoor
