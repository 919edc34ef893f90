/-
  The walk of StrsTurns.
-/
import Derived.Test.YthooimaadgabiabDoorStL
import Derived.Test.YthooimaadgabiabDoorStT
namespace Go.Proofs.YthooimaadgabiabDoor
open Go.RowKit
set_option linter.unusedSimpArgs false
set_option linter.unusedVariables false

set_option maxRecDepth 100000 in
set_option maxHeartbeats 4000000 in
theorem strsTurns_walk (sp ss : ByteArray) (f : Int) (w : World) (hc : CellOk w) (wp : sp.size ≤ maxLen) (ws : ss.size ≤ maxLen) (wf : -9223372036854775808 ≤ f ∧ f ≤ 9223372036854775807) :
    Calls Tryd.prog 5 #[.string sp, .string ss, .int .i64 f] w fun e w' => e = .returned (.bool true) ∧ Below w.heap.size w w' := by
  obtain ⟨p, rfl⟩ := by_form sp
  obtain ⟨s, rfl⟩ := by_form ss
  rw [mk_size] at wp ws
  have szp := mk_size p
  have sz := mk_size s
  have HL : Hid (∀ W : World, Below w.heap.size w W → Calls Tryd.prog 6 #[] W fun e w' => e = .returned (.bool true) ∧ Below W.heap.size W w') := fun W hW => lives_any W (cellOk_below hc hW)
  have HB := hide (Below.refl w.heap.size w)
  by_cases k1 : 60 < p.length
  · have gk1 : (60 < (p.length : Int)) = True := eq_true (by omega)
    clear hc
    go_enter Tryd.func5, Tryd.ntmps5
    go_wp2_with (go_at_call 6; refine (HL.out _ HB.out).mono ?_; rintro e wz ⟨rfl, hz⟩; replace HB := hide (upR HB.out hz); clear hz)
    go_ret
    exact ⟨by first | rfl | simp, HB.out⟩
  have gk1 : (60 < (p.length : Int)) = False := eq_false (by omega)
  by_cases k2 : 100 < s.length
  · have gk2 : (100 < (s.length : Int)) = True := eq_true (by omega)
    clear hc
    go_enter Tryd.func5, Tryd.ntmps5
    go_wp2_with (go_at_call 6; refine (HL.out _ HB.out).mono ?_; rintro e wz ⟨rfl, hz⟩; replace HB := hide (upR HB.out hz); clear hz)
    go_ret
    exact ⟨by first | rfl | simp, HB.out⟩
  have gk2 : (100 < (s.length : Int)) = False := eq_false (by omega)
  have H1 := hide (fun W => Find_any p s f W wp ws wf.2)
  have H2 := hide (fun W => Search_any p s f W wp ws wf.2)
  have HS := hide (fun h => search_tame (p := p) (s := s) (f := f) h)
  have hpl : p.length ≤ 60 := by omega
  clear hc k1 k2
  go_enter Tryd.func5, Tryd.ntmps5
  go_wp2
  go_loopw [7] (fun iv wr => ∃ i : Nat, i ≤ p.length ∧ iv = .int .i64 i ∧ Hid ((p.take i).all tameB = true) ∧ wr = w) (fun iv _ => p.length - (intOf iv).toNat)
  case atStart => exact ⟨0, Nat.zero_le _, rfl, hide rfl, rfl⟩
  case round =>
    obtain ⟨i, hi, rfl, HT, rfl⟩ := hrel
    by_cases hlt : i < p.length
    · have g1 : (i : Int) < (p.length : Int) := by omega
      have g0 : (0 : Int) ≤ (i : Int) := by omega
      have hwi : IntKind.i64.wrap ((i : Int) + 1) = (i : Int) + 1 := by rw [IntKind.wrap_i64]; omega
      have hst := List.take_append_getElem hlt
      obtain ⟨c, hcc⟩ : ∃ c, p[i] = c := ⟨_, rfl⟩
      have hx : ∀ h, (⟨p.toArray⟩ : ByteArray)[i]'h = c := fun h => (show _ = p[i] from rfl).trans hcc
      rw [hcc] at hst
      have hcn := c.toNat_lt
      have hne : ∀ k : UInt8, (c.toNat : Int) ≠ (k.toNat : Int) → c ≠ k := fun k h e => h (by rw [e])
      by_cases q63 : (c.toNat : Int) = 63
      · have b63 : ((c.toNat : Int) == 63) = true := by rw [q63]; rfl
        clear hst hcc HT hne
        go_wp2_with (go_at_call 6; refine (HL.out _ HB.out).mono ?_; rintro e wz ⟨rfl, hz⟩; replace HB := hide (upR HB.out hz); clear hz)
        go_ret
        exact ⟨by first | rfl | simp, HB.out⟩
      have b63 : ((c.toNat : Int) == 63) = false := by rw [beq_eq_false_iff_ne]; exact q63
      by_cases q42 : (c.toNat : Int) = 42
      · have b42 : ((c.toNat : Int) == 42) = true := by rw [q42]; rfl
        clear hst hcc HT hne
        go_wp2_with (go_at_call 6; refine (HL.out _ HB.out).mono ?_; rintro e wz ⟨rfl, hz⟩; replace HB := hide (upR HB.out hz); clear hz)
        go_ret
        exact ⟨by first | rfl | simp, HB.out⟩
      have b42 : ((c.toNat : Int) == 42) = false := by rw [beq_eq_false_iff_ne]; exact q42
      by_cases q126 : (c.toNat : Int) = 126
      · have b126 : ((c.toNat : Int) == 126) = true := by rw [q126]; rfl
        clear hst hcc HT hne
        go_wp2_with (go_at_call 6; refine (HL.out _ HB.out).mono ?_; rintro e wz ⟨rfl, hz⟩; replace HB := hide (upR HB.out hz); clear hz)
        go_ret
        exact ⟨by first | rfl | simp, HB.out⟩
      have b126 : ((c.toNat : Int) == 126) = false := by rw [beq_eq_false_iff_ne]; exact q126
      by_cases u1 : (65 : Int) ≤ (c.toNat : Int)
      · by_cases u2 : (c.toNat : Int) ≤ 90
        · clear hst hcc HT hne
          go_wp2_with (go_at_call 6; refine (HL.out _ HB.out).mono ?_; rintro e wz ⟨rfl, hz⟩; replace HB := hide (upR HB.out hz); clear hz)
          go_ret
          exact ⟨by first | rfl | simp, HB.out⟩
        · by_cases v1 : (97 : Int) ≤ (c.toNat : Int)
          · by_cases v2 : (c.toNat : Int) ≤ 122
            · clear hst hcc HT hne
              go_wp2_with (go_at_call 6; refine (HL.out _ HB.out).mono ?_; rintro e wz ⟨rfl, hz⟩; replace HB := hide (upR HB.out hz); clear hz)
              go_ret
              exact ⟨by first | rfl | simp, HB.out⟩
            · have HT2 : Hid ((p.take (i + 1)).all tameB = true) := by
                show _ = _
                rw [← hst, List.all_append, HT.out, Bool.true_and, List.all_cons, List.all_nil, Bool.and_true]
                unfold tameB
                have z1 : (c == 63) = false := by rw [beq_eq_false_iff_ne]; exact hne 63 q63
                have z2 : (c == 42) = false := by rw [beq_eq_false_iff_ne]; exact hne 42 q42
                have z3 : (c == 126) = false := by rw [beq_eq_false_iff_ne]; exact hne 126 q126
                rw [z1, z2, z3]
                simp
                omega
              clear hst hcc HT hne
              go_wp2
              go_roundw
              case rel => exact ⟨i + 1, by omega, by go_num, HT2, (by first | rfl | trivial)⟩
              case measure => simp [intOf]; omega
          · have HT2 : Hid ((p.take (i + 1)).all tameB = true) := by
              show _ = _
              rw [← hst, List.all_append, HT.out, Bool.true_and, List.all_cons, List.all_nil, Bool.and_true]
              unfold tameB
              have z1 : (c == 63) = false := by rw [beq_eq_false_iff_ne]; exact hne 63 q63
              have z2 : (c == 42) = false := by rw [beq_eq_false_iff_ne]; exact hne 42 q42
              have z3 : (c == 126) = false := by rw [beq_eq_false_iff_ne]; exact hne 126 q126
              rw [z1, z2, z3]
              simp
              omega
            clear hst hcc HT hne
            go_wp2
            go_roundw
            case rel => exact ⟨i + 1, by omega, by go_num, HT2, (by first | rfl | trivial)⟩
            case measure => simp [intOf]; omega
      · by_cases v1 : (97 : Int) ≤ (c.toNat : Int)
        · by_cases v2 : (c.toNat : Int) ≤ 122
          · clear hst hcc HT hne
            go_wp2_with (go_at_call 6; refine (HL.out _ HB.out).mono ?_; rintro e wz ⟨rfl, hz⟩; replace HB := hide (upR HB.out hz); clear hz)
            go_ret
            exact ⟨by first | rfl | simp, HB.out⟩
          · have HT2 : Hid ((p.take (i + 1)).all tameB = true) := by
              show _ = _
              rw [← hst, List.all_append, HT.out, Bool.true_and, List.all_cons, List.all_nil, Bool.and_true]
              unfold tameB
              have z1 : (c == 63) = false := by rw [beq_eq_false_iff_ne]; exact hne 63 q63
              have z2 : (c == 42) = false := by rw [beq_eq_false_iff_ne]; exact hne 42 q42
              have z3 : (c == 126) = false := by rw [beq_eq_false_iff_ne]; exact hne 126 q126
              rw [z1, z2, z3]
              simp
              omega
            clear hst hcc HT hne
            go_wp2
            go_roundw
            case rel => exact ⟨i + 1, by omega, by go_num, HT2, (by first | rfl | trivial)⟩
            case measure => simp [intOf]; omega
        · have HT2 : Hid ((p.take (i + 1)).all tameB = true) := by
            show _ = _
            rw [← hst, List.all_append, HT.out, Bool.true_and, List.all_cons, List.all_nil, Bool.and_true]
            unfold tameB
            have z1 : (c == 63) = false := by rw [beq_eq_false_iff_ne]; exact hne 63 q63
            have z2 : (c == 42) = false := by rw [beq_eq_false_iff_ne]; exact hne 42 q42
            have z3 : (c == 126) = false := by rw [beq_eq_false_iff_ne]; exact hne 126 q126
            rw [z1, z2, z3]
            simp
            omega
          clear hst hcc HT hne
          go_wp2
          go_roundw
          case rel => exact ⟨i + 1, by omega, by go_num, HT2, (by first | rfl | trivial)⟩
          case measure => simp [intOf]; omega
    · have g1 : ¬ (i : Int) < (p.length : Int) := by omega
      have hti : (p.take i).all tameB = true := HT.out
      rw [List.take_of_length_le (by omega)] at hti
      have hss := HS.out hti
      rw [hss] at H2
      obtain ⟨r1, r2, e1, _⟩ := tupI_form (fdS p s f)
      rw [e1] at H1 H2
      clear HS hti hss e1 HT
      go_wp2_with (first
        | (go_at_call 14; refine (H1.out _).mono ?_; rintro e wz ⟨rfl, hz⟩; replace HB := hide (upR HB.out hz); clear hz)
        | (go_at_call 15; refine (H2.out _).mono ?_; rintro e wz ⟨rfl, hz⟩; replace HB := hide (upR HB.out hz); clear hz)
        | (go_at_call 6; refine (HL.out _ HB.out).mono ?_; rintro e wz ⟨rfl, hz⟩; replace HB := hide (upR HB.out hz); clear hz))
      go_ret
      exact ⟨by first | rfl | simp, HB.out⟩
end Go.Proofs.YthooimaadgabiabDoor
