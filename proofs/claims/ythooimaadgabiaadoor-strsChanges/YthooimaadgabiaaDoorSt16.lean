/-
  The answer's Substitute.
-/
import Derived.Test.YthooimaadgabiaaDoorSt12
import Derived.Test.YthooimaadgabiaaDoorSt9
namespace Go.Proofs.YthooimaadgabiaaDoor
open Go.RowKit
set_option linter.unusedSimpArgs false
set_option linter.unusedVariables false

theorem sbS_no {s o v : By} {k : Int} (h : 255 < s.length ∨ 255 < o.length ∨ 255 < v.length ∨ k < 0) : sbS s o v k = none := if_pos h
theorem sbS_yes {s o v : By} {k : Int} (h : ¬ (255 < s.length ∨ 255 < o.length ∨ 255 < v.length ∨ k < 0)) : sbS s o v k = if o = [] then some s else capS (subL o v k.toNat 0 s) := if_neg h
set_option maxRecDepth 100000 in
set_option maxHeartbeats 4000000 in
theorem rSubst_any (s o v : By) (k : Int) (w : World) (ms : s.length ≤ maxLen) (mo : o.length ≤ maxLen) (mv : v.length ≤ maxLen) (mk : k ≤ 9223372036854775807) :
    Calls Tryd.prog 23 #[.string ⟨s.toArray⟩, .string ⟨o.toArray⟩, .string ⟨v.toArray⟩, .int .i64 k] w fun e w' => e = .returned (tupT (sbS s o v k)) ∧ Below w.heap.size w w' := by
  by_cases kp : 255 < s.length ∨ 255 < o.length ∨ 255 < v.length
  · have HL := hide (long_is (r := true) (decide_eq_true kp) w)
    rw [sbS_no (by omega)]
    clear kp
    generalize (⟨s.toArray⟩ : ByteArray) = S at *
    generalize (⟨o.toArray⟩ : ByteArray) = O at *
    generalize (⟨v.toArray⟩ : ByteArray) = V at *
    go_enter Tryd.func23, Tryd.ntmps23
    go_wp2_with (go_at_call 42; refine HL.out.mono ?_; rintro e w9 ⟨rfl, rfl⟩)
    go_ret2
    exact ⟨rfl, Below.refl _ _⟩
  have HL := hide (long_is (r := false) (decide_eq_false kp) w)
  by_cases kn : k < 0
  · rw [sbS_no (by omega)]
    clear kp
    generalize (⟨s.toArray⟩ : ByteArray) = S at *
    generalize (⟨o.toArray⟩ : ByteArray) = O at *
    generalize (⟨v.toArray⟩ : ByteArray) = V at *
    go_enter Tryd.func23, Tryd.ntmps23
    go_wp2_with (go_at_call 42; refine HL.out.mono ?_; rintro e w9 ⟨rfl, rfl⟩)
    go_ret2
    exact ⟨rfl, Below.refl _ _⟩
  have kn2 : (k < 0) = False := eq_false kn
  rw [sbS_yes (by omega)]
  obtain ⟨K, rfl⟩ : ∃ K : Nat, k = K := ⟨k.toNat, by omega⟩
  rw [Int.toNat_natCast]
  have hsl : s.length ≤ 255 := by omega
  have hol : o.length ≤ 255 := by omega
  have hvl : v.length ≤ 255 := by omega
  have sz := mk_size s
  have szo := mk_size o
  have szv := mk_size v
  clear kp kn
  by_cases ho : o = []
  · rw [if_pos ho]
    have hem : List.isEmpty o = true := by rw [ho]; rfl
    clear ho
    go_enter Tryd.func23, Tryd.ntmps23
    go_wp2_with (go_at_call 42; refine HL.out.mono ?_; rintro e w9 ⟨rfl, rfl⟩)
    go_ret2
    exact ⟨rfl, Below.refl _ _⟩
  rw [if_neg ho]
  have hem : List.isEmpty o = false := by simpa using ho
  have hpos : 0 < o.length := List.length_pos_iff.2 ho
  have HO := hide ho
  obtain ⟨T, hT⟩ : ∃ T, subL o v K 0 s = T := ⟨_, rfl⟩
  rw [hT]
  have HT := hide hT
  have HTo := hide (fun W => rtold_any T W)
  have HS : Hid (∀ (i : Nat) (W : World), i ≤ s.length → Calls Tryd.prog 51 #[.string ⟨o.toArray⟩, .string ⟨s.toArray⟩, .int .i64 i] W fun e w' => e = .returned (.bool (prefixB o (s.drop i))) ∧ w' = W) := fun i W hi => stands_any o s i W hi (by omega) (by omega)
  clear hT ho
  go_enter Tryd.func23, Tryd.ntmps23
  go_wp2_with (go_at_call 42; refine HL.out.mono ?_; rintro e w9 ⟨rfl, rfl⟩)
  go_loopw [10, 11, 12] (fun ov cv iv wr => ∃ (i c : Nat) (out : By), i ≤ s.length ∧ ov = .string ⟨out.toArray⟩ ∧ cv = .int .i64 c ∧ iv = .int .i64 i ∧ Hid (out ++ subL o v K c (s.drop i) = T) ∧ Hid (out.length ≤ 255 * i ∧ c ≤ i) ∧ wr = w9) (fun _ _ iv _ => s.length - (intOf iv).toNat)
  case atStart => exact ⟨0, 0, [], Nat.zero_le _, rfl, rfl, rfl, HT, hide ⟨Nat.zero_le _, Nat.le_refl _⟩, rfl⟩
  case round =>
    obtain ⟨i, c, out, hi, rfl, rfl, rfl, HQ, HLE, rfl⟩ := hrel
    have szt := mk_size out
    have hle := HLE.out
    by_cases hlt : i < s.length
    · have g1 : (i : Int) < (s.length : Int) := by omega
      have HP := hide (HS.out i wr (by omega))
      have hdr := List.drop_eq_getElem_cons hlt
      have hwi : IntKind.i64.wrap ((i : Int) + 1) = (i : Int) + 1 := by rw [IntKind.wrap_i64]; omega
      have hwc : IntKind.i64.wrap ((c : Int) + 1) = (c : Int) + 1 := by rw [IntKind.wrap_i64]; omega
      have hq := HQ.out
      cases hb : prefixB o (s.drop i) with
      | false =>
        rw [hb] at HP
        have xs : (⟨s.toArray⟩ : ByteArray).extract i (i + 1) = ⟨[s[i]].toArray⟩ := by
          rw [mk_mid s i (i + 1) (by omega), hdr, show i + 1 - i = 1 by omega]; rfl
        rw [hdr] at hb
        rw [hdr, sub_miss hb] at hq
        obtain ⟨a, ha⟩ : ∃ a, s[i] = a := ⟨_, rfl⟩
        rw [ha] at xs hq
        have hX : ((i : Int) + 1).toNat = i + 1 := by omega
        have g7 : (i : Int) ≤ (i : Int) + 1 := by omega
        have g8 : (i : Int) + 1 ≤ (s.length : Int) := by omega
        have y1 := mk_app out [a]
        have s1 := mk_size [a]
        have g9 : (9223372036854775807 < out.length + 1) = False := eq_false (by omega)
        have HF : Hid ((out ++ [a]) ++ subL o v K c (s.drop (i + 1)) = T) := by
          rw [List.append_assoc]; exact hide hq
        clear HQ hdr hb hq ha hle
        go_wp2_with (go_at_call 51; refine HP.out.mono ?_; rintro e w2 ⟨rfl, rfl⟩)
        go_roundw
        case rel => exact ⟨i + 1, c, out ++ [a], by omega, by first | rfl | simp, rfl, by go_num, HF, hide (by have := HLE.out; rw [List.length_append, List.length_singleton]; omega), (by first | rfl | trivial)⟩
        case measure => simp [intOf]; omega
      | true =>
        rw [hb] at HP
        have hfit : i + o.length ≤ s.length := by
          have h1 := (prefix_iff.1 hb).length_le
          rw [List.length_drop] at h1
          omega
        rw [sub_hit HO.out hb, List.drop_drop] at hq
        have hwo : IntKind.i64.wrap ((i : Int) + (o.length : Int)) = (i : Int) + (o.length : Int) := by rw [IntKind.wrap_i64]; omega
        clear HQ hdr hb
        by_cases hk0 : K = 0 ∨ K = c + 1
        · rw [if_pos hk0] at hq
          have HF : Hid ((out ++ v) ++ subL o v K (c + 1) (s.drop (i + o.length)) = T) := by
            rw [List.append_assoc]; exact hide hq
          have y1 := mk_app out v
          have g9 : (9223372036854775807 < out.length + v.length) = False := eq_false (by omega)
          by_cases k1 : K = 0
          · have e1 : ((K : Int) == 0) = true := by rw [k1]; rfl
            clear hq hk0 hle k1
            go_wp2_with (go_at_call 51; refine HP.out.mono ?_; rintro e w2 ⟨rfl, rfl⟩)
            go_roundw
            case rel => exact ⟨i + o.length, c + 1, out ++ v, by omega, by first | rfl | simp, by go_num, by go_num, HF, hide (by have := HLE.out; rw [List.length_append]; omega), (by first | rfl | trivial)⟩
            case measure => simp [intOf]; omega
          · have e1 : ((K : Int) == 0) = false := by rw [beq_eq_false_iff_ne]; omega
            have e2 : ((c : Int) + 1 == (K : Int)) = true := by rw [beq_iff_eq]; omega
            clear hq hk0 hle k1
            go_wp2_with (go_at_call 51; refine HP.out.mono ?_; rintro e w2 ⟨rfl, rfl⟩)
            go_roundw
            case rel => exact ⟨i + o.length, c + 1, out ++ v, by omega, by first | rfl | simp, by go_num, by go_num, HF, hide (by have := HLE.out; rw [List.length_append]; omega), (by first | rfl | trivial)⟩
            case measure => simp [intOf]; omega
        · rw [if_neg hk0] at hq
          have HF : Hid ((out ++ o) ++ subL o v K (c + 1) (s.drop (i + o.length)) = T) := by
            rw [List.append_assoc]; exact hide hq
          have y1 := mk_app out o
          have g9 : (9223372036854775807 < out.length + o.length) = False := eq_false (by omega)
          have e1 : ((K : Int) == 0) = false := by rw [beq_eq_false_iff_ne]; omega
          have e2 : ((c : Int) + 1 == (K : Int)) = false := by rw [beq_eq_false_iff_ne]; omega
          clear hq hk0 hle
          go_wp2_with (go_at_call 51; refine HP.out.mono ?_; rintro e w2 ⟨rfl, rfl⟩)
          go_roundw
          case rel => exact ⟨i + o.length, c + 1, out ++ o, by omega, by first | rfl | simp, by go_num, by go_num, HF, hide (by have := HLE.out; rw [List.length_append]; omega), (by first | rfl | trivial)⟩
          case measure => simp [intOf]; omega
    · have HF : Hid (out = T) := by
        have := HQ.out
        rw [List.drop_eq_nil_of_le (by omega), sub_nil, List.append_nil] at this
        exact hide this
      have g1 : ¬ (i : Int) < (s.length : Int) := by omega
      have hF := HF.out
      subst hF
      clear HQ HF
      cases hz : capS out with
      | none =>
        rw [hz] at HTo
        simp only [tupT] at HTo
        have HZ := hide hz
        clear hz
        go_wp2_with (go_at_call 58; refine (HTo.out _).mono ?_; rintro e w2 ⟨rfl, rfl⟩)
        go_ret2
        exact ⟨by rw [HZ.out]; rfl, Below.refl _ _⟩
      | some z =>
        rw [hz] at HTo
        simp only [tupT] at HTo
        have HZ := hide hz
        clear hz
        go_wp2_with (go_at_call 58; refine (HTo.out _).mono ?_; rintro e w2 ⟨rfl, rfl⟩)
        go_ret2
        exact ⟨by rw [HZ.out]; rfl, Below.refl _ _⟩
end Go.Proofs.YthooimaadgabiaaDoor
