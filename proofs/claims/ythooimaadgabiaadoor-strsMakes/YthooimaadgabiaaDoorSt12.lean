/-
  The answer's Find, Search, Replace, Repeat, Join, Lower, Char and Code.
-/
import Derived.Test.YthooimaadgabiaaDoorSt11
namespace Go.Proofs.YthooimaadgabiaaDoor
open Go.RowKit
set_option linter.unusedSimpArgs false
set_option linter.unusedVariables false

theorem stands_any (p s : By) (i : Nat) (w : World) (hi : i ≤ s.length) (hs : s.length ≤ 1000) (hp : p.length ≤ 1000) :
    Calls Tryd.prog 51 #[.string ⟨p.toArray⟩, .string ⟨s.toArray⟩, .int .i64 i] w fun e w' => e = .returned (.bool (prefixB p (s.drop i))) ∧ w' = w := by
  have szp := mk_size p
  have sz := mk_size s
  have hw : IntKind.i64.wrap ((i : Int) + (p.length : Int)) = (i : Int) + (p.length : Int) := by rw [IntKind.wrap_i64]; omega
  have e0 : prefixB p (s.drop i) = decide ((s.drop i).take p.length = p) := prefix_take
  by_cases h : i + p.length ≤ s.length
  · have g1 : (i : Int) + (p.length : Int) ≤ (s.length : Int) := by omega
    have g0 : (i : Int) ≤ (i : Int) + (p.length : Int) := by omega
    have x1 : (⟨s.toArray⟩ : ByteArray).extract i (i + p.length) = ⟨((s.drop i).take p.length).toArray⟩ := by rw [mk_mid s i _ (by omega), show i + p.length - i = p.length by omega]
    have hX : ((i : Int) + (p.length : Int)).toNat = i + p.length := by omega
    obtain ⟨X, hXX⟩ : ∃ X, (s.drop i).take p.length = X := ⟨_, rfl⟩
    rw [hXX] at x1 e0
    cases hb : prefixB p (s.drop i) with
    | true =>
      have hE : X = p := by rw [hb] at e0; simpa using e0.symm
      have hE2 : (X == p) = true := by rw [beq_iff_eq]; exact hE
      clear e0 hb hE hXX
      go_enter Tryd.func51, Tryd.ntmps51
      go_wp2
      go_ret
      exact ⟨by first | rfl | simp, rfl⟩
    | false =>
      have hE : X ≠ p := by rw [hb] at e0; simpa using e0.symm
      have hE2 : (X == p) = false := by rw [beq_eq_false_iff_ne]; exact hE
      clear e0 hb hXX
      go_enter Tryd.func51, Tryd.ntmps51
      go_wp2
      go_ret
      exact ⟨by first | rfl | simp, rfl⟩
  · have g1 : ((i : Int) + (p.length : Int) ≤ (s.length : Int)) = False := eq_false (by omega)
    have e1 : prefixB p (s.drop i) = false := by
      rw [e0, decide_eq_false_iff_not]
      intro e
      have := congrArg List.length e
      rw [List.length_take, List.length_drop] at this
      omega
    rw [e1]
    clear e0 e1
    go_enter Tryd.func51, Tryd.ntmps51
    go_wp2
    go_ret
    exact ⟨by first | rfl | simp, rfl⟩
set_option maxRecDepth 100000 in
set_option maxHeartbeats 2000000 in
theorem rFind_any (p s : By) (f : Int) (w : World) (mp : p.length ≤ maxLen) (ms : s.length ≤ maxLen) (mf : f ≤ 9223372036854775807) :
    Calls Tryd.prog 17 #[.string ⟨p.toArray⟩, .string ⟨s.toArray⟩, .int .i64 f] w fun e w' => e = .returned (tupI (fdS p s f)) ∧ Below w.heap.size w w' := by
  have sz := mk_size s
  by_cases kp : 255 < p.length ∨ 255 < s.length
  · have HL := hide (long_is (a := p) (b := s) (c := []) (r := true) (decide_eq_true (by rcases kp with h | h; exact .inl h; exact .inr (.inl h))) w)
    rw [show fdS p s f = none by unfold fdS plS; rcases kp with h | h; rw [if_pos h]; (by_cases h2 : 255 < p.length; rw [if_pos h2]; rw [if_neg h2, if_pos (.inl h)])]
    clear kp
    generalize (⟨p.toArray⟩ : ByteArray) = P at *
    generalize (⟨s.toArray⟩ : ByteArray) = S at *
    go_enter Tryd.func17, Tryd.ntmps17
    go_wp2_with (go_at_call 42; refine HL.out.mono ?_; rintro e w9 ⟨rfl, rfl⟩)
    go_ret2
    exact ⟨rfl, Below.refl _ _⟩
  have HL := hide (long_is (a := p) (b := s) (c := []) (r := false) (decide_eq_false (by simp; omega)) w)
  have hpl : p.length ≤ 255 := by omega
  have hsl : s.length ≤ 255 := by omega
  rw [show fdS p s f = plS (prefixB p) s f from if_neg (by omega)]
  have hw1 : IntKind.i64.wrap ((s.length : Int) + 1) = (s.length : Int) + 1 := by rw [IntKind.wrap_i64]; omega
  clear kp
  by_cases k1 : f < 1
  · rw [show plS (prefixB p) s f = none from if_pos (.inr k1)]
    generalize (⟨p.toArray⟩ : ByteArray) = P at *
    generalize (⟨s.toArray⟩ : ByteArray) = S at *
    go_enter Tryd.func17, Tryd.ntmps17
    go_wp2_with (go_at_call 42; refine HL.out.mono ?_; rintro e w9 ⟨rfl, rfl⟩)
    go_ret2
    exact ⟨rfl, Below.refl _ _⟩
  have k1' : (f < 1) = False := eq_false k1
  rw [show plS (prefixB p) s f = upS (seekL (prefixB p) s (f - 1).toNat) from if_neg (by omega)]
  by_cases k2 : (s.length : Int) + 1 < f
  · rw [seek_end (by omega), show upS none = none from rfl]
    generalize (⟨p.toArray⟩ : ByteArray) = P at *
    generalize (⟨s.toArray⟩ : ByteArray) = S at *
    go_enter Tryd.func17, Tryd.ntmps17
    go_wp2_with (go_at_call 42; refine HL.out.mono ?_; rintro e w9 ⟨rfl, rfl⟩)
    go_ret2
    exact ⟨rfl, Below.refl _ _⟩
  have k2' : ((s.length : Int) + 1 < f) = False := eq_false k2
  obtain ⟨k0, hk0⟩ : ∃ k : Nat, f - 1 = k := ⟨(f - 1).toNat, by omega⟩
  rw [hk0, Int.toNat_natCast]
  have hw2 : IntKind.i64.wrap (k0 : Int) = (k0 : Int) := by rw [IntKind.wrap_i64]; omega
  have hk1 : k0 ≤ s.length + 1 := by omega
  obtain ⟨Z, hZ⟩ : ∃ Z, seekL (prefixB p) s k0 = Z := ⟨_, rfl⟩
  rw [hZ]
  have HZ := hide hZ
  have HT : Hid (∀ (i : Nat) (W : World), i ≤ s.length → Calls Tryd.prog 51 #[.string ⟨p.toArray⟩, .string ⟨s.toArray⟩, .int .i64 i] W fun e w' => e = .returned (.bool (prefixB p (s.drop i))) ∧ w' = W) := fun i W hi => stands_any p s i W hi (by omega) (by omega)
  clear hZ
  generalize (⟨p.toArray⟩ : ByteArray) = P at *
  generalize (⟨s.toArray⟩ : ByteArray) = S at *
  go_enter Tryd.func17, Tryd.ntmps17
  go_wp2_with (go_at_call 42; refine HL.out.mono ?_; rintro e w9 ⟨rfl, rfl⟩)
  go_loopw [8] (fun iv wr => ∃ k : Nat, k ≤ s.length + 1 ∧ iv = .int .i64 k ∧ Hid (seekL (prefixB p) s k = Z) ∧ wr = w9) (fun iv _ => s.length + 1 - (intOf iv).toNat)
  case atStart => exact ⟨k0, hk1, rfl, HZ, rfl⟩
  case round =>
    obtain ⟨k, hk, rfl, HQ, rfl⟩ := hrel
    by_cases hlt : k ≤ s.length
    · have g1 : (k : Int) ≤ (s.length : Int) := by omega
      have HP := hide (HT.out k wr hlt)
      have hw : IntKind.i64.wrap ((k : Int) + 1) = (k : Int) + 1 := by rw [IntKind.wrap_i64]; omega
      cases hb : prefixB p (s.drop k) with
      | true =>
        rw [hb] at HP
        have HF : Hid (Z = some k) := HQ.out.symm.trans (seek_yes hlt hb)
        clear hb HQ
        go_wp2_with (go_at_call 51; refine HP.out.mono ?_; rintro e w2 ⟨rfl, rfl⟩)
        go_ret2
        rw [HF.out]
        exact ⟨rfl, Below.refl _ _⟩
      | false =>
        rw [hb] at HP
        have HF : Hid (seekL (prefixB p) s (k + 1) = Z) := (seek_no hlt hb).symm.trans HQ.out
        clear hb HQ
        go_wp2_with (go_at_call 51; refine HP.out.mono ?_; rintro e w2 ⟨rfl, rfl⟩)
        go_roundw
        case rel => exact ⟨k + 1, by omega, by go_num, HF, (by first | rfl | trivial)⟩
        case measure => simp [intOf]; omega
    · have HF : Hid (Z = none) := HQ.out.symm.trans (seek_end (by omega))
      have g1 : ¬ (k : Int) ≤ (s.length : Int) := by omega
      clear HQ
      go_wp2
      go_ret2
      rw [HF.out]
      exact ⟨rfl, Below.refl _ _⟩
theorem any_no {p r : By} (h : ∀ n, n ≤ r.length → likeR p (r.take n) = false) : anyL p r = false := by
  rw [Bool.eq_false_iff]
  intro e
  obtain ⟨n, h1, h2⟩ := any_iff.1 e
  rw [h n h1] at h2; cases h2
set_option maxRecDepth 100000 in
set_option maxHeartbeats 4000000 in
theorem rSearch_any (p s : By) (f : Int) (w : World) (mp : p.length ≤ maxLen) (ms : s.length ≤ maxLen) (mf : f ≤ 9223372036854775807) :
    Calls Tryd.prog 19 #[.string ⟨p.toArray⟩, .string ⟨s.toArray⟩, .int .i64 f] w fun e w' => e = .returned (tupI (srS p s f)) ∧ Below w.heap.size w w' := by
  have sz := mk_size s
  by_cases kp : 255 < p.length ∨ 255 < s.length
  · have HL := hide (long_is (a := p) (b := s) (c := []) (r := true) (decide_eq_true (by rcases kp with h | h; exact .inl h; exact .inr (.inl h))) w)
    rw [show srS p s f = none by unfold srS plS; rcases kp with h | h; rw [if_pos h]; (by_cases h2 : 255 < p.length; rw [if_pos h2]; rw [if_neg h2, if_pos (.inl h)])]
    clear kp
    generalize (⟨p.toArray⟩ : ByteArray) = P at *
    generalize (⟨s.toArray⟩ : ByteArray) = S at *
    go_enter Tryd.func19, Tryd.ntmps19
    go_wp2_with (go_at_call 42; refine HL.out.mono ?_; rintro e w9 ⟨rfl, rfl⟩)
    go_ret2
    exact ⟨rfl, Below.refl _ _⟩
  have HL := hide (long_is (a := p) (b := s) (c := []) (r := false) (decide_eq_false (by simp; omega)) w)
  have hpl : p.length ≤ 255 := by omega
  have hsl : s.length ≤ 255 := by omega
  rw [show srS p s f = plS (anyL p) s f from if_neg (by omega)]
  have hw1 : IntKind.i64.wrap ((s.length : Int) + 1) = (s.length : Int) + 1 := by rw [IntKind.wrap_i64]; omega
  clear kp
  by_cases k1 : f < 1
  · rw [show plS (anyL p) s f = none from if_pos (.inr k1)]
    generalize (⟨p.toArray⟩ : ByteArray) = P at *
    generalize (⟨s.toArray⟩ : ByteArray) = S at *
    go_enter Tryd.func19, Tryd.ntmps19
    go_wp2_with (go_at_call 42; refine HL.out.mono ?_; rintro e w9 ⟨rfl, rfl⟩)
    go_ret2
    exact ⟨rfl, Below.refl _ _⟩
  have k1' : (f < 1) = False := eq_false k1
  rw [show plS (anyL p) s f = upS (seekL (anyL p) s (f - 1).toNat) from if_neg (by omega)]
  by_cases k2 : (s.length : Int) + 1 < f
  · rw [seek_end (by omega), show upS none = none from rfl]
    generalize (⟨p.toArray⟩ : ByteArray) = P at *
    generalize (⟨s.toArray⟩ : ByteArray) = S at *
    go_enter Tryd.func19, Tryd.ntmps19
    go_wp2_with (go_at_call 42; refine HL.out.mono ?_; rintro e w9 ⟨rfl, rfl⟩)
    go_ret2
    exact ⟨rfl, Below.refl _ _⟩
  have k2' : ((s.length : Int) + 1 < f) = False := eq_false k2
  obtain ⟨k0, hk0⟩ : ∃ k : Nat, f - 1 = k := ⟨(f - 1).toNat, by omega⟩
  rw [hk0, Int.toNat_natCast]
  have hw2 : IntKind.i64.wrap (k0 : Int) = (k0 : Int) := by rw [IntKind.wrap_i64]; omega
  have hk1 : k0 ≤ s.length + 1 := by omega
  obtain ⟨Z, hZ⟩ : ∃ Z, seekL (anyL p) s k0 = Z := ⟨_, rfl⟩
  rw [hZ]
  have HZ := hide hZ
  have HT : Hid (∀ (i k : Nat) (W : World), i ≤ k → Calls Tryd.prog 56 #[.string ⟨p.toArray⟩, .string ⟨((s.drop i).take (k - i)).toArray⟩] W fun e w' => e = .returned (.bool (likeR p ((s.drop i).take (k - i)))) ∧ Below W.heap.size W w') := fun i k W hi => by
    have := rLike_any ⟨p.toArray⟩ ⟨((s.drop i).take (k - i)).toArray⟩ W (by rw [mk_size]; omega) (by rw [mk_size, List.length_take, List.length_drop]; omega)
    rwa [mk_list, mk_list] at this
  have HM : Hid (∀ i k : Nat, i ≤ k → (⟨s.toArray⟩ : ByteArray).extract i k = ⟨((s.drop i).take (k - i)).toArray⟩) := fun i k h => mk_mid s i k h
  clear hZ
  generalize (⟨p.toArray⟩ : ByteArray) = P at *
  generalize (⟨s.toArray⟩ : ByteArray) = S at *
  go_enter Tryd.func19, Tryd.ntmps19
  go_wp2_with (go_at_call 42; refine HL.out.mono ?_; rintro e w9 ⟨rfl, rfl⟩)
  go_loopw [8] (fun iv wr => ∃ k : Nat, k ≤ s.length + 1 ∧ iv = .int .i64 k ∧ Hid (seekL (anyL p) s k = Z) ∧ Below w9.heap.size w9 wr) (fun iv _ => s.length + 1 - (intOf iv).toNat)
  case atStart => exact ⟨k0, hk1, rfl, HZ, Below.refl _ _⟩
  case round =>
    obtain ⟨i, hi, rfl, HQ, hB⟩ := hrel
    have HB := hide hB
    clear hB
    by_cases hlt : i ≤ s.length
    · have g1 : (i : Int) ≤ (s.length : Int) := by omega
      have hwi : IntKind.i64.wrap ((i : Int) + 1) = (i : Int) + 1 := by rw [IntKind.wrap_i64]; omega
      obtain ⟨wo, hwo⟩ : ∃ wo : World, wo = wr := ⟨_, rfl⟩
      subst hwo
      go_wp2
      go_loopw [9] (fun kv wr => ∃ k : Nat, i ≤ k ∧ k ≤ s.length + 1 ∧ kv = .int .i64 k ∧ Hid (∀ j, i ≤ j → j < k → likeR p ((s.drop i).take (j - i)) = false) ∧ Below wo.heap.size wo wr) (fun kv _ => s.length + 1 - (intOf kv).toNat)
      case atStart => exact ⟨i, Nat.le_refl _, by omega, rfl, hide (fun j h1 h2 => by omega), Below.refl _ _⟩
      case round =>
        obtain ⟨k, hik, hk, rfl, HN, hB2⟩ := hrel
        have HB2 := hide hB2
        clear hB2
        by_cases hkl : k ≤ s.length
        · have g2 : (k : Int) ≤ (s.length : Int) := by omega
          have g3 : (i : Int) ≤ (k : Int) := by omega
          have hx := HM.out i k hik
          have HP := hide (HT.out i k wr hik)
          have hwk : IntKind.i64.wrap ((k : Int) + 1) = (k : Int) + 1 := by rw [IntKind.wrap_i64]; omega
          cases hb : likeR p ((s.drop i).take (k - i)) with
          | true =>
            rw [hb] at HP
            have HF : Hid (Z = some i) := HQ.out.symm.trans (seek_yes hlt (any_iff.2 ⟨k - i, by rw [List.length_drop]; omega, hb⟩))
            clear hb HQ HN
            generalize (⟨((s.drop i).take (k - i)).toArray⟩ : ByteArray) = X at *
            go_wp2_with (go_at_call 56; refine HP.out.mono ?_; rintro e w2 ⟨rfl, hb2⟩)
            go_ret2
            rw [HF.out]
            exact ⟨rfl, (HB.out.trans (HB2.out.mono HB.out.size)).trans (hb2.mono (Nat.le_trans HB.out.size HB2.out.size))⟩
          | false =>
            rw [hb] at HP
            have HN2 : Hid (∀ j, i ≤ j → j < k + 1 → likeR p ((s.drop i).take (j - i)) = false) := hide (fun j h1 h2 => by
              by_cases e : j = k
              · rw [e]; exact hb
              · exact HN.out j h1 (by omega))
            clear hb HQ HN
            generalize (⟨((s.drop i).take (k - i)).toArray⟩ : ByteArray) = X at *
            go_wp2_with (go_at_call 56; refine HP.out.mono ?_; rintro e w2 ⟨rfl, hb2⟩)
            go_roundw
            case rel => exact ⟨k + 1, by omega, by omega, by go_num, HN2, HB2.out.trans (hb2.mono HB2.out.size)⟩
            case measure => simp [intOf]; omega
        · have g2 : ¬ (k : Int) ≤ (s.length : Int) := by omega
          have HF : Hid (seekL (anyL p) s (i + 1) = Z) := (seek_no hlt (any_no (fun n hn => by
            rw [List.length_drop] at hn
            have := HN.out (i + n) (by omega) (by omega)
            rwa [show i + n - i = n by omega] at this))).symm.trans HQ.out
          clear HQ HN
          go_wp2
          go_roundw
          case rel => exact ⟨i + 1, by omega, by go_num, HF, HB.out.trans (HB2.out.mono HB.out.size)⟩
          case measure => simp [intOf]; omega
    · have HF : Hid (Z = none) := HQ.out.symm.trans (seek_end (by omega))
      have g1 : ¬ (i : Int) ≤ (s.length : Int) := by omega
      clear HQ
      go_wp2
      go_ret2
      rw [HF.out]
      exact ⟨rfl, HB.out⟩
end Go.Proofs.YthooimaadgabiaaDoor
