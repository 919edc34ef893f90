/-
  The walk of MathsNear: a multiple. (By neargen.py.)
-/
import Derived.Test.YtfopebfejmlhbaaMa13
import Derived.Test.YtfopebfejmlhbaaMaS
import Derived.Test.YtfopebfejmlhbaaMaN
namespace Go.Proofs.Ytfopebfejmlhbaa
open Go.RowKit

set_option maxRecDepth 100000 in
set_option maxHeartbeats 20000000 in
theorem near_self (n p s : Int) (w : World) (p1 : -9223372036854775808 ≤ p) (p2 : p ≤ 9223372036854775807) (hf : fitsB n = true) (q1 : -12 ≤ p) (q2 : p ≤ 6) (hd : inR n (unitR p) = n) :
    Calls Try.prog 7 #[.int .i64 n, .int .i64 p, .int .i64 s] w fun e w' => e = .returned (.bool true) ∧ Below w.heap.size w w' := by
  have HL := hide (fun W : World => lives_any W)
  have HB0 := hide (Below.refl w.heap.size w)
  have HZ := hide (fun (x : Int) (W : World) (h1 : -9223372036854775807 ≤ x) (h2 : x ≤ 9223372036854775807) => lsize_any x W h1 h2)
  have HA := hide (fun W : World => Up_any n p W p1 p2)
  have HD := hide (fun W : World => Down_any n p W p1 p2)
  have HF := hide (fun W : World => Floor_any n s W)
  have HC := hide (fun W : World => Ceiling_any n s W)
  have hT := tail_any n s
  generalize shown2 n s (stepsR dwnR n s) = F at *
  generalize shown2 n s (stepsR upwR n s) = C at *
  obtain ⟨F1, F2⟩ := F
  obtain ⟨C1, C2⟩ := C
  obtain ⟨n1, n2⟩ := fitsB_true hf
  have hu := unitR_bd q1 q2
  have hb := inR_bd (s := unitR p) n1 n2
  have HND := hide (near_in (T := unitR p) (by omega) n1 n2)
  have HNU := hide (near_out (T := unitR p) (by omega) hu.2 n1 n2)
  rw [down_in hf q1 q2] at HA HD
  rw [shown_fit (x := (inR n (unitR p), 0)) rfl (fitsB_of hb.1 hb.2)] at HD
  obtain ⟨z, hz⟩ : ∃ z : Nat, z = (6 - p).toNat := ⟨_, rfl⟩
  have hzp : p = 6 - (z : Int) := by omega
  have hz18 : z ≤ 18 := by omega
  have hup : unitR p = p10 z := by unfold unitR; rw [← hz]; rfl
  rw [hup] at HA HD HND HNU hd
  clear q1 q2 p1 p2 hu hb hup hz
  subst hzp
  rw [in_self hd, shown_fit (x := (n, 0)) rfl hf] at HA
  rw [hd] at HD HND
  clear HNU hf hd
  rcases hT with ⟨h1, h2⟩ | ⟨h0, h1, h2⟩ | ⟨f, h0, h1, h2, h, h3, h4⟩ | ⟨c, h0, h1, h2, h, h3, h4⟩ | ⟨f, c, h0, h1, h2, h, h', h3, h4, h5, h6⟩
  · go_enter Try.func7, Try.ntmps7
    go_wp2_with (first
      | (go_at_call 9; refine (HA.out _).mono ?_; rintro e v1 ⟨rfl, hb⟩; have HB1 := hide (up HB0.out hb); clear hb)
      | (go_at_call 11; refine (HD.out _).mono ?_; rintro e v2 ⟨rfl, hb⟩; have HB2 := hide (up HB1.out hb); clear hb))
    go_loop [11, 12] (fun s i => ∃ k : Nat, k ≤ z ∧ i = .int .i64 (6 - (z : Int) + k) ∧ s = .int .i64 (p10 k)) (fun _ i => (6 - intOf i).toNat)
    case atStart => exact ⟨0, Nat.zero_le _, by rw [Int.natCast_zero, Int.add_zero], by rw [p10_zero]⟩
    case round =>
      obtain ⟨k, hk, rfl, rfl⟩ := hrel
      have e1 := pow_le (k := k) (by omega)
      by_cases hlt : k < z
      · have hc : 6 - (z : Int) + k < 6 := by omega
        have HT : Hid (10 * p10 k = p10 (k + 1)) := by show _ = _; rw [p10_succ, Int.mul_comm]
        have e2 := pow_le (k := k + 1) (by omega)
        have e3 : 10 * p10 k ≤ 1000000000000000000 := by rw [HT.out]; exact e2.2
        have e4 : 0 < p10 k := e1.1
        have e5 : IntKind.i64.wrap (10 * p10 k) = 10 * p10 k := wrapI (by omega) (by omega)
        have e6 : IntKind.i64.wrap (6 - (z : Int) + k + 1) = 6 - (z : Int) + k + 1 := wrapI (by omega) (by omega)
        have HX : Hid (6 - (z : Int) + k + 1 = 6 - (z : Int) + ((k + 1 : Nat) : Int)) := by show _ = _; omega
        clear e1 e2
        go_wp2
        go_round
        case rel => exact ⟨k + 1, by omega, congrArg (Value.int .i64) HX.out, congrArg (Value.int .i64) HT.out⟩
        case measure => simp [intOf]; omega
      · have : k = z := by omega
        subst this
        have hc : ¬ 6 - (k : Int) + k < 6 := by omega
        obtain ⟨⟨d1, d2, d3, d4, d5, d5'⟩, d6⟩ := HND.out
        have T0 : 0 < p10 k := e1.1
        have Tz : (p10 k == 0) = false := by rw [beq_eq_false_iff_ne]; omega
        have Tz2 : ¬ p10 k = 0 := by omega
        clear e1 HND
        generalize p10 k = T at *
        have nn : IntKind.i64.wrap (n - n) = 0 := by rw [Int.sub_self]; rfl
        have f1 : (F2 == 0) = false := by rw [beq_eq_false_iff_ne]; exact h1
        have f2 : (F2 != 0) = true := by rw [bne, f1]; rfl
        have c1 : (C2 == 0) = false := by rw [beq_eq_false_iff_ne]; exact h2
        have c2 : (C2 != 0) = true := by rw [bne, c1]; rfl
        go_wp2_with (first
      | (go_at_call 24; refine (HF.out _).mono ?_; rintro e v3 ⟨rfl, hb⟩; have HB3 := hide (up HB2.out hb); clear hb)
      | (go_at_call 22; refine (HC.out _).mono ?_; rintro e v4 ⟨rfl, hb⟩; have HB4 := hide (up HB3.out hb); clear hb)
      | (go_at_call 38; refine (HZ.out _ _ (by omega) (by omega)).mono ?_; rintro e wz ⟨rfl, hz⟩; subst wz)
      | (go_at_call 21; refine (HL.out _).mono ?_; rintro e v5 ⟨rfl, hb⟩; have HB5 := hide (up HB4.out hb); clear hb))
        go_ret
        exact ⟨rfl, HB5.out⟩
  · cases h1
    cases h2
    subst h0
    go_enter Try.func7, Try.ntmps7
    go_wp2_with (first
      | (go_at_call 9; refine (HA.out _).mono ?_; rintro e v1 ⟨rfl, hb⟩; have HB1 := hide (up HB0.out hb); clear hb)
      | (go_at_call 11; refine (HD.out _).mono ?_; rintro e v2 ⟨rfl, hb⟩; have HB2 := hide (up HB1.out hb); clear hb))
    go_loop [11, 12] (fun s i => ∃ k : Nat, k ≤ z ∧ i = .int .i64 (6 - (z : Int) + k) ∧ s = .int .i64 (p10 k)) (fun _ i => (6 - intOf i).toNat)
    case atStart => exact ⟨0, Nat.zero_le _, by rw [Int.natCast_zero, Int.add_zero], by rw [p10_zero]⟩
    case round =>
      obtain ⟨k, hk, rfl, rfl⟩ := hrel
      have e1 := pow_le (k := k) (by omega)
      by_cases hlt : k < z
      · have hc : 6 - (z : Int) + k < 6 := by omega
        have HT : Hid (10 * p10 k = p10 (k + 1)) := by show _ = _; rw [p10_succ, Int.mul_comm]
        have e2 := pow_le (k := k + 1) (by omega)
        have e3 : 10 * p10 k ≤ 1000000000000000000 := by rw [HT.out]; exact e2.2
        have e4 : 0 < p10 k := e1.1
        have e5 : IntKind.i64.wrap (10 * p10 k) = 10 * p10 k := wrapI (by omega) (by omega)
        have e6 : IntKind.i64.wrap (6 - (z : Int) + k + 1) = 6 - (z : Int) + k + 1 := wrapI (by omega) (by omega)
        have HX : Hid (6 - (z : Int) + k + 1 = 6 - (z : Int) + ((k + 1 : Nat) : Int)) := by show _ = _; omega
        clear e1 e2
        go_wp2
        go_round
        case rel => exact ⟨k + 1, by omega, congrArg (Value.int .i64) HX.out, congrArg (Value.int .i64) HT.out⟩
        case measure => simp [intOf]; omega
      · have : k = z := by omega
        subst this
        have hc : ¬ 6 - (k : Int) + k < 6 := by omega
        obtain ⟨⟨d1, d2, d3, d4, d5, d5'⟩, d6⟩ := HND.out
        have T0 : 0 < p10 k := e1.1
        have Tz : (p10 k == 0) = false := by rw [beq_eq_false_iff_ne]; omega
        have Tz2 : ¬ p10 k = 0 := by omega
        clear e1 HND
        generalize p10 k = T at *
        go_wp2_with (first
      | (go_at_call 24; refine (HF.out _).mono ?_; rintro e v3 ⟨rfl, hb⟩; have HB3 := hide (up HB2.out hb); clear hb)
      | (go_at_call 22; refine (HC.out _).mono ?_; rintro e v4 ⟨rfl, hb⟩; have HB4 := hide (up HB3.out hb); clear hb)
      | (go_at_call 38; refine (HZ.out _ _ (by omega) (by omega)).mono ?_; rintro e wz ⟨rfl, hz⟩; subst wz)
      | (go_at_call 21; refine (HL.out _).mono ?_; rintro e v5 ⟨rfl, hb⟩; have HB5 := hide (up HB4.out hb); clear hb))
        go_ret
        exact ⟨rfl, HB5.out⟩
  · cases h1
    go_enter Try.func7, Try.ntmps7
    go_wp2_with (first
      | (go_at_call 9; refine (HA.out _).mono ?_; rintro e v1 ⟨rfl, hb⟩; have HB1 := hide (up HB0.out hb); clear hb)
      | (go_at_call 11; refine (HD.out _).mono ?_; rintro e v2 ⟨rfl, hb⟩; have HB2 := hide (up HB1.out hb); clear hb))
    go_loop [11, 12] (fun s i => ∃ k : Nat, k ≤ z ∧ i = .int .i64 (6 - (z : Int) + k) ∧ s = .int .i64 (p10 k)) (fun _ i => (6 - intOf i).toNat)
    case atStart => exact ⟨0, Nat.zero_le _, by rw [Int.natCast_zero, Int.add_zero], by rw [p10_zero]⟩
    case round =>
      obtain ⟨k, hk, rfl, rfl⟩ := hrel
      have e1 := pow_le (k := k) (by omega)
      by_cases hlt : k < z
      · have hc : 6 - (z : Int) + k < 6 := by omega
        have HT : Hid (10 * p10 k = p10 (k + 1)) := by show _ = _; rw [p10_succ, Int.mul_comm]
        have e2 := pow_le (k := k + 1) (by omega)
        have e3 : 10 * p10 k ≤ 1000000000000000000 := by rw [HT.out]; exact e2.2
        have e4 : 0 < p10 k := e1.1
        have e5 : IntKind.i64.wrap (10 * p10 k) = 10 * p10 k := wrapI (by omega) (by omega)
        have e6 : IntKind.i64.wrap (6 - (z : Int) + k + 1) = 6 - (z : Int) + k + 1 := wrapI (by omega) (by omega)
        have HX : Hid (6 - (z : Int) + k + 1 = 6 - (z : Int) + ((k + 1 : Nat) : Int)) := by show _ = _; omega
        clear e1 e2
        go_wp2
        go_round
        case rel => exact ⟨k + 1, by omega, congrArg (Value.int .i64) HX.out, congrArg (Value.int .i64) HT.out⟩
        case measure => simp [intOf]; omega
      · have : k = z := by omega
        subst this
        have hc : ¬ 6 - (k : Int) + k < 6 := by omega
        obtain ⟨⟨d1, d2, d3, d4, d5, d5'⟩, d6⟩ := HND.out
        have T0 : 0 < p10 k := e1.1
        have Tz : (p10 k == 0) = false := by rw [beq_eq_false_iff_ne]; omega
        have Tz2 : ¬ p10 k = 0 := by omega
        clear e1 HND
        generalize p10 k = T at *
        have nn : IntKind.i64.wrap (n - n) = 0 := by rw [Int.sub_self]; rfl
        have c1 : (C2 == 0) = false := by rw [beq_eq_false_iff_ne]; exact h2
        have c2 : (C2 != 0) = true := by rw [bne, c1]; rfl
        obtain ⟨x1, x2, x3, x4, s0, s1, s2, n1, n2⟩ := h
        have sz : (s == 0) = false := by rw [beq_eq_false_iff_ne]; exact s0
        have wf : IntKind.i64.wrap (n - F1) = n - F1 := wrapI (by omega) (by omega)
        have n0 : (n == 0) = false := by rw [beq_eq_false_iff_ne]; exact h0
        go_wp2_with (first
      | (go_at_call 24; refine (HF.out _).mono ?_; rintro e v3 ⟨rfl, hb⟩; have HB3 := hide (up HB2.out hb); clear hb)
      | (go_at_call 22; refine (HC.out _).mono ?_; rintro e v4 ⟨rfl, hb⟩; have HB4 := hide (up HB3.out hb); clear hb)
      | (go_at_call 38; refine (HZ.out _ _ (by omega) (by omega)).mono ?_; rintro e wz ⟨rfl, hz⟩; subst wz)
      | (go_at_call 21; refine (HL.out _).mono ?_; rintro e v5 ⟨rfl, hb⟩; have HB5 := hide (up HB4.out hb); clear hb))
        go_ret
        exact ⟨rfl, HB5.out⟩
  · cases h2
    go_enter Try.func7, Try.ntmps7
    go_wp2_with (first
      | (go_at_call 9; refine (HA.out _).mono ?_; rintro e v1 ⟨rfl, hb⟩; have HB1 := hide (up HB0.out hb); clear hb)
      | (go_at_call 11; refine (HD.out _).mono ?_; rintro e v2 ⟨rfl, hb⟩; have HB2 := hide (up HB1.out hb); clear hb))
    go_loop [11, 12] (fun s i => ∃ k : Nat, k ≤ z ∧ i = .int .i64 (6 - (z : Int) + k) ∧ s = .int .i64 (p10 k)) (fun _ i => (6 - intOf i).toNat)
    case atStart => exact ⟨0, Nat.zero_le _, by rw [Int.natCast_zero, Int.add_zero], by rw [p10_zero]⟩
    case round =>
      obtain ⟨k, hk, rfl, rfl⟩ := hrel
      have e1 := pow_le (k := k) (by omega)
      by_cases hlt : k < z
      · have hc : 6 - (z : Int) + k < 6 := by omega
        have HT : Hid (10 * p10 k = p10 (k + 1)) := by show _ = _; rw [p10_succ, Int.mul_comm]
        have e2 := pow_le (k := k + 1) (by omega)
        have e3 : 10 * p10 k ≤ 1000000000000000000 := by rw [HT.out]; exact e2.2
        have e4 : 0 < p10 k := e1.1
        have e5 : IntKind.i64.wrap (10 * p10 k) = 10 * p10 k := wrapI (by omega) (by omega)
        have e6 : IntKind.i64.wrap (6 - (z : Int) + k + 1) = 6 - (z : Int) + k + 1 := wrapI (by omega) (by omega)
        have HX : Hid (6 - (z : Int) + k + 1 = 6 - (z : Int) + ((k + 1 : Nat) : Int)) := by show _ = _; omega
        clear e1 e2
        go_wp2
        go_round
        case rel => exact ⟨k + 1, by omega, congrArg (Value.int .i64) HX.out, congrArg (Value.int .i64) HT.out⟩
        case measure => simp [intOf]; omega
      · have : k = z := by omega
        subst this
        have hc : ¬ 6 - (k : Int) + k < 6 := by omega
        obtain ⟨⟨d1, d2, d3, d4, d5, d5'⟩, d6⟩ := HND.out
        have T0 : 0 < p10 k := e1.1
        have Tz : (p10 k == 0) = false := by rw [beq_eq_false_iff_ne]; omega
        have Tz2 : ¬ p10 k = 0 := by omega
        clear e1 HND
        generalize p10 k = T at *
        have nn : IntKind.i64.wrap (n - n) = 0 := by rw [Int.sub_self]; rfl
        have f1 : (F2 == 0) = false := by rw [beq_eq_false_iff_ne]; exact h1
        have f2 : (F2 != 0) = true := by rw [bne, f1]; rfl
        obtain ⟨x1, x2, x3, x4, s0, s1, s2, n1, n2⟩ := h
        have sz : (s == 0) = false := by rw [beq_eq_false_iff_ne]; exact s0
        have wc : IntKind.i64.wrap (C1 - n) = C1 - n := wrapI (by omega) (by omega)
        have n0 : (n == 0) = false := by rw [beq_eq_false_iff_ne]; exact h0
        go_wp2_with (first
      | (go_at_call 24; refine (HF.out _).mono ?_; rintro e v3 ⟨rfl, hb⟩; have HB3 := hide (up HB2.out hb); clear hb)
      | (go_at_call 22; refine (HC.out _).mono ?_; rintro e v4 ⟨rfl, hb⟩; have HB4 := hide (up HB3.out hb); clear hb)
      | (go_at_call 38; refine (HZ.out _ _ (by omega) (by omega)).mono ?_; rintro e wz ⟨rfl, hz⟩; subst wz)
      | (go_at_call 21; refine (HL.out _).mono ?_; rintro e v5 ⟨rfl, hb⟩; have HB5 := hide (up HB4.out hb); clear hb))
        go_ret
        exact ⟨rfl, HB5.out⟩
  · cases h1
    cases h2
    go_enter Try.func7, Try.ntmps7
    go_wp2_with (first
      | (go_at_call 9; refine (HA.out _).mono ?_; rintro e v1 ⟨rfl, hb⟩; have HB1 := hide (up HB0.out hb); clear hb)
      | (go_at_call 11; refine (HD.out _).mono ?_; rintro e v2 ⟨rfl, hb⟩; have HB2 := hide (up HB1.out hb); clear hb))
    go_loop [11, 12] (fun s i => ∃ k : Nat, k ≤ z ∧ i = .int .i64 (6 - (z : Int) + k) ∧ s = .int .i64 (p10 k)) (fun _ i => (6 - intOf i).toNat)
    case atStart => exact ⟨0, Nat.zero_le _, by rw [Int.natCast_zero, Int.add_zero], by rw [p10_zero]⟩
    case round =>
      obtain ⟨k, hk, rfl, rfl⟩ := hrel
      have e1 := pow_le (k := k) (by omega)
      by_cases hlt : k < z
      · have hc : 6 - (z : Int) + k < 6 := by omega
        have HT : Hid (10 * p10 k = p10 (k + 1)) := by show _ = _; rw [p10_succ, Int.mul_comm]
        have e2 := pow_le (k := k + 1) (by omega)
        have e3 : 10 * p10 k ≤ 1000000000000000000 := by rw [HT.out]; exact e2.2
        have e4 : 0 < p10 k := e1.1
        have e5 : IntKind.i64.wrap (10 * p10 k) = 10 * p10 k := wrapI (by omega) (by omega)
        have e6 : IntKind.i64.wrap (6 - (z : Int) + k + 1) = 6 - (z : Int) + k + 1 := wrapI (by omega) (by omega)
        have HX : Hid (6 - (z : Int) + k + 1 = 6 - (z : Int) + ((k + 1 : Nat) : Int)) := by show _ = _; omega
        clear e1 e2
        go_wp2
        go_round
        case rel => exact ⟨k + 1, by omega, congrArg (Value.int .i64) HX.out, congrArg (Value.int .i64) HT.out⟩
        case measure => simp [intOf]; omega
      · have : k = z := by omega
        subst this
        have hc : ¬ 6 - (k : Int) + k < 6 := by omega
        obtain ⟨⟨d1, d2, d3, d4, d5, d5'⟩, d6⟩ := HND.out
        have T0 : 0 < p10 k := e1.1
        have Tz : (p10 k == 0) = false := by rw [beq_eq_false_iff_ne]; omega
        have Tz2 : ¬ p10 k = 0 := by omega
        clear e1 HND
        generalize p10 k = T at *
        have nn : IntKind.i64.wrap (n - n) = 0 := by rw [Int.sub_self]; rfl
        obtain ⟨x1, x2, x3, x4, s0, s1, s2, n1, n2⟩ := h
        obtain ⟨y1, y2, y3, y4, _, _, _, _, _⟩ := h'
        have sz : (s == 0) = false := by rw [beq_eq_false_iff_ne]; exact s0
        have wf : IntKind.i64.wrap (n - F1) = n - F1 := wrapI (by omega) (by omega)
        have wc : IntKind.i64.wrap (C1 - n) = C1 - n := wrapI (by omega) (by omega)
        have n0 : (n == 0) = false := by rw [beq_eq_false_iff_ne]; exact h0
        go_wp2_with (first
      | (go_at_call 24; refine (HF.out _).mono ?_; rintro e v3 ⟨rfl, hb⟩; have HB3 := hide (up HB2.out hb); clear hb)
      | (go_at_call 22; refine (HC.out _).mono ?_; rintro e v4 ⟨rfl, hb⟩; have HB4 := hide (up HB3.out hb); clear hb)
      | (go_at_call 38; refine (HZ.out _ _ (by omega) (by omega)).mono ?_; rintro e wz ⟨rfl, hz⟩; subst wz)
      | (go_at_call 21; refine (HL.out _).mono ?_; rintro e v5 ⟨rfl, hb⟩; have HB5 := hide (up HB4.out hb); clear hb))
        go_ret
        exact ⟨rfl, HB5.out⟩
end Go.Proofs.Ytfopebfejmlhbaa
