/-
  The walk of RealNumbersRise: for every two numbers it returns true.
-/
import Derived.Test.YtnjnbhfpgoondabRealBackWalk
import Derived.Test.YtnjnbhfpgoondabRealNextWalk
namespace Go.Proofs.Ytnjnbhfpgoondab
open Go.RowKit

theorem toB_mono {s t : Int} (h0 : 1 ≤ s) (h : s ≤ t) (h1 : t ≤ 1000000000000000000) : toB s ≤ toB t := by
  obtain ⟨j, _, _, j2, j3, e⟩ := toB_is h0 (by omega)
  obtain ⟨k, _, _, k2, k3, f⟩ := toB_is (s := t) (by omega) h1
  have m : s * 2 ^ j ≤ t * 2 ^ j := Int.mul_le_mul_of_nonneg_right h (Int.le_of_lt (two_pow_pos j))
  have kj := to_j (s := t) (by omega) (j := j) (k := k) (by omega) k3
  have ls := half_le (N := s * 2 ^ j) (d := 1000000)
  have gt := half_ge (N := t * 2 ^ k) (d := 1000000)
  rcases Nat.lt_or_ge k j with c | c
  · have a1 : halfEven (s * 2 ^ j) 1000000 ≤ 9007199254740992 := by omega
    have a2 : 4503599627370496 ≤ halfEven (t * 2 ^ k) 1000000 := by omega
    clear ls gt j2 j3 k2 k3 m
    omega
  · have ejk : k = j := by omega
    subst ejk
    have hm := half_mono (N := s * 2 ^ k) (M := t * 2 ^ k) (d := 1000000) (by decide) m
    omega
theorem to_key {n : Int} (h : fitsB n = true) : keyR (toR n).1 = if n = 0 then 0 else if n < 0 then -toB (-n) else toB n := by
  obtain ⟨f0, f1⟩ := fitsB_true h
  unfold toR
  rw [if_pos h]
  by_cases c : n = 0
  · rw [if_pos c, if_pos c]; decide
  · rw [if_neg c, if_neg c]
    by_cases c1 : n < 0
    · rw [if_pos c1, if_pos c1]
      obtain ⟨b0, b1⟩ := toB_bd (s := -n) (by omega) (by omega)
      show keyR (9223372036854775808 + toB (-n)) = _
      rw [key_neg (by omega) (by omega)]; omega
    · rw [if_neg c1, if_neg c1]
      obtain ⟨b0, b1⟩ := toB_bd (s := n) (by omega) (by omega)
      show keyR (toB n) = _
      rw [key_pos (by omega) (by omega)]
theorem to_key_mono {n m : Int} (hn : fitsB n = true) (hm : fitsB m = true) (h : n ≤ m) : keyR (toR n).1 ≤ keyR (toR m).1 := by
  obtain ⟨n0, n1⟩ := fitsB_true hn
  obtain ⟨m0, m1⟩ := fitsB_true hm
  rw [to_key hn, to_key hm]
  by_cases c : n = 0
  · rw [if_pos c]
    by_cases d : m = 0
    · rw [if_pos d]; exact Int.le_refl _
    · rw [if_neg d, if_neg (by omega)]
      have := toB_bd (s := m) (by omega) (by omega)
      omega
  · rw [if_neg c]
    by_cases c1 : n < 0
    · rw [if_pos c1]
      have bn := toB_bd (s := -n) (by omega) (by omega)
      by_cases d : m = 0
      · rw [if_pos d]; omega
      · rw [if_neg d]
        by_cases d1 : m < 0
        · rw [if_pos d1]
          have := toB_mono (s := -m) (t := -n) (by omega) (by omega) (by omega)
          omega
        · rw [if_neg d1]
          have := toB_bd (s := m) (by omega) (by omega)
          omega
    · rw [if_neg c1, if_neg (by omega), if_neg (by omega)]
      exact toB_mono (by omega) h m1
theorem to_num {n : Int} (h : fitsB n = true) : kindR (toR n).1 ≠ 0 ∧ (toR n).1 ≠ 9223372036854775808 := by
  obtain ⟨f0, f1⟩ := fitsB_true h
  unfold toR
  rw [if_pos h]
  by_cases c : n = 0
  · rw [if_pos c]; decide
  · rw [if_neg c]
    by_cases c1 : n < 0
    · rw [if_pos c1]
      obtain ⟨b0, b1⟩ := toB_bd (s := -n) (by omega) (by omega)
      have k := (to_kind (s := -n) (by omega) (by omega)).2
      show kindR (9223372036854775808 + toB (-n)) ≠ 0 ∧ 9223372036854775808 + toB (-n) ≠ 9223372036854775808
      omega
    · rw [if_neg c1]
      obtain ⟨b0, b1⟩ := toB_bd (s := n) (by omega) (by omega)
      have k := (to_kind (s := n) (by omega) (by omega)).1
      show kindR (toB n) ≠ 0 ∧ toB n ≠ 9223372036854775808
      omega
theorem less_key {x y : Nat} (hx : x < 18446744073709551616) (hy : y < 18446744073709551616) (kx : kindR x ≠ 0) (ky : kindR y ≠ 0) (z : (y : Int) ≠ 9223372036854775808) (h : keyR x ≤ keyR y) : lessR y x = false := by
  have nx := num_bits (b := x) (by omega) (by omega) kx
  have ny := num_bits (b := y) (by omega) (by omega) ky
  unfold lessR
  rw [(rankR_num hx kx).1, (rankR_num hy ky).1]
  refine decide_eq_false ?_
  by_cases cx : (x : Int) < 9223372036854775808 <;> by_cases cy : (y : Int) < 9223372036854775808
  · rw [key_pos (by omega) cx, key_pos (by omega) cy] at h
    rw [if_pos cx, if_pos cy]; omega
  · rw [key_pos (by omega) cx, key_neg (by omega) (by omega)] at h
    rw [if_pos cx, if_neg cy]; omega
  · rw [if_neg cx, if_pos cy]; omega
  · rw [key_neg (by omega) (by omega), key_neg (by omega) (by omega)] at h
    rw [if_neg cx, if_neg cy]; omega
set_option maxHeartbeats 4000000 in
theorem realNumbersRise_walk (a0 : Int) (a1 : Int) (_w0 : (Lit.int .i64 a0).wf = true) (_w1 : (Lit.int .i64 a1).wf = true) (w : World) :
    Calls Try.prog 3 #[.int .i64 a0, .int .i64 a1] w fun e w' => e = .returned (.bool true) ∧ Below w.heap.size w w' := by
  have hB := Below.refl w.heap.size w
  have HT : Hid (∀ W : World, Calls Try.prog 7 #[.int .i64 a0] W fun e w' => e = .returned (.tuple #[.float .f64 (toR a0).1.toNat, .int .i64 (toR a0).2]) ∧ Below W.heap.size W w') := fun W => toF_any a0 W
  have HS : Hid (∀ W : World, Calls Try.prog 7 #[.int .i64 a1] W fun e w' => e = .returned (.tuple #[.float .f64 (toR a1).1.toNat, .int .i64 (toR a1).2]) ∧ Below W.heap.size W w') := fun W => toF_any a1 W
  cases hf : fitsB a0
  · have ee : (toR a0).2 = 2 := by rw [toR_err, hf]; rfl
    rw [ee] at HT
    generalize (toR a0).1.toNat = x at *
    generalize (toR a1).1.toNat = y at *
    generalize (toR a1).2 = f at *
    clear ee hf
    go_enter Try.func3, Try.ntmps3
    go_wp2_with (first | (go_at_call_of 7 [Value.int IntKind.i64 a0]; refine (HT.out _).mono ?_; rintro e wn ⟨rfl, hbn⟩; replace hB := hB.trans (hbn.mono hB.size); clear hbn) | (go_at_call_of 7 [Value.int IntKind.i64 a1]; refine (HS.out _).mono ?_; rintro e wn ⟨rfl, hbn⟩; replace hB := hB.trans (hbn.mono hB.size); clear hbn) | (go_at_call 8; refine (lives2_any _).mono ?_; rintro e wn ⟨rfl, hbn⟩; replace hB := hB.trans (hbn.mono hB.size); clear hbn))
    go_ret
    exact ⟨rfl, hB⟩
  · have ee : (toR a0).2 = 0 := by rw [toR_err, hf]; rfl
    rw [ee] at HT
    cases hg : fitsB a1
    · have eg : (toR a1).2 = 2 := by rw [toR_err, hg]; rfl
      rw [eg] at HS
      generalize (toR a0).1.toNat = x at *
      generalize (toR a1).1.toNat = y at *
      clear ee hf eg hg
      go_enter Try.func3, Try.ntmps3
      go_wp2_with (first | (go_at_call_of 7 [Value.int IntKind.i64 a0]; refine (HT.out _).mono ?_; rintro e wn ⟨rfl, hbn⟩; replace hB := hB.trans (hbn.mono hB.size); clear hbn) | (go_at_call_of 7 [Value.int IntKind.i64 a1]; refine (HS.out _).mono ?_; rintro e wn ⟨rfl, hbn⟩; replace hB := hB.trans (hbn.mono hB.size); clear hbn) | (go_at_call 8; refine (lives2_any _).mono ?_; rintro e wn ⟨rfl, hbn⟩; replace hB := hB.trans (hbn.mono hB.size); clear hbn))
      go_ret
      exact ⟨rfl, hB⟩
    · have eg : (toR a1).2 = 0 := by rw [toR_err, hg]; rfl
      rw [eg] at HS
      by_cases c : a1 < a0
      · generalize (toR a0).1.toNat = x at *
        generalize (toR a1).1.toNat = y at *
        clear ee hf eg hg
        go_enter Try.func3, Try.ntmps3
        go_wp2_with (first | (go_at_call_of 7 [Value.int IntKind.i64 a0]; refine (HT.out _).mono ?_; rintro e wn ⟨rfl, hbn⟩; replace hB := hB.trans (hbn.mono hB.size); clear hbn) | (go_at_call_of 7 [Value.int IntKind.i64 a1]; refine (HS.out _).mono ?_; rintro e wn ⟨rfl, hbn⟩; replace hB := hB.trans (hbn.mono hB.size); clear hbn) | (go_at_call 8; refine (lives2_any _).mono ?_; rintro e wn ⟨rfl, hbn⟩; replace hB := hB.trans (hbn.mono hB.size); clear hbn))
        go_ret
        exact ⟨rfl, hB⟩
      · have bx := toR_bd a0
        have by1 := toR_bd a1
        obtain ⟨kx, zx⟩ := to_num hf
        obtain ⟨ky, zy⟩ := to_num hg
        have km := to_key_mono hf hg (by omega)
        obtain ⟨x, ex⟩ := Int.eq_ofNat_of_zero_le bx.1
        obtain ⟨y, ey⟩ := Int.eq_ofNat_of_zero_le by1.1
        have hx : x < 18446744073709551616 := by omega
        have hy : y < 18446744073709551616 := by omega
        rw [ex, Int.toNat_natCast] at HT
        rw [ey, Int.toNat_natCast] at HS
        rw [ex] at kx zx km
        rw [ey] at ky zy km
        have HL : Hid (∀ W : World, Calls Try.prog 9 #[.float .f64 y, .float .f64 x] W fun e w' => e = .returned (.bool (lessR y x)) ∧ Below W.heap.size W w') := fun W => less_any y x W hy hx
        rw [less_key hx hy kx ky zy km] at HL
        have o1 : (FloatKind.f64.format.order x y == some Ordering.lt || FloatKind.f64.format.order x y == some Ordering.eq) = true := by
          rw [order_key x y hx hy kx ky]
          by_cases g : keyR x < keyR y
          · rw [if_pos g]; rfl
          · rw [if_neg g, if_pos (by omega)]; rfl
        by_cases d : a0 < a1
        · clear ee eg hf hg bx by1 kx zx ky zy km ex ey hx hy
          go_enter Try.func3, Try.ntmps3
          go_wp2_with (first | (go_at_call_of 7 [Value.int IntKind.i64 a0]; refine (HT.out _).mono ?_; rintro e wn ⟨rfl, hbn⟩; replace hB := hB.trans (hbn.mono hB.size); clear hbn) | (go_at_call_of 7 [Value.int IntKind.i64 a1]; refine (HS.out _).mono ?_; rintro e wn ⟨rfl, hbn⟩; replace hB := hB.trans (hbn.mono hB.size); clear hbn) | (go_at_call_of 9 [Value.float FloatKind.f64 y, Value.float FloatKind.f64 x]; refine (HL.out _).mono ?_; rintro e wn ⟨rfl, hbn⟩; replace hB := hB.trans (hbn.mono hB.size); clear hbn) | (go_at_call 8; refine (lives2_any _).mono ?_; rintro e wn ⟨rfl, hbn⟩; replace hB := hB.trans (hbn.mono hB.size); clear hbn))
          go_ret
          exact ⟨rfl, hB⟩
        · have e2 : a0 = a1 := by omega
          have exy : x = y := by
            rw [e2, ey] at ex; omega
          subst exy
          have HX : Hid (∀ W : World, Calls Try.prog 10 #[.float .f64 x] W fun e w' => e = .returned (.int .u64 (x : Int)) ∧ w' = W) := fun W => bits_any x W
          subst e2
          clear ee eg hf hg bx by1 kx zx ky zy km ex ey hx hy
          go_enter Try.func3, Try.ntmps3
          go_wp2_with (first | (go_at_call_of 7 [Value.int IntKind.i64 a0]; refine (HT.out _).mono ?_; rintro e wn ⟨rfl, hbn⟩; replace hB := hB.trans (hbn.mono hB.size); clear hbn) | (go_at_call_of 7 [Value.int IntKind.i64 a1]; refine (HS.out _).mono ?_; rintro e wn ⟨rfl, hbn⟩; replace hB := hB.trans (hbn.mono hB.size); clear hbn) | (go_at_call_of 9 [Value.float FloatKind.f64 x, Value.float FloatKind.f64 x]; refine (HL.out _).mono ?_; rintro e wn ⟨rfl, hbn⟩; replace hB := hB.trans (hbn.mono hB.size); clear hbn) | (go_at_call_of 10 [Value.float FloatKind.f64 x]; refine (HX.out _).mono ?_; rintro e wn ⟨rfl, hz⟩; subst wn) | (go_at_call 8; refine (lives2_any _).mono ?_; rintro e wn ⟨rfl, hbn⟩; replace hB := hB.trans (hbn.mono hB.size); clear hbn))
          go_ret
          exact ⟨rfl, hB⟩
end Go.Proofs.Ytnjnbhfpgoondab
