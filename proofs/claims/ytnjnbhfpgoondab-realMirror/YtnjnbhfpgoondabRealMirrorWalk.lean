/-
  The walk of RealMirror: for every float's bits and every number it returns true.
-/
import Derived.Test.YtnjnbhfpgoondabRealRisesWalk
import Derived.Test.YtnjnbhfpgoondabRealBackWalk
namespace Go.Proofs.Ytnjnbhfpgoondab
open Go.RowKit

/-- The bits with the other sign. -/
def flipN (b : Nat) : Nat := if b < 9223372036854775808 then b + 9223372036854775808 else b - 9223372036854775808
theorem xor_sign (b : Nat) (h : b < 18446744073709551616) : bits BinOp.xor IntKind.u64 (b : Int) 9223372036854775808 = (flipN b : Int) := by
  have k := u64_xor_nat b 9223372036854775808 h (by decide)
  have e3 : ((9223372036854775808 : Nat) : Int) = 9223372036854775808 := rfl
  rw [e3] at k
  rw [k]
  congr 1
  unfold flipN
  have e0 : (9223372036854775808 : Nat) = 2 ^ 63 := rfl
  split
  · rename_i c
    have o : b ||| 9223372036854775808 = b + 9223372036854775808 := by
      rw [Nat.or_comm, nat_join 63 9223372036854775808 b (by decide) (by omega)]; omega
    rw [← o]
    apply Nat.eq_of_testBit_eq
    intro i
    rw [Nat.testBit_xor, Nat.testBit_or, e0, Nat.testBit_two_pow]
    by_cases hi : 63 = i
    · subst hi
      rw [Nat.testBit_lt_two_pow (by omega)]; simp
    · simp [hi]
  · rename_i c
    obtain ⟨d, hd⟩ : ∃ d, b = 9223372036854775808 + d := ⟨b - 9223372036854775808, by omega⟩
    have hd2 : d < 9223372036854775808 := by omega
    have o : 9223372036854775808 ||| d = 9223372036854775808 + d := nat_join 63 9223372036854775808 d (by decide) (by omega)
    rw [hd, show 9223372036854775808 + d - 9223372036854775808 = d by omega, ← o]
    apply Nat.eq_of_testBit_eq
    intro i
    rw [Nat.testBit_xor, Nat.testBit_or, e0, Nat.testBit_two_pow]
    by_cases hi : 63 = i
    · subst hi
      rw [Nat.testBit_lt_two_pow (by omega)]; simp
    · simp [hi]
theorem flip_lt {b : Nat} (h : b < 18446744073709551616) : flipN b < 18446744073709551616 := by unfold flipN; split <;> omega
theorem flip_parts {b : Nat} (h : b < 18446744073709551616) : fExp (flipN b) = fExp b ∧ fPart (flipN b) = fPart b ∧ fNeg (flipN b) = !fNeg b ∧ rung (flipN b) = rung b := by
  unfold flipN fExp fPart fNeg rung
  split
  · rename_i c
    refine ⟨by omega, by omega, ?_, by omega⟩
    rw [decide_eq_true (by omega), decide_eq_false (by omega)]; rfl
  · rename_i c
    refine ⟨by omega, by omega, ?_, by omega⟩
    rw [decide_eq_false (by omega), decide_eq_true (by omega)]; rfl
theorem of_flip {b : Nat} (h : b < 18446744073709551616) : ofR (flipN b) = (-(ofR b).1, (ofR b).2) := by
  obtain ⟨e1, e2, e3, e4⟩ := flip_parts h
  rw [of_mills, of_mills]
  have k : kindR (flipN b) = kindR b := by unfold kindR; rw [e1, e2]
  have m : millsR (flipN b) = millsR b := by unfold millsR; rw [e4]
  rw [k, m, e3]
  split
  · rfl
  · split
    · rfl
    · unfold put
      cases fNeg b
      · rfl
      · simp
theorem ofR_bd (b : Int) : -1000000000000000000 ≤ (ofR b).1 ∧ (ofR b).1 ≤ 1000000000000000000 := by
  rw [of_mills]
  have n := mills_nn b
  split
  · exact ⟨by decide, by decide⟩
  · split
    · exact ⟨by decide, by decide⟩
    · unfold put
      show -1000000000000000000 ≤ (if fNeg b = true then -millsR b else millsR b) ∧ (if fNeg b = true then -millsR b else millsR b) ≤ 1000000000000000000
      split <;> omega
theorem to_flip {n : Int} (h : fitsB n = true) (z : n ≠ 0) : (toR n).1 = bits BinOp.xor IntKind.u64 (toR (-n)).1 9223372036854775808 := by
  obtain ⟨f0, f1⟩ := fitsB_true h
  have f' : fitsB (-n) = true := fitsB_of (by omega) (by omega)
  have bd := toR_bd (-n)
  obtain ⟨x, hx⟩ := Int.eq_ofNat_of_zero_le bd.1
  rw [hx, xor_sign x (by omega)]
  unfold toR at hx ⊢
  rw [if_pos h, if_neg z]
  rw [if_pos f', if_neg (by omega)] at hx
  unfold flipN
  by_cases c : n < 0
  · rw [if_pos c]
    rw [if_neg (by omega)] at hx
    have b := toB_bd (s := -n) (by omega) (by omega)
    have hx2 : toB (-n) = x := hx
    show 9223372036854775808 + toB (-n) = _
    rw [if_pos (by omega)]; omega
  · rw [if_neg c]
    rw [if_pos (by omega), Int.neg_neg] at hx
    have b := toB_bd (s := n) (by omega) (by omega)
    have hx2 : 9223372036854775808 + toB n = x := hx
    show toB n = _
    rw [if_neg (by omega)]; omega
theorem fits_neg (n : Int) : fitsB (-n) = fitsB n := by
  unfold fitsB
  rw [Bool.eq_iff_iff]; simp; omega
set_option maxHeartbeats 4000000 in
theorem realMirror_walk (a0 : Int) (a1 : Int) (w0 : (Lit.int .u64 a0).wf = true) (_w1 : (Lit.int .i64 a1).wf = true) (w : World) :
    Calls Try.prog 6 #[.int .u64 a0, .int .i64 a1] w fun e w' => e = .returned (.bool true) ∧ Below w.heap.size w w' := by
  obtain ⟨b, rfl, hb⟩ := word_nat2 w0
  have hB := Below.refl w.heap.size w
  have ex := xor_sign b hb
  have hc := flip_lt hb
  have HA : Hid (∀ W : World, Calls Try.prog 14 #[.float .f64 b] W fun e w' => e = .returned (.tuple #[.int .i64 (ofR b).1, .int .i64 (ofR b).2]) ∧ Below W.heap.size W w') := fun W => ofF_any b W hb
  have HC : Hid (∀ W : World, Calls Try.prog 14 #[.float .f64 (flipN b)] W fun e w' => e = .returned (.tuple #[.int .i64 (ofR (flipN b)).1, .int .i64 (ofR (flipN b)).2]) ∧ Below W.heap.size W w') := fun W => ofF_any (flipN b) W hc
  rw [of_flip hb] at HC
  obtain ⟨x0, x1⟩ := ofR_bd b
  generalize flipN b = c at *
  generalize (ofR b).1 = x at *
  generalize (ofR b).2 = e1 at *
  clear w0 hb hc
  have nx : wrap64 (-(-x)) = x := by unfold wrap64; omega
  by_cases c0 : a1 = 0
  · subst c0
    go_enter Try.func6, Try.ntmps6
    go_wp2_with (first | (go_at_call_of 11 [Value.int IntKind.u64 (b : Int)]; refine (of_nat2 b _).mono ?_; rintro e wn ⟨rfl, hz⟩; subst wn) | (go_at_call_of 11 [Value.int IntKind.u64 (c : Int)]; refine (of_nat2 c _).mono ?_; rintro e wn ⟨rfl, hz⟩; subst wn) | (go_at_call_of 14 [Value.float FloatKind.f64 b]; refine (HA.out _).mono ?_; rintro e wn ⟨rfl, hbn⟩; replace hB := hB.trans (hbn.mono hB.size); clear hbn) | (go_at_call_of 14 [Value.float FloatKind.f64 c]; refine (HC.out _).mono ?_; rintro e wn ⟨rfl, hbn⟩; replace hB := hB.trans (hbn.mono hB.size); clear hbn) | (go_at_call_of 7 [Value.int IntKind.i64 a1]; refine (HT.out _).mono ?_; rintro e wn ⟨rfl, hbn⟩; replace hB := hB.trans (hbn.mono hB.size); clear hbn) | (go_at_call_of 7 [Value.int IntKind.i64 m1]; refine (HS.out _).mono ?_; rintro e wn ⟨rfl, hbn⟩; replace hB := hB.trans (hbn.mono hB.size); clear hbn) | (go_at_call_of 10 [Value.float FloatKind.f64 p]; refine (HP.out _).mono ?_; rintro e wn ⟨rfl, hz⟩; subst wn) | (go_at_call_of 10 [Value.float FloatKind.f64 q]; refine (HQ.out _).mono ?_; rintro e wn ⟨rfl, hz⟩; subst wn) | (go_at_call 8; refine (lives2_any _).mono ?_; rintro e wn ⟨rfl, hbn⟩; replace hB := hB.trans (hbn.mono hB.size); clear hbn))
    go_ret
    exact ⟨rfl, hB⟩
  · have t0 : (a1 == 0) = false := by simpa using c0
    by_cases r1 : a1 < -4611686018427387904
    · go_enter Try.func6, Try.ntmps6
      go_wp2_with (first | (go_at_call_of 11 [Value.int IntKind.u64 (b : Int)]; refine (of_nat2 b _).mono ?_; rintro e wn ⟨rfl, hz⟩; subst wn) | (go_at_call_of 11 [Value.int IntKind.u64 (c : Int)]; refine (of_nat2 c _).mono ?_; rintro e wn ⟨rfl, hz⟩; subst wn) | (go_at_call_of 14 [Value.float FloatKind.f64 b]; refine (HA.out _).mono ?_; rintro e wn ⟨rfl, hbn⟩; replace hB := hB.trans (hbn.mono hB.size); clear hbn) | (go_at_call_of 14 [Value.float FloatKind.f64 c]; refine (HC.out _).mono ?_; rintro e wn ⟨rfl, hbn⟩; replace hB := hB.trans (hbn.mono hB.size); clear hbn) | (go_at_call_of 7 [Value.int IntKind.i64 a1]; refine (HT.out _).mono ?_; rintro e wn ⟨rfl, hbn⟩; replace hB := hB.trans (hbn.mono hB.size); clear hbn) | (go_at_call_of 7 [Value.int IntKind.i64 m1]; refine (HS.out _).mono ?_; rintro e wn ⟨rfl, hbn⟩; replace hB := hB.trans (hbn.mono hB.size); clear hbn) | (go_at_call_of 10 [Value.float FloatKind.f64 p]; refine (HP.out _).mono ?_; rintro e wn ⟨rfl, hz⟩; subst wn) | (go_at_call_of 10 [Value.float FloatKind.f64 q]; refine (HQ.out _).mono ?_; rintro e wn ⟨rfl, hz⟩; subst wn) | (go_at_call 8; refine (lives2_any _).mono ?_; rintro e wn ⟨rfl, hbn⟩; replace hB := hB.trans (hbn.mono hB.size); clear hbn))
      go_ret
      exact ⟨rfl, hB⟩
    · by_cases r2 : 4611686018427387904 < a1
      · go_enter Try.func6, Try.ntmps6
        go_wp2_with (first | (go_at_call_of 11 [Value.int IntKind.u64 (b : Int)]; refine (of_nat2 b _).mono ?_; rintro e wn ⟨rfl, hz⟩; subst wn) | (go_at_call_of 11 [Value.int IntKind.u64 (c : Int)]; refine (of_nat2 c _).mono ?_; rintro e wn ⟨rfl, hz⟩; subst wn) | (go_at_call_of 14 [Value.float FloatKind.f64 b]; refine (HA.out _).mono ?_; rintro e wn ⟨rfl, hbn⟩; replace hB := hB.trans (hbn.mono hB.size); clear hbn) | (go_at_call_of 14 [Value.float FloatKind.f64 c]; refine (HC.out _).mono ?_; rintro e wn ⟨rfl, hbn⟩; replace hB := hB.trans (hbn.mono hB.size); clear hbn) | (go_at_call_of 7 [Value.int IntKind.i64 a1]; refine (HT.out _).mono ?_; rintro e wn ⟨rfl, hbn⟩; replace hB := hB.trans (hbn.mono hB.size); clear hbn) | (go_at_call_of 7 [Value.int IntKind.i64 m1]; refine (HS.out _).mono ?_; rintro e wn ⟨rfl, hbn⟩; replace hB := hB.trans (hbn.mono hB.size); clear hbn) | (go_at_call_of 10 [Value.float FloatKind.f64 p]; refine (HP.out _).mono ?_; rintro e wn ⟨rfl, hz⟩; subst wn) | (go_at_call_of 10 [Value.float FloatKind.f64 q]; refine (HQ.out _).mono ?_; rintro e wn ⟨rfl, hz⟩; subst wn) | (go_at_call 8; refine (lives2_any _).mono ?_; rintro e wn ⟨rfl, hbn⟩; replace hB := hB.trans (hbn.mono hB.size); clear hbn))
        go_ret
        exact ⟨rfl, hB⟩
      · obtain ⟨m1, hm⟩ : ∃ m1 : Int, m1 = -a1 := ⟨_, rfl⟩
        have em : -a1 = m1 := hm.symm
        have HT : Hid (∀ W : World, Calls Try.prog 7 #[.int .i64 a1] W fun e w' => e = .returned (.tuple #[.float .f64 (toR a1).1.toNat, .int .i64 (toR a1).2]) ∧ Below W.heap.size W w') := fun W => toF_any a1 W
        have HS : Hid (∀ W : World, Calls Try.prog 7 #[.int .i64 m1] W fun e w' => e = .returned (.tuple #[.float .f64 (toR m1).1.toNat, .int .i64 (toR m1).2]) ∧ Below W.heap.size W w') := fun W => toF_any m1 W
        have HP : Hid (∀ W : World, Calls Try.prog 10 #[.float .f64 (toR a1).1.toNat] W fun e w' => e = .returned (.int .u64 (toR a1).1) ∧ w' = W) := fun W => bits_to a1 W
        have HQ : Hid (∀ W : World, Calls Try.prog 10 #[.float .f64 (toR m1).1.toNat] W fun e w' => e = .returned (.int .u64 (toR m1).1) ∧ w' = W) := fun W => bits_to m1 W
        have fe : (toR m1).2 = (toR a1).2 := by rw [toR_err, toR_err, hm, fits_neg]
        rw [fe] at HS
        cases hf : fitsB a1
        · have ee : (toR a1).2 = 2 := by rw [toR_err, hf]; rfl
          rw [ee] at HT HS
          generalize (toR a1).1.toNat = p at *
          generalize (toR m1).1.toNat = q at *
          clear ee fe hm HP HQ hf
          have HP : Hid (∀ W : World, Calls Try.prog 10 #[.float .f64 p] W fun e w' => e = .returned (.int .u64 (p : Int)) ∧ w' = W) := fun W => bits_any p W
          have HQ : Hid (∀ W : World, Calls Try.prog 10 #[.float .f64 q] W fun e w' => e = .returned (.int .u64 (q : Int)) ∧ w' = W) := fun W => bits_any q W
          go_enter Try.func6, Try.ntmps6
          go_wp2_with (first | (go_at_call_of 11 [Value.int IntKind.u64 (b : Int)]; refine (of_nat2 b _).mono ?_; rintro e wn ⟨rfl, hz⟩; subst wn) | (go_at_call_of 11 [Value.int IntKind.u64 (c : Int)]; refine (of_nat2 c _).mono ?_; rintro e wn ⟨rfl, hz⟩; subst wn) | (go_at_call_of 14 [Value.float FloatKind.f64 b]; refine (HA.out _).mono ?_; rintro e wn ⟨rfl, hbn⟩; replace hB := hB.trans (hbn.mono hB.size); clear hbn) | (go_at_call_of 14 [Value.float FloatKind.f64 c]; refine (HC.out _).mono ?_; rintro e wn ⟨rfl, hbn⟩; replace hB := hB.trans (hbn.mono hB.size); clear hbn) | (go_at_call_of 7 [Value.int IntKind.i64 a1]; refine (HT.out _).mono ?_; rintro e wn ⟨rfl, hbn⟩; replace hB := hB.trans (hbn.mono hB.size); clear hbn) | (go_at_call_of 7 [Value.int IntKind.i64 m1]; refine (HS.out _).mono ?_; rintro e wn ⟨rfl, hbn⟩; replace hB := hB.trans (hbn.mono hB.size); clear hbn) | (go_at_call_of 10 [Value.float FloatKind.f64 p]; refine (HP.out _).mono ?_; rintro e wn ⟨rfl, hz⟩; subst wn) | (go_at_call_of 10 [Value.float FloatKind.f64 q]; refine (HQ.out _).mono ?_; rintro e wn ⟨rfl, hz⟩; subst wn) | (go_at_call 8; refine (lives2_any _).mono ?_; rintro e wn ⟨rfl, hbn⟩; replace hB := hB.trans (hbn.mono hB.size); clear hbn))
          go_ret
          exact ⟨rfl, hB⟩
        · have ee : (toR a1).2 = 0 := by rw [toR_err, hf]; rfl
          rw [ee] at HT HS
          have ef := to_flip hf c0
          rw [← hm] at ef
          generalize (toR a1).1.toNat = p at *
          generalize (toR m1).1.toNat = q at *
          generalize (toR a1).1 = y at *
          generalize (toR m1).1 = z at *
          have ef2 := ef.symm
          clear ee fe hm hf ef
          go_enter Try.func6, Try.ntmps6
          go_wp2_with (first | (go_at_call_of 11 [Value.int IntKind.u64 (b : Int)]; refine (of_nat2 b _).mono ?_; rintro e wn ⟨rfl, hz⟩; subst wn) | (go_at_call_of 11 [Value.int IntKind.u64 (c : Int)]; refine (of_nat2 c _).mono ?_; rintro e wn ⟨rfl, hz⟩; subst wn) | (go_at_call_of 14 [Value.float FloatKind.f64 b]; refine (HA.out _).mono ?_; rintro e wn ⟨rfl, hbn⟩; replace hB := hB.trans (hbn.mono hB.size); clear hbn) | (go_at_call_of 14 [Value.float FloatKind.f64 c]; refine (HC.out _).mono ?_; rintro e wn ⟨rfl, hbn⟩; replace hB := hB.trans (hbn.mono hB.size); clear hbn) | (go_at_call_of 7 [Value.int IntKind.i64 a1]; refine (HT.out _).mono ?_; rintro e wn ⟨rfl, hbn⟩; replace hB := hB.trans (hbn.mono hB.size); clear hbn) | (go_at_call_of 7 [Value.int IntKind.i64 m1]; refine (HS.out _).mono ?_; rintro e wn ⟨rfl, hbn⟩; replace hB := hB.trans (hbn.mono hB.size); clear hbn) | (go_at_call_of 10 [Value.float FloatKind.f64 p]; refine (HP.out _).mono ?_; rintro e wn ⟨rfl, hz⟩; subst wn) | (go_at_call_of 10 [Value.float FloatKind.f64 q]; refine (HQ.out _).mono ?_; rintro e wn ⟨rfl, hz⟩; subst wn) | (go_at_call 8; refine (lives2_any _).mono ?_; rintro e wn ⟨rfl, hbn⟩; replace hB := hB.trans (hbn.mono hB.size); clear hbn))
          go_ret
          exact ⟨rfl, hB⟩
end Go.Proofs.Ytnjnbhfpgoondab
