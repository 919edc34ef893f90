/-
  The walk of RealBack: for every number it returns true.
-/
import Derived.Test.YtnjnbhfpgoondaaRealLaws
import Derived.Test.YtnjnbhfpgoondaaRealLives
namespace Go.Proofs.Ytnjnbhfpgoondaa
open Go.RowKit

/-- What a number's float stands for, without its sign. -/
theorem to_val {s : Int} (h0 : 1 ≤ s) (h1 : s ≤ 1000000000000000000) : ∃ j : Nat, 13 ≤ j ∧ j ≤ 72 ∧ 4503599627370496000000 ≤ s * 2 ^ j ∧ valR (toB s) = halfEven (s * 2 ^ j) 1000000 * 2 ^ (1074 - j) := by
  obtain ⟨j, a, b, j2, j3, e⟩ := toB_is h0 h1
  refine ⟨j, a, b, j2, ?_⟩
  have g := half_ge (N := s * 2 ^ j) (d := 1000000)
  have l := half_le (N := s * 2 ^ j) (d := 1000000)
  have q0 : 4503599627370496 ≤ halfEven (s * 2 ^ j) 1000000 := by omega
  have q1 : halfEven (s * 2 ^ j) 1000000 ≤ 9007199254740992 := by omega
  clear g l j2 j3
  generalize halfEven (s * 2 ^ j) 1000000 = R at *
  unfold valR
  rcases Int.lt_or_le R 9007199254740992 with c | c
  · have e1 : toB s / 4503599627370496 = 1075 - j := by omega
    have e2 : toB s % 4503599627370496 = R - 4503599627370496 := by omega
    rw [e1, e2, if_neg (by omega), show ((1075 : Int) - j - 1).toNat = 1074 - j by omega, show 4503599627370496 + (R - 4503599627370496) = R by omega]
  · have eR : R = 9007199254740992 := by omega
    have e1 : toB s / 4503599627370496 = 1076 - j := by omega
    have e2 : toB s % 4503599627370496 = 0 := by omega
    rw [e1, e2, if_neg (by omega), show ((1076 : Int) - j - 1).toNat = 1074 - j + 1 by omega, eR, Int.pow_succ]
    generalize (2 : Int) ^ (1074 - j) = P
    omega
theorem to_kind {s : Int} (h0 : 1 ≤ s) (h1 : s ≤ 1000000000000000000) : kindR (toB s) = 4 ∧ kindR (9223372036854775808 + toB s) = 4 := by
  obtain ⟨b0, b1⟩ := toB_bd h0 h1
  unfold kindR fExp
  constructor
  · rw [if_neg (by omega), if_neg (by omega)]
  · rw [if_neg (by omega), if_neg (by omega)]
theorem to_mills {s : Int} (h0 : 1 ≤ s) (h1 : s ≤ 8000000000000000) {b : Int} (hb : rung b = toB s) : millsR b = s := by
  obtain ⟨j, a, c, j2, hv⟩ := to_val h0 (by omega)
  have j20 : 20 ≤ j := by
    rcases Nat.lt_or_ge j 20 with k | k
    · exfalso
      have m := pow_mono (s := s) (by omega) j (19 - j)
      rw [show j + (19 - j) = 19 by omega] at m
      have : s * 2 ^ 19 = s * 524288 := rfl
      omega
    · exact k
  have p : (2 : Int) ^ 20 ≤ 2 ^ j := by
    have m := pow_mono (s := 1) (by decide) 20 (j - 20)
    rw [show 20 + (j - 20) = j by omega, Int.one_mul, Int.one_mul] at m
    exact m
  have p20 : (2 : Int) ^ 20 = 1048576 := rfl
  obtain ⟨o1, o2⟩ := half_off (N := s * 2 ^ j) (d := 1000000) (by decide)
  unfold millsR
  rw [hb, hv, Int.mul_right_comm, pow_split (a := j) (b := 1074) (by omega), half_scale (two_pow_pos _)]
  exact half_near (by omega) (by omega)
theorem of_zero : ofR 0 = (0, 0) := by
  obtain ⟨z1, z2⟩ := kind_nought (b := 0) (by decide)
  unfold ofR
  rw [if_neg (by decide), if_neg (by omega), z1, Int.zero_mul, half_zero (two_pow_pos _), if_neg (by decide)]
  rfl
theorem to_back {n : Int} (h : fitsB n = true) (h0 : -8000000000000000 ≤ n) (h1 : n ≤ 8000000000000000) : ofR (toR n).1 = (n, 0) := by
  unfold toR
  rw [if_pos h]
  by_cases c : n = 0
  · subst c; rw [if_pos rfl]; exact of_zero
  · rw [if_neg c]
    by_cases c1 : n < 0
    · rw [if_pos c1]
      obtain ⟨b0, b1⟩ := toB_bd (s := -n) (by omega) (by omega)
      have k := (to_kind (s := -n) (by omega) (by omega)).2
      have m := to_mills (s := -n) (by omega) (by omega) (b := 9223372036854775808 + toB (-n)) (by unfold rung; omega)
      show ofR (9223372036854775808 + toB (-n)) = _
      rw [of_mills, k, m, if_neg (by decide), if_neg (by omega), show fNeg (9223372036854775808 + toB (-n)) = true from by unfold fNeg; exact decide_eq_true (by omega)]
      unfold put
      rw [if_pos rfl, Int.neg_neg]
    · rw [if_neg c1]
      obtain ⟨b0, b1⟩ := toB_bd (s := n) (by omega) (by omega)
      have k := (to_kind (s := n) (by omega) (by omega)).1
      have m := to_mills (s := n) (by omega) (by omega) (b := toB n) (by unfold rung; omega)
      show ofR (toB n) = _
      rw [of_mills, k, m, if_neg (by decide), if_neg (by omega), show fNeg (toB n) = false from by unfold fNeg; exact decide_eq_false (by omega)]
      rfl
theorem to_finite {n : Int} (h : fitsB n = true) : (ofR (toR n).1).2 = 0 ∨ (ofR (toR n).1).2 = 3 := by
  have k : 2 ≤ kindR (toR n).1 := by
    obtain ⟨f0, f1⟩ := fitsB_true h
    unfold toR
    rw [if_pos h]
    by_cases c : n = 0
    · subst c; decide
    · rw [if_neg c]
      by_cases c1 : n < 0
      · rw [if_pos c1]
        have := (to_kind (s := -n) (by omega) (by omega)).2
        show 2 ≤ kindR (9223372036854775808 + toB (-n))
        omega
      · rw [if_neg c1]
        have := (to_kind (s := n) (by omega) (by omega)).1
        show 2 ≤ kindR (toB n)
        omega
  rw [of_mills, if_neg (by omega)]
  split
  · exact Or.inr rfl
  · exact Or.inl rfl
theorem toR_bd (n : Int) : 0 ≤ (toR n).1 ∧ (toR n).1 < 18446744073709551616 := by
  unfold toR
  split
  · rename_i h
    obtain ⟨f0, f1⟩ := fitsB_true h
    split
    · decide
    · split
      · have := toB_bd (s := -n) (by omega) (by omega)
        show 0 ≤ 9223372036854775808 + toB (-n) ∧ 9223372036854775808 + toB (-n) < 18446744073709551616
        omega
      · have := toB_bd (s := n) (by omega) (by omega)
        show 0 ≤ toB n ∧ toB n < 18446744073709551616
        omega
  · decide
theorem toR_err (n : Int) : (toR n).2 = if fitsB n then 0 else 2 := by
  unfold toR
  split
  · split
    · rfl
    · split <;> rfl
  · rfl
theorem toR_none {n : Int} (h : fitsB n = false) : toR n = (0, 2) := by unfold toR; rw [h]; rfl
/-- Of at the float of any number. -/
theorem of_to (n : Int) (w : World) :
    Calls Try.prog 13 #[.float .f64 (toR n).1.toNat] w fun e w' => e = .returned (.tuple #[.int .i64 (ofR (toR n).1).1, .int .i64 (ofR (toR n).1).2]) ∧ Below w.heap.size w w' := by
  have b := toR_bd n
  have k := ofF_any (toR n).1.toNat w (by omega)
  rwa [Int.toNat_of_nonneg b.1] at k
theorem bits_to (n : Int) (w : World) :
    Calls Try.prog 17 #[.float .f64 (toR n).1.toNat] w fun e w' => e = .returned (.int .u64 (toR n).1) ∧ w' = w := by
  have k := bits_any (toR n).1.toNat w
  rwa [Int.toNat_of_nonneg (toR_bd n).1] at k
set_option maxHeartbeats 1000000 in
theorem realBack_walk (a0 : Int) (_w0 : (Lit.int .i64 a0).wf = true) (w : World) :
    Calls Try.prog 7 #[.int .i64 a0] w fun e w' => e = .returned (.bool true) ∧ Below w.heap.size w w' := by
  have HT : Hid (∀ W : World, Calls Try.prog 15 #[.int .i64 a0] W fun e w' => e = .returned (.tuple #[.float .f64 (toR a0).1.toNat, .int .i64 (toR a0).2]) ∧ Below W.heap.size W w') := fun W => toF_any a0 W
  have HO : Hid (∀ W : World, Calls Try.prog 13 #[.float .f64 (toR a0).1.toNat] W fun e w' => e = .returned (.tuple #[.int .i64 (ofR (toR a0).1).1, .int .i64 (ofR (toR a0).1).2]) ∧ Below W.heap.size W w') := fun W => of_to a0 W
  cases hf : fitsB a0
  · rw [toR_none hf] at HT
    clear HO hf
    go_enter Try.func7, Try.ntmps7
    go_wp2_with fail
    refine (HT.out _).mono ?_
    rintro e w1 ⟨rfl, hb1⟩
    go_wp2_with fail
    refine (bits_any 0 _).mono ?_
    rintro e wz ⟨rfl, hz⟩; subst wz
    go_wp2_with fail
    refine (lives2_any _).mono ?_
    rintro e w2 ⟨rfl, hb2⟩
    go_wp2
    go_ret
    exact ⟨rfl, hb1.trans (hb2.mono hb1.size)⟩
  · have ee : (toR a0).2 = 0 := by rw [toR_err, hf]; rfl
    rw [ee] at HT
    by_cases c : -8000000000000000 ≤ a0 ∧ a0 ≤ 8000000000000000
    · obtain ⟨c1, c2⟩ := c
      have hk := to_back hf c1 c2
      rw [hk] at HO
      clear hk ee
      generalize (toR a0).1.toNat = x at *
      go_enter Try.func7, Try.ntmps7
      go_wp2_with fail
      refine (HT.out _).mono ?_
      rintro e w1 ⟨rfl, hb1⟩
      go_wp2_with fail
      refine (HO.out _).mono ?_
      rintro e w2 ⟨rfl, hb2⟩
      have b2 := hb1.trans (hb2.mono hb1.size)
      clear hb1 hb2
      go_wp2_with fail
      refine (lives2_any _).mono ?_
      rintro e w3 ⟨rfl, hb3⟩
      go_wp2
      go_ret
      exact ⟨rfl, b2.trans (hb3.mono b2.size)⟩
    · have hk := to_finite hf
      generalize (ofR (toR a0).1).1 = y at *
      generalize (ofR (toR a0).1).2 = g at *
      generalize (toR a0).1.toNat = x at *
      clear ee
      have c3 : a0 < -8000000000000000 ∨ 8000000000000000 < a0 := by omega
      clear c
      rcases hk with rfl | rfl <;> rcases c3 with c | c
      all_goals
        go_enter Try.func7, Try.ntmps7
        go_wp2_with fail
        refine (HT.out _).mono ?_
        rintro e w1 ⟨rfl, hb1⟩
        go_wp2_with fail
        refine (HO.out _).mono ?_
        rintro e w2 ⟨rfl, hb2⟩
        have b2 := hb1.trans (hb2.mono hb1.size)
        clear hb1 hb2
        go_wp2_with fail
        refine (lives2_any _).mono ?_
        rintro e w3 ⟨rfl, hb3⟩
        go_wp2
        go_ret
        exact ⟨rfl, b2.trans (hb3.mono b2.size)⟩
end Go.Proofs.Ytnjnbhfpgoondaa
