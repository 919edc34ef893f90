/-
  The contracts of the answer's Parts, Kind, Scale, Less and Next of layer 2.
-/
import Derived.Test.YtnjnbhfpgoondabRealNext
import Derived.Deep.QuietTactic
import Derived.BigQuiet
namespace Go.Proofs.Ytnjnbhfpgoondab
open Go.RowKit

theorem top_bit (b : Nat) (h : b < 18446744073709551616) : ((b : Int) / 9223372036854775808 == 1) = fNeg b := by
  unfold fNeg
  rw [Bool.eq_iff_iff]; simp; omega
theorem top_bit0 (b : Nat) (h : b < 18446744073709551616) : ((b : Int) / 9223372036854775808 == 0) = !fNeg b := by
  unfold fNeg
  rw [Bool.eq_iff_iff]; simp; omega
theorem and_exp_u (b : Nat) (h : b < 18446744073709551616) : bits BinOp.and IntKind.u64 ((b : Int) / 4503599627370496) 2047 = fExp b := by
  unfold fExp
  have e : (b : Int) / 4503599627370496 = ((b / 4503599627370496 : Nat) : Int) := by omega
  rw [e]
  have k := and_mask (b / 4503599627370496) 11 (by decide) (by omega)
  have e3 : ((2 ^ 11 - 1 : Nat) : Int) = 2047 := rfl
  rw [e3] at k
  rw [k]; omega
theorem and_rest (b : Nat) (h : b < 18446744073709551616) : bits BinOp.and IntKind.u64 (b : Int) 9223372036854775807 = (b : Int) % 9223372036854775808 := by
  have := and_mask b 63 (by decide) h
  simpa using this
theorem lessR_b0 {a b : Nat} (ha : a < 18446744073709551616) (h : kindR b = 0) : lessR a b = false := by
  have := rankR_bd a ha
  unfold lessR
  rw [show rankR (b : Int) = 0 from by unfold rankR; rw [if_pos h]]
  exact decide_eq_false (by omega)
theorem rankR_num {b : Nat} (h : b < 18446744073709551616) (k : kindR b ≠ 0) : rankR b = (if (b : Int) < 9223372036854775808 then (b : Int) + 9223372036854775808 else 18446744073709551615 - b) ∧ 0 < rankR b := by
  have nb := num_bits (b := b) (by omega) (by omega) k
  unfold rankR fNeg
  rw [if_neg k]
  by_cases c : (b : Int) < 9223372036854775808
  · rw [if_pos c, decide_eq_false (by omega), if_neg (by decide)]; omega
  · rw [if_neg c, decide_eq_true (by omega), if_pos rfl]; omega
theorem lessR_a0 {a b : Nat} (hb : b < 18446744073709551616) (h : kindR a = 0) (k : kindR b ≠ 0) : lessR a b = true := by
  have := (rankR_num hb k).2
  unfold lessR
  rw [show rankR (a : Int) = 0 from by unfold rankR; rw [if_pos h]]
  exact decide_eq_true this
theorem lessR_num {a b : Nat} (ha : a < 18446744073709551616) (hb : b < 18446744073709551616) (ka : kindR a ≠ 0) (kb : kindR b ≠ 0) :
    lessR a b = if fNeg a then (!fNeg b || decide ((b : Int) % 9223372036854775808 < (a : Int) % 9223372036854775808)) else (!fNeg b && decide ((a : Int) % 9223372036854775808 < (b : Int) % 9223372036854775808)) := by
  unfold lessR
  rw [(rankR_num ha ka).1, (rankR_num hb kb).1]
  unfold fNeg
  by_cases ca : (a : Int) < 9223372036854775808 <;> by_cases cb : (b : Int) < 9223372036854775808
  · rw [if_pos ca, if_pos cb, decide_eq_false (show ¬ 9223372036854775808 ≤ (a : Int) by omega), decide_eq_false (show ¬ 9223372036854775808 ≤ (b : Int) by omega)]
    simp; omega
  · rw [if_pos ca, if_neg cb, decide_eq_false (show ¬ 9223372036854775808 ≤ (a : Int) by omega), decide_eq_true (show 9223372036854775808 ≤ (b : Int) by omega)]
    simp; omega
  · rw [if_neg ca, if_pos cb, decide_eq_true (show 9223372036854775808 ≤ (a : Int) by omega), decide_eq_false (show ¬ 9223372036854775808 ≤ (b : Int) by omega)]
    simp; omega
  · rw [if_neg ca, if_neg cb, decide_eq_true (show 9223372036854775808 ≤ (a : Int) by omega), decide_eq_true (show 9223372036854775808 ≤ (b : Int) by omega)]
    simp; omega
end Go.Proofs.Ytnjnbhfpgoondab
