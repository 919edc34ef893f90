/-
  The contracts of math's plain conversions between a float and its bits, of the law's own words for them, and of real.apart: a float taken apart by its bits.
-/
import Derived.Test.YtnjnbhfpgoondaaProg
import Derived.WalkKit
import Derived.WalkSpells
import Derived.WalkLawsBesides
import Derived.Laws.BitsAllLaws
namespace Go.Proofs.Ytnjnbhfpgoondaa
open Go.RowKit

theorem fbits_run (b : Nat) (w : World) : (callFunc 31 #[.float .f64 b]).run Try.prog w = .ok (.value (.int .u64 b)) w := by
  rw [run_callFunc_extern Try.func31 (by kernel_rfl) (by kernel_rfl) (by kernel_rfl) (e := Extern.MathFloatBits.float64bits) (by kernel_rfl)]
  rfl
theorem ffrom_run (n : Int) (w : World) : (callFunc 23 #[.int .u64 n]).run Try.prog w = .ok (.value (.float .f64 n.toNat)) w := by
  rw [run_callFunc_extern Try.func23 (by kernel_rfl) (by kernel_rfl) (by kernel_rfl) (e := Extern.MathFloatBits.float64frombits) (by kernel_rfl)]
  rfl

set_option maxHeartbeats 400000 in
theorem of_any (n : Int) (w : World) :
    Calls Try.prog 10 #[.int .u64 n] w fun e w' => e = .returned (.float .f64 n.toNat) ∧ w' = w := by
  have hff := ffrom_run
  go_enter Try.func10, Try.ntmps10
  go_wp2
  go_ret
  exact ⟨rfl, rfl⟩
set_option maxHeartbeats 400000 in
theorem bits_any (b : Nat) (w : World) :
    Calls Try.prog 17 #[.float .f64 b] w fun e w' => e = .returned (.int .u64 b) ∧ w' = w := by
  have hfb := fbits_run
  go_enter Try.func17, Try.ntmps17
  go_wp2
  go_ret
  exact ⟨rfl, rfl⟩

/-- The parts of a float's bits. -/
def fExp (b : Int) : Int := b / 4503599627370496 % 2048
def fPart (b : Int) : Int := b % 4503599627370496
def fNeg (b : Int) : Bool := decide (9223372036854775808 ≤ b)
/-- Its kind. -/
def kindR (b : Int) : Int := if fExp b = 2047 then (if fPart b = 0 then 1 else 0) else if fExp b = 0 then (if fPart b = 0 then 2 else 3) else 4
/-- What it stands for: a whole number .. -/
def sizeR (b : Int) : Int := if fExp b = 0 then fPart b else 4503599627370496 + fPart b
/-- .. times two to a power. -/
def powR (b : Int) : Int := if fExp b = 0 then -1074 else fExp b - 1075
/-- What apart tells. -/
def apartV (b : Int) : Value := .agg #[.int .i64 (kindR b), .bool (fNeg b), .int .u64 (if kindR b < 3 then 0 else sizeR b), .int .i64 (if kindR b < 3 then 0 else powR b)]

theorem and_mask (n : Nat) (k : Nat) (hk : k ≤ 63) (h : n < 18446744073709551616) : bits BinOp.and IntKind.u64 (n : Int) ((2 ^ k - 1 : Nat) : Int) = ((n % 2 ^ k : Nat) : Int) := by
  have h2 : 2 ^ k - 1 < 18446744073709551616 := by
    have : 2 ^ k ≤ 2 ^ 63 := Nat.pow_le_pow_right (by decide) hk
    omega
  rw [u64_and_nat n (2 ^ k - 1) h h2, Nat.and_two_pow_sub_one_eq_mod]
theorem and_part (b : Nat) (h : b < 18446744073709551616) : bits BinOp.and IntKind.u64 (b : Int) 4503599627370495 = fPart b := by
  have := and_mask b 52 (by decide) h
  unfold fPart
  simpa using this
theorem and_exp (b : Nat) (h : b < 18446744073709551616) : bits BinOp.and IntKind.i64 ((b : Int) / 4503599627370496) 2047 = fExp b := by
  unfold fExp
  have e : (b : Int) / 4503599627370496 = ((b / 4503599627370496 : Nat) : Int) := by omega
  rw [e]
  have h1 : b / 4503599627370496 < 4096 := by omega
  generalize b / 4503599627370496 = n at *
  have a1 : (BitVec.ofInt 64 (n : Int)).toNat = n := ofInt_u64 n (by omega)
  have a2 : (BitVec.ofInt 64 (2047 : Int)).toNat = 2047 := ofInt_u64 2047 (by decide)
  have e2 : n &&& 2047 = n % 2048 := Nat.and_two_pow_sub_one_eq_mod n 11
  show IntKind.i64.wrap (((BitVec.ofInt 64 (n : Int) &&& BitVec.ofInt 64 (2047 : Int)).toNat : Nat) : Int) = _
  rw [BitVec.toNat_and, a1, a2, e2]
  rw [IntKind.wrap_i64]
  omega
theorem and_sign (b : Nat) (h : b < 18446744073709551616) : (bits BinOp.and IntKind.u64 (b : Int) 9223372036854775808 != 0) = fNeg b := by
  have k := u64_and_nat b 9223372036854775808 h (by decide)
  have e3 : ((9223372036854775808 : Nat) : Int) = 9223372036854775808 := rfl
  rw [e3] at k
  have e2 : b &&& 9223372036854775808 = b / 9223372036854775808 % 2 * 9223372036854775808 := nat_bit 63 b
  rw [k, e2]
  unfold fNeg
  have : b / 9223372036854775808 = 0 ∨ b / 9223372036854775808 = 1 := by omega
  rcases this with e | e
  · rw [e, decide_eq_false (by omega)]; rfl
  · rw [e, decide_eq_true (by omega)]; rfl
theorem fPart_bd (b : Int) : 0 ≤ fPart b ∧ fPart b < 4503599627370496 := by unfold fPart; omega
theorem fExp_bd (b : Int) : 0 ≤ fExp b ∧ fExp b < 2048 := by unfold fExp; omega
theorem or_lead (F : Int) (h0 : 0 ≤ F) (h1 : F < 4503599627370496) : bits BinOp.or IntKind.u64 4503599627370496 F = 4503599627370496 + F := by
  obtain ⟨n, rfl⟩ := Int.eq_ofNat_of_zero_le h0
  have k := u64_or_nat 4503599627370496 n (by decide) (by omega)
  have e3 : ((4503599627370496 : Nat) : Int) = 4503599627370496 := rfl
  rw [e3] at k
  rw [k, nat_join 52 4503599627370496 n (by decide) (by omega)]; rfl
theorem or_none (F : Int) (h0 : 0 ≤ F) (h1 : F < 4503599627370496) : bits BinOp.or IntKind.u64 0 F = F := by
  obtain ⟨n, rfl⟩ := Int.eq_ofNat_of_zero_le h0
  have k := u64_or_nat 0 n (by decide) (by omega)
  have e3 : ((0 : Nat) : Int) = 0 := rfl
  rw [e3] at k
  rw [k, Nat.zero_or]
theorem wrap_exp (b : Nat) (h : b < 18446744073709551616) : wrap64 ((b : Int) / 4503599627370496) = (b : Int) / 4503599627370496 := by unfold wrap64; omega

theorem below2 (w : World) (a b : Obj) : Below w.heap.size w ((w.alloc a).alloc b) := ((Below.refl _ _).alloc (Nat.le_refl _) _).alloc (by simp) _
set_option maxHeartbeats 1000000 in
theorem apart_any (b : Nat) (w : World) (h : b < 18446744073709551616) :
    Calls Try.prog 22 #[.float .f64 b] w fun e w' => e = .returned (apartV b) ∧ Below w.heap.size w w' := by
  have hfb := fbits_run
  have e1 := and_part b h
  have e2 := and_exp b h
  have e3 := and_sign b h
  have e4 := wrap_exp b h
  obtain ⟨f0, f1⟩ := fPart_bd b
  obtain ⟨x0, x1⟩ := fExp_bd b
  have e5 := or_lead _ f0 f1
  have e6 := or_none _ f0 f1
  unfold apartV kindR sizeR powR
  generalize fPart b = F at *
  generalize fExp b = E at *
  generalize fNeg b = neg at *
  by_cases c1 : E = 2047
  · subst c1
    by_cases c2 : F = 0
    · subst c2
      go_enter Try.func22, Try.ntmps22
      go_wp2
      exact bodyPost_ret (v := .agg #[.int .i64 1, .bool neg, .int .u64 0, .int .i64 0]) (by simp [results, Try.results22, go_sem]) rfl ⟨rfl, below2 _ _ _⟩
    · have t1 : (F != 0) = true := by simpa using c2
      have t2 : (F == 0) = false := by simpa using c2
      rw [if_pos rfl, if_neg c2]
      go_enter Try.func22, Try.ntmps22
      go_wp2
      exact bodyPost_ret (v := .agg #[.int .i64 0, .bool neg, .int .u64 0, .int .i64 0]) (by simp [results, Try.results22, go_sem]) rfl ⟨rfl, below2 _ _ _⟩
  · have t0 : (E == 2047) = false := by simpa using c1
    rw [if_neg c1]
    by_cases c3 : E = 0
    · subst c3
      by_cases c2 : F = 0
      · subst c2
        go_enter Try.func22, Try.ntmps22
        go_wp2
        exact bodyPost_ret (v := .agg #[.int .i64 2, .bool neg, .int .u64 0, .int .i64 0]) (by simp [results, Try.results22, go_sem]) rfl ⟨rfl, below2 _ _ _⟩
      · have t1 : (F != 0) = true := by simpa using c2
        have t2 : (F == 0) = false := by simpa using c2
        simp only [if_neg c2, if_true, show ¬ ((3 : Int) < 3) from by decide, if_false]
        go_enter Try.func22, Try.ntmps22
        go_wp2
        exact bodyPost_ret (v := .agg #[.int .i64 3, .bool neg, .int .u64 F, .int .i64 (-1074)]) (by simp [results, Try.results22, go_sem]) rfl ⟨rfl, below2 _ _ _⟩
    · have t3 : (E == 0) = false := by simpa using c3
      simp only [if_neg c3, show ¬ ((4 : Int) < 3) from by decide, if_false]
      go_enter Try.func22, Try.ntmps22
      go_wp2
      exact bodyPost_ret (v := .agg #[.int .i64 4, .bool neg, .int .u64 (4503599627370496 + F), .int .i64 (E - 1075)]) (by simp [results, Try.results22, go_sem]) rfl ⟨rfl, below2 _ _ _⟩
end Go.Proofs.Ytnjnbhfpgoondaa
