/-
  The contracts of real.To, rank, ranked, Less and Next.
-/
import Derived.Test.YtnjnbhfpgoondaaRealTo
namespace Go.Proofs.Ytnjnbhfpgoondaa
open Go.RowKit

theorem or_sign (v : Int) (h0 : 0 ≤ v) (h1 : v < 9223372036854775808) : bits BinOp.or IntKind.u64 9223372036854775808 v = 9223372036854775808 + v := by
  obtain ⟨n, rfl⟩ := Int.eq_ofNat_of_zero_le h0
  have k := u64_or_nat 9223372036854775808 n (by decide) (by omega)
  have e3 : ((9223372036854775808 : Nat) : Int) = 9223372036854775808 := rfl
  rw [e3] at k
  rw [k, nat_join 63 9223372036854775808 n (by decide) (by omega)]; rfl
set_option maxHeartbeats 1000000 in
theorem toF_any (n : Int) (w : World) :
    Calls Try.prog 15 #[.int .i64 n] w fun e w' => e = .returned (.tuple #[.float .f64 (toR n).1.toNat, .int .i64 (toR n).2]) ∧ Below w.heap.size w w' := by
  have hff := ffrom_run
  unfold toR
  cases hf : fitsB n
  · go_enter Try.func15, Try.ntmps15
    go_wp2_with (go_at_call 27; refine (fits_any _ _).mono ?_; rintro e w' ⟨rfl, rfl⟩)
    go_ret2
    exact ⟨by simp, Below.refl _ _⟩
  · obtain ⟨f0, f1⟩ := fitsB_true hf
    by_cases c : n = 0
    · subst c
      go_enter Try.func15, Try.ntmps15
      go_wp2_with (go_at_call 27; refine (fits_any _ _).mono ?_; rintro e w' ⟨rfl, rfl⟩)
      go_ret2
      exact ⟨by simp, Below.refl _ _⟩
    · have t : (n == 0) = false := by simpa using c
      rw [if_pos rfl, if_neg c]
      by_cases c1 : n < 0
      · have HB : Hid (∀ W : World, Calls Try.prog 28 #[.int .u64 (-n)] W fun e w' => e = .returned (.int .u64 (toB (-n))) ∧ Below W.heap.size W w') := fun W => nearBits_any (-n) W (by omega) (by omega)
        obtain ⟨b0, b1⟩ := toB_bd (s := -n) (by omega) (by omega)
        have eo := or_sign (toB (-n)) (by omega) (by omega)
        rw [if_pos c1]
        generalize toB (-n) = v at *
        go_enter Try.func15, Try.ntmps15
        go_wp2_with (first | (go_at_call 27; refine (fits_any _ _).mono ?_; rintro e wz ⟨rfl, hz⟩; subst wz) | (go_at_call 28; refine (HB.out _).mono ?_; rintro e w1 ⟨rfl, hb1⟩))
        go_ret2
        exact ⟨by simp, hb1⟩
      · have HB : Hid (∀ W : World, Calls Try.prog 28 #[.int .u64 n] W fun e w' => e = .returned (.int .u64 (toB n)) ∧ Below W.heap.size W w') := fun W => nearBits_any n W (by omega) (by omega)
        obtain ⟨b0, b1⟩ := toB_bd (s := n) (by omega) (by omega)
        rw [if_neg c1]
        generalize toB n = v at *
        go_enter Try.func15, Try.ntmps15
        go_wp2_with (first | (go_at_call 27; refine (fits_any _ _).mono ?_; rintro e wz ⟨rfl, hz⟩; subst wz) | (go_at_call 28; refine (HB.out _).mono ?_; rintro e w1 ⟨rfl, hb1⟩))
        go_ret2
        exact ⟨by simp, hb1⟩

theorem not_word (b : Int) (h0 : 0 ≤ b) (h : b < 18446744073709551616) : bits BinOp.xor IntKind.u64 IntKind.u64.max b = 18446744073709551615 - b := by
  obtain ⟨n, rfl⟩ := Int.eq_ofNat_of_zero_le h0
  have a1 : (BitVec.ofInt 64 (n : Int)).toNat = n := ofInt_u64 n (by omega)
  have a2 : BitVec.ofInt 64 IntKind.u64.max = BitVec.allOnes 64 := by decide
  show IntKind.u64.wrap (((BitVec.ofInt 64 IntKind.u64.max ^^^ BitVec.ofInt 64 (n : Int)).toNat : Nat) : Int) = _
  rw [a2, BitVec.allOnes_xor, BitVec.toNat_not, a1, IntKind.wrap_u64]
  omega
theorem or_sign' (b : Nat) (h : b < 9223372036854775808) : bits BinOp.or IntKind.u64 (b : Int) 9223372036854775808 = b + 9223372036854775808 := by
  have k := u64_or_nat b 9223372036854775808 (by omega) (by decide)
  have e3 : ((9223372036854775808 : Nat) : Int) = 9223372036854775808 := rfl
  rw [e3] at k
  rw [k, Nat.or_comm, nat_join 63 9223372036854775808 b (by decide) (by omega)]; omega
theorem off_sign (p : Nat) (h0 : 9223372036854775808 ≤ p) (h1 : p < 18446744073709551616) : bits BinOp.andNot IntKind.u64 (p : Int) 9223372036854775808 = (p : Int) - 9223372036854775808 := by
  have k := u64_andNot_nat p 9223372036854775808 h1 (by decide)
  have e3 : ((9223372036854775808 : Nat) : Int) = 9223372036854775808 := rfl
  rw [e3] at k
  have e : p &&& (18446744073709551615 - 9223372036854775808) = p % 9223372036854775808 := Nat.and_two_pow_sub_one_eq_mod p 63
  rw [k, e]; omega
set_option maxHeartbeats 1000000 in
theorem rank_core (b : Nat) (kd sz pw : Int) (neg : Bool) (w : World) (h : b < 18446744073709551616) (hn : neg = fNeg b)
    (HA : Hid (∀ W : World, Calls Try.prog 22 #[.float .f64 b] W fun e w' => e = .returned (.agg #[.int .i64 kd, .bool neg, .int .u64 sz, .int .i64 pw]) ∧ Below W.heap.size W w')) :
    Calls Try.prog 33 #[.float .f64 b] w fun e w' => e = .returned (.int .u64 (if kd = 0 then 0 else if neg then 18446744073709551615 - b else b + 9223372036854775808)) ∧ Below w.heap.size w w' := by
  have hfb := fbits_run
  by_cases c : kd = 0
  · subst c
    go_enter Try.func33, Try.ntmps33
    go_wp2_with (go_at_call 22; refine (HA.out _).mono ?_; rintro e w1 ⟨rfl, hb1⟩)
    go_ret
    exact ⟨rfl, hb1.alloc hb1.size _⟩
  · have t : (kd == 0) = false := by simpa using c
    rw [if_neg c]
    cases neg
    · have hb : b < 9223372036854775808 := by
        unfold fNeg at hn
        have := of_decide_eq_false hn.symm
        omega
      have eo := or_sign' b hb
      clear hn
      go_enter Try.func33, Try.ntmps33
      go_wp2_with (go_at_call 22; refine (HA.out _).mono ?_; rintro e w1 ⟨rfl, hb1⟩)
      go_ret
      exact ⟨rfl, hb1.alloc hb1.size _⟩
    · have eo := not_word b (by omega) (by omega)
      clear hn
      go_enter Try.func33, Try.ntmps33
      go_wp2_with (go_at_call 22; refine (HA.out _).mono ?_; rintro e w1 ⟨rfl, hb1⟩)
      go_ret
      exact ⟨rfl, hb1.alloc hb1.size _⟩
theorem rank_any (b : Nat) (w : World) (h : b < 18446744073709551616) :
    Calls Try.prog 33 #[.float .f64 b] w fun e w' => e = .returned (.int .u64 (rankR b)) ∧ Below w.heap.size w w' := by
  have HA : ∀ W : World, Calls Try.prog 22 #[.float .f64 b] W fun e w' => e = .returned (apartV b) ∧ Below W.heap.size W w' := fun W => apart_any b W h
  unfold apartV at HA
  exact rank_core b _ _ _ _ w h rfl HA
theorem rankR_bd (b : Nat) (h : b < 18446744073709551616) : 0 ≤ rankR b ∧ rankR b < 18446744073709551616 := by
  unfold rankR
  split
  · omega
  · cases hn : fNeg b
    · unfold fNeg at hn
      have := of_decide_eq_false hn
      rw [if_neg (by decide)]; omega
    · rw [if_pos rfl]; omega
set_option maxHeartbeats 1000000 in
theorem ranked_any (p : Nat) (w : World) (h : p < 18446744073709551616) :
    Calls Try.prog 32 #[.int .u64 (p : Int)] w fun e w' => e = .returned (.float .f64 (if fNeg p then (p : Int) - 9223372036854775808 else 18446744073709551615 - p).toNat) ∧ w' = w := by
  have hff := ffrom_run
  have e1 := and_sign p h
  cases hn : fNeg p
  · rw [hn] at e1
    have e2 := not_word p (by omega) (by omega)
    go_enter Try.func32, Try.ntmps32
    go_wp2
    go_ret
    exact ⟨by simp, rfl⟩
  · rw [hn] at e1
    have hp : 9223372036854775808 ≤ p := by
      unfold fNeg at hn
      have := of_decide_eq_true hn
      omega
    have e2 := off_sign p hp h
    go_enter Try.func32, Try.ntmps32
    go_wp2
    go_ret
    exact ⟨by simp; omega, rfl⟩
/-- Does a float stand ahead of another one? -/
def lessR (a b : Int) : Bool := decide (rankR a < rankR b)
set_option maxHeartbeats 1000000 in
theorem less_any (a b : Nat) (w : World) (ha : a < 18446744073709551616) (hb : b < 18446744073709551616) :
    Calls Try.prog 20 #[.float .f64 a, .float .f64 b] w fun e w' => e = .returned (.bool (lessR a b)) ∧ Below w.heap.size w w' := by
  have HA : Hid (∀ W : World, Calls Try.prog 33 #[.float .f64 a] W fun e w' => e = .returned (.int .u64 (rankR a)) ∧ Below W.heap.size W w') := fun W => rank_any a W ha
  have HB : Hid (∀ W : World, Calls Try.prog 33 #[.float .f64 b] W fun e w' => e = .returned (.int .u64 (rankR b)) ∧ Below W.heap.size W w') := fun W => rank_any b W hb
  unfold lessR
  generalize rankR a = x at *
  generalize rankR b = y at *
  go_enter Try.func20, Try.ntmps20
  go_wp2_with (first | (go_at_call_of 33 a; refine (HA.out _).mono ?_; rintro e w1 ⟨rfl, hb1⟩) | (go_at_call_of 33 b; refine (HB.out _).mono ?_; rintro e w2 ⟨rfl, hb2⟩))
  go_ret
  exact ⟨rfl, hb1.trans (hb2.mono hb1.size)⟩

set_option maxHeartbeats 1000000 in
theorem next_arg (b : Nat) (kd : Int) (w : World) (hk : kd = 0 ∨ (kd = 1 ∧ (FloatKind.f64.format.order b 0 == some .gt) = true))
    (HK : Hid (∀ W : World, Calls Try.prog 9 #[.float .f64 b] W fun e w' => e = .returned (.int .i64 kd) ∧ Below W.heap.size W w')) :
    Calls Try.prog 18 #[.float .f64 b] w fun e w' => e = .returned (.tuple #[.float .f64 0, .int .i64 2]) ∧ Below w.heap.size w w' := by
  rcases hk with rfl | ⟨rfl, ho⟩
  all_goals
    go_enter Try.func18, Try.ntmps18
    go_wp2_with (go_at_call 9; refine (HK.out _).mono ?_; rintro e w1 ⟨rfl, hb1⟩)
    go_ret2
    exact ⟨rfl, hb1⟩
set_option maxHeartbeats 1000000 in
theorem next_on (b c x : Nat) (kd r : Int) (w : World) (hk : (kd = 1 ∧ (FloatKind.f64.format.order b 0 == some .gt) = false ∧ c = b) ∨ (kd = 2 ∧ c = 0) ∨ (kd = 3 ∧ c = b) ∨ (kd = 4 ∧ c = b))
    (HK : Hid (∀ W : World, Calls Try.prog 9 #[.float .f64 b] W fun e w' => e = .returned (.int .i64 kd) ∧ Below W.heap.size W w'))
    (HR : Hid (∀ W : World, Calls Try.prog 33 #[.float .f64 c] W fun e w' => e = .returned (.int .u64 r) ∧ Below W.heap.size W w'))
    (HD : Hid (∀ W : World, Calls Try.prog 32 #[.int .u64 (r + 1)] W fun e w' => e = .returned (.float .f64 x) ∧ w' = W))
    (r0 : 0 ≤ r) (r1 : r < 18446744073709551615) :
    Calls Try.prog 18 #[.float .f64 b] w fun e w' => e = .returned (.tuple #[.float .f64 x, .int .i64 0]) ∧ Below w.heap.size w w' := by
  rcases hk with ⟨rfl, ho, rfl⟩ | ⟨rfl, rfl⟩ | ⟨rfl, rfl⟩ | ⟨rfl, rfl⟩
  all_goals
    go_enter Try.func18, Try.ntmps18
    go_wp2_with (first | (go_at_call 9; refine (HK.out _).mono ?_; rintro e w1 ⟨rfl, hb1⟩) | (go_at_call 33; refine (HR.out _).mono ?_; rintro e w2 ⟨rfl, hb2⟩) | (go_at_call 32; refine (HD.out _).mono ?_; rintro e w3 ⟨rfl, rfl⟩))
    go_ret2
    exact ⟨rfl, hb1.trans (hb2.mono hb1.size)⟩
theorem kind_fields {b : Int} : (kindR b = 0 → fExp b = 2047 ∧ fPart b ≠ 0) ∧ (kindR b = 1 → fExp b = 2047 ∧ fPart b = 0) ∧ (kindR b = 2 → fExp b = 0 ∧ fPart b = 0) ∧ (kindR b = 3 → fExp b = 0 ∧ fPart b ≠ 0) ∧ (kindR b = 4 → fExp b ≠ 0 ∧ fExp b ≠ 2047) := by
  unfold kindR
  refine ⟨?_, ?_, ?_, ?_, ?_⟩
  all_goals
    intro h
    split at h
    · split at h <;> first | omega | (refine ⟨?_, ?_⟩ <;> assumption)
    · split at h
      · split at h <;> first | omega | (refine ⟨?_, ?_⟩ <;> assumption)
      · first | omega | (refine ⟨?_, ?_⟩ <;> assumption)
/-- The bits of the infinities and the noughts. -/
theorem inf_bits {b : Int} (h0 : 0 ≤ b) (h1 : b < 18446744073709551616) (h : kindR b = 1) : b = 9218868437227405312 ∨ b = 18442240474082181120 := by
  have := kind_fields.2.1 h
  unfold fExp fPart at this
  omega
theorem nought_bits {b : Int} (h0 : 0 ≤ b) (h1 : b < 18446744073709551616) (h : kindR b = 2) : b = 0 ∨ b = 9223372036854775808 := by
  have := kind_fields.2.2.1 h
  unfold fExp fPart at this
  omega
/-- Where a float that is a number, and no plus infinity, ends. -/
theorem num_bits {b : Int} (h0 : 0 ≤ b) (h1 : b < 18446744073709551616) (h : kindR b ≠ 0) : b ≤ 9218868437227405312 ∨ (9223372036854775808 ≤ b ∧ b ≤ 18442240474082181120) := by
  have k := kindR_cases b
  have f := kind_fields (b := b)
  rcases k with k | k | k | k | k
  · exact absurd k h
  · rcases inf_bits h0 h1 k with e | e <;> omega
  · rcases nought_bits h0 h1 k with e | e <;> omega
  · have := f.2.2.2.1 k
    unfold fExp fPart at this
    omega
  · have := f.2.2.2.2 k
    unfold fExp at this
    omega
theorem next_any (b : Nat) (w : World) (h : b < 18446744073709551616) :
    Calls Try.prog 18 #[.float .f64 b] w fun e w' => e = .returned (.tuple #[.float .f64 (nextR b).1.toNat, .int .i64 (nextR b).2]) ∧ Below w.heap.size w w' := by
  have HK := fun W : World => kind_any b W h
  have hk := kindR_cases b
  by_cases c0 : kindR b = 0
  · have key := next_arg b _ w (Or.inl c0) HK
    rw [show nextR b = (0, 2) from by unfold nextR; rw [if_pos (Or.inl c0)]]
    exact key
  by_cases ci : (b : Int) = 9218868437227405312
  · have e : b = 9218868437227405312 := by omega
    subst e
    have key := next_arg 9218868437227405312 _ w (Or.inr ⟨by decide, by decide⟩) HK
    rw [show nextR ((9218868437227405312 : Nat) : Int) = (0, 2) from by decide]
    exact key
  by_cases c2 : kindR b = 2
  · have e : nextR b = (1, 0) := by unfold nextR; rw [if_neg (fun h => h.elim c0 ci), if_pos c2]
    rw [e]
    have HR := fun W : World => rank_any 0 W (by decide)
    rw [show rankR ((0 : Nat) : Int) = 9223372036854775808 from by decide] at HR
    have HD := fun W : World => ranked_any 9223372036854775809 W (by decide)
    rw [show fNeg ((9223372036854775809 : Nat) : Int) = true from by decide] at HD
    exact next_on b 0 1 _ 9223372036854775808 w (Or.inr (Or.inl ⟨c2, rfl⟩)) HK HR HD (by decide) (by decide)
  · have HR := fun W : World => rank_any b W h
    have nb := num_bits (b := b) (by omega) (by omega) c0
    cases hn : fNeg b
    · have hb : (b : Int) < 9223372036854775808 := by
        unfold fNeg at hn; have := of_decide_eq_false hn; omega
      have er : rankR b = b + 9223372036854775808 := by unfold rankR; rw [if_neg c0, hn, if_neg (by decide)]
      have HD := fun W : World => ranked_any (b + 9223372036854775809) W (by omega)
      have e2 : fNeg ((b + 9223372036854775809 : Nat) : Int) = true := by unfold fNeg; exact decide_eq_true (by omega)
      rw [e2, if_pos rfl] at HD
      rw [er] at HR
      have key := next_on b b _ (kindR b) _ w (by
        rcases hk with k | k | k | k | k
        · exact absurd k c0
        · exfalso
          rcases inf_bits (b := b) (by omega) (by omega) k with e | e <;> omega
        · exact absurd k c2
        · exact Or.inr (Or.inr (Or.inl ⟨k, rfl⟩))
        · exact Or.inr (Or.inr (Or.inr ⟨k, rfl⟩))) HK HR (by
          rw [show ((b + 9223372036854775809 : Nat) : Int) = (b : Int) + 9223372036854775808 + 1 by omega] at HD
          exact HD) (by omega) (by omega)
      have e : nextR b = ((b : Int) + 1, 0) := by unfold nextR; rw [if_neg (fun h => h.elim c0 ci), if_neg c2, hn, if_neg (by decide)]
      rw [e]
      rw [show ((b : Int) + 9223372036854775808 + 1 - 9223372036854775808).toNat = ((b : Int) + 1).toNat by omega] at key
      exact key
    · have hb : 9223372036854775808 ≤ (b : Int) := by
        unfold fNeg at hn; exact of_decide_eq_true hn
      have hb2 : (b : Int) ≠ 9223372036854775808 := by
        intro e
        rw [e] at c2
        exact c2 (by decide)
      have er : rankR b = 18446744073709551615 - b := by unfold rankR; rw [if_neg c0, hn, if_pos rfl]
      obtain ⟨p, hp⟩ : ∃ p : Nat, (p : Int) = 18446744073709551616 - b := ⟨18446744073709551616 - b, by omega⟩
      have HD := fun W : World => ranked_any p W (by omega)
      have e2 : fNeg (p : Int) = false := by unfold fNeg; exact decide_eq_false (by omega)
      rw [e2, if_neg (by decide), hp] at HD
      rw [er] at HR
      have key := next_on b b _ (kindR b) _ w (by
        rcases hk with k | k | k | k | k
        · exact absurd k c0
        · refine Or.inl ⟨k, ?_, rfl⟩
          rcases inf_bits (b := b) (by omega) (by omega) k with e | e
          · omega
          · have : b = 18442240474082181120 := by omega
            subst this; decide
        · exact absurd k c2
        · exact Or.inr (Or.inr (Or.inl ⟨k, rfl⟩))
        · exact Or.inr (Or.inr (Or.inr ⟨k, rfl⟩))) HK HR (by
          rw [show (18446744073709551616 : Int) - b = 18446744073709551615 - b + 1 by omega] at HD
          exact HD) (by omega) (by omega)
      have e : nextR b = ((b : Int) - 1, 0) := by unfold nextR; rw [if_neg (fun h => h.elim c0 ci), if_neg c2, hn, if_pos rfl]
      rw [e]
      rw [show ((18446744073709551615 : Int) - (18446744073709551615 - b + 1)).toNat = ((b : Int) - 1).toNat by omega] at key
      exact key
end Go.Proofs.Ytnjnbhfpgoondaa
