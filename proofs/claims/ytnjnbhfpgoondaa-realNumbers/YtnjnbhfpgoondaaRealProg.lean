/-
  The contracts of real's inner functions at every place that the package comes to, and of Kind, Of, To, Less, Next.
-/
import Derived.Test.YtnjnbhfpgoondaaRealPlain
import Derived.Test.YtnjnbhfpgoondaaRealNear
import Derived.Test.YtnjnbhfpgoondaaDiv64Any
namespace Go.Proofs.Ytnjnbhfpgoondaa
open Go.RowKit

theorem wrap_pow (j : Nat) (h : j < 64) : IntKind.u64.wrap (2 ^ j) = ((2 ^ j : Nat) : Int) := by
  have : 2 ^ j < 2 ^ 64 := Nat.pow_lt_pow_right (by decide) h
  rw [IntKind.wrap_u64, ← pow_nat]
  have h2 := Nat.two_pow_pos j
  omega
theorem wrap_mask (j : Nat) (h : j < 64) : IntKind.u64.wrap (((2 ^ j : Nat) : Int) - 1) = ((2 ^ j - 1 : Nat) : Int) := by
  have h1 : 2 ^ j < 2 ^ 64 := Nat.pow_lt_pow_right (by decide) h
  have h2 := Nat.two_pow_pos j
  rw [IntKind.wrap_u64]; omega

theorem divided_any (N k : Nat) (hN : N < 18446744073709551616 * 18446744073709551616) (k1 : 1 ≤ k) (k2 : k < 128) :
    ∃ A B C D : Nat, A * 18446744073709551616 + B = N / 2 ^ k ∧ C * 18446744073709551616 + D = N % 2 ^ k ∧ B < 18446744073709551616 ∧ D < 18446744073709551616 ∧
      ∀ W : World, Calls Try.prog 35 #[.agg #[.int .u64 ((N / 18446744073709551616 : Nat) : Int), .int .u64 ((N % 18446744073709551616 : Nat) : Int)], .int .i64 k] W fun e w' => e = .returned (.tuple #[.agg #[.int .u64 A, .int .u64 B], .agg #[.int .u64 C, .int .u64 D]]) ∧ Below W.heap.size W w' := by
  have h1 : N / 18446744073709551616 < 18446744073709551616 := Nat.div_lt_of_lt_mul hN
  have h2 : N % 18446744073709551616 < 18446744073709551616 := Nat.mod_lt _ (by decide)
  rcases Nat.lt_or_ge k 64 with c | c
  · obtain ⟨d, hd⟩ : ∃ d, k + d = 64 := ⟨64 - k, by omega⟩
    have hp : 2 ^ k * 2 ^ d = 18446744073709551616 := by rw [← Nat.pow_add, hd]
    have hk := Nat.two_pow_pos k
    have hdp := Nat.two_pow_pos d
    have hS : N / 18446744073709551616 * 2 ^ d % 18446744073709551616 = N / 18446744073709551616 % 2 ^ k * 2 ^ d := by
      rw [← hp, Nat.mul_mod_mul_right]
    have hSd : N / 18446744073709551616 * 2 ^ d / 18446744073709551616 = N / 18446744073709551616 / 2 ^ k := by
      rw [← hp, Nat.mul_div_mul_right _ _ hdp]
    have hT : N % 18446744073709551616 / 2 ^ k < 2 ^ d := by
      rw [Nat.div_lt_iff_lt_mul hk, Nat.mul_comm, hp]; exact h2
    have hS1 : N / 18446744073709551616 % 2 ^ k * 2 ^ d + 2 ^ d ≤ 18446744073709551616 := by
      have : N / 18446744073709551616 % 2 ^ k + 1 ≤ 2 ^ k := Nat.mod_lt _ hk
      have := Nat.mul_le_mul_right (2 ^ d) this
      rw [hp, Nat.add_mul, Nat.one_mul] at this
      exact this
    have hq : N / 2 ^ k = N / 18446744073709551616 * 2 ^ d + N % 18446744073709551616 / 2 ^ k := by
      have e : N = N % 18446744073709551616 + N / 18446744073709551616 * 2 ^ d * 2 ^ k := by
        rw [Nat.mul_assoc, Nat.mul_comm (2 ^ d), hp]; omega
      have e2 : (N % 18446744073709551616 + N / 18446744073709551616 * 2 ^ d * 2 ^ k) / 2 ^ k = N % 18446744073709551616 / 2 ^ k + N / 18446744073709551616 * 2 ^ d := Nat.add_mul_div_right _ _ hk
      rw [← e] at e2
      rw [e2, Nat.add_comm]
    have hm := Nat.div_add_mod (N / 18446744073709551616 * 2 ^ d) 18446744073709551616
    rw [hS, hSd] at hm
    refine ⟨N / 18446744073709551616 / 2 ^ k, N / 18446744073709551616 % 2 ^ k * 2 ^ d + N % 18446744073709551616 / 2 ^ k, 0, N % 18446744073709551616 % 2 ^ k, ?_, ?_, ?_, ?_, ?_⟩
    · rw [hq]; omega
    · rw [Nat.zero_mul, Nat.zero_add]
      exact Nat.mod_mod_of_dvd N ⟨2 ^ d, hp.symm⟩
    · omega
    · exact Nat.lt_of_le_of_lt (Nat.mod_le _ _) h2
    · intro W
      have r := divided_lo ((N / 18446744073709551616 : Nat) : Int) ((N % 18446744073709551616 : Nat) : Int) k W c k1 d hd ((N / 18446744073709551616 / 2 ^ k : Nat) : Int) ((N / 18446744073709551616 % 2 ^ k * 2 ^ d : Nat) : Int) ((N % 18446744073709551616 / 2 ^ k : Nat) : Int) ((N / 18446744073709551616 % 2 ^ k * 2 ^ d + N % 18446744073709551616 / 2 ^ k : Nat) : Int) ((2 ^ k : Nat) : Int) ((2 ^ k - 1 : Nat) : Int) ((N % 18446744073709551616 % 2 ^ k : Nat) : Int)
        (by rw [← pow_nat]; rfl)
        (by rw [← pow_nat, ← Int.natCast_mul, IntKind.wrap_u64, ← hS]; rfl)
        (by rw [← pow_nat]; rfl)
        (by rw [u64_or_nat _ _ (by omega) (by omega), nat_join d _ _ (Nat.mul_mod_left _ _) hT])
        (wrap_pow k c) (wrap_mask k c)
        (and_mask _ k (by omega) h2)
      exact r
  · obtain ⟨j, rfl⟩ : ∃ j, k = j + 64 := ⟨k - 64, by omega⟩
    have hj : j < 64 := by omega
    have hp : 2 ^ (j + 64) = 18446744073709551616 * 2 ^ j := by rw [Nat.pow_add, Nat.mul_comm]
    refine ⟨0, N / 18446744073709551616 / 2 ^ j, N / 18446744073709551616 % 2 ^ j, N % 18446744073709551616, ?_, ?_, ?_, h2, ?_⟩
    · rw [hp, Nat.div_div_eq_div_mul]; omega
    · rw [hp, Nat.mod_mul]; omega
    · exact Nat.lt_of_le_of_lt (Nat.div_le_self _ _) h1
    · intro W
      have r := divided_hi ((N / 18446744073709551616 : Nat) : Int) ((N % 18446744073709551616 : Nat) : Int) j W hj ((N / 18446744073709551616 / 2 ^ j : Nat) : Int) ((2 ^ j : Nat) : Int) ((2 ^ j - 1 : Nat) : Int) ((N / 18446744073709551616 % 2 ^ j : Nat) : Int)
        (by rw [← pow_nat]; rfl) (wrap_pow j hj) (wrap_mask j hj) (and_mask _ j (by omega) h1)
      exact r
theorem twoTo_any (k : Nat) (hk : k < 128) :
    ∃ E F : Nat, E * 18446744073709551616 + F = 2 ^ k ∧ F < 18446744073709551616 ∧ ∀ W : World, Calls Try.prog 37 #[.int .i64 k] W fun e w' => e = .returned (.agg #[.int .u64 E, .int .u64 F]) ∧ Below W.heap.size W w' := by
  rcases Nat.lt_or_ge k 64 with c | c
  · have : 2 ^ k < 2 ^ 64 := Nat.pow_lt_pow_right (by decide) c
    exact ⟨0, 2 ^ k, by omega, by omega, fun W => twoTo_lo k W c _ (wrap_pow k c)⟩
  · obtain ⟨j, rfl⟩ : ∃ j, k = j + 64 := ⟨k - 64, by omega⟩
    exact ⟨2 ^ j, 0, by rw [Nat.pow_add, Nat.add_zero, show (2 : Nat) ^ 64 = 18446744073709551616 from rfl], by omega, fun W => twoTo_hi j W (by omega) _ (wrap_pow j (by omega))⟩

theorem wrap_dec (K : Nat) (h : K ≤ 100) : IntKind.i64.wrap (((K + 1 : Nat) : Int) - 1) = K := by rw [IntKind.wrap_i64]; omega
theorem wrap_small {R : Int} (h0 : 0 ≤ R) (h1 : R ≤ 1000000000000000001) : IntKind.i64.wrap R = R := by rw [IntKind.wrap_i64]; omega
theorem fit_iff (A B : Nat) : ((A : Int) = 0 ∧ (B : Int) ≤ 1000000000000000000) ↔ ((A * 18446744073709551616 + B : Nat) : Int) ≤ 1000000000000000000 := by omega
theorem nearR_bd {q l h : Int} (h0 : 0 ≤ q) (h1 : q ≤ 1000000000000000000) : 0 ≤ nearR q l h ∧ nearR q l h ≤ 1000000000000000001 := by
  unfold nearR; split
  · omega
  · split <;> omega
theorem big_N {M : Nat} (h : M < 9007199254740992) : M * 1000000 < 18446744073709551616 * 18446744073709551616 := by omega
theorem cast_two (C D : Nat) : ((C * 18446744073709551616 + D : Nat) : Int) = (C : Int) * 18446744073709551616 + D := by omega

theorem mill_at (kd m e : Int) (k : Nat) (neg : Bool) (w : World) (h : e < 0) (he : -2000 ≤ e) (hk : min (-e) 100 = (k : Int)) (k1 : 1 ≤ k) (k2 : k ≤ 100) (m0 : 0 ≤ m) (m1 : m < 9007199254740992) :
    Calls Try.prog 25 #[.agg #[.int .i64 kd, .bool neg, .int .u64 m, .int .i64 e]] w fun e w' => e = .returned (.tuple #[.int .i64 (if m * 1000000 / 2 ^ k ≤ 1000000000000000000 then halfEven (m * 1000000) (2 ^ k) else 0), .bool (decide (m * 1000000 / 2 ^ k ≤ 1000000000000000000))]) ∧ Below w.heap.size w w' := by
  obtain ⟨M, rfl⟩ := Int.eq_ofNat_of_zero_le m0
  have hM : M < 9007199254740992 := by omega
  obtain ⟨A, B, C, D, hq, hl, hB, hD, HD⟩ := divided_any (M * 1000000) k (big_N hM) k1 (by omega)
  obtain ⟨K, rfl⟩ : ∃ K, k = K + 1 := ⟨k - 1, by omega⟩
  obtain ⟨E, F, hh, hF, HT⟩ := twoTo_any K (by omega)
  have HM : ∀ W : World, Calls Try.prog 34 #[.int .u64 M, .int .u64 1000000] W fun e w' => e = .returned (.tuple #[.int .u64 ((M * 1000000 / 18446744073709551616 : Nat) : Int), .int .u64 ((M * 1000000 % 18446744073709551616 : Nat) : Int)]) ∧ w' = W := fun W => Try.bits_Mul64 M 1000000 (by omega) (by decide) W
  have eq1 : ((M : Int) * 1000000) / 2 ^ (K + 1) = ((A * 18446744073709551616 + B : Nat) : Int) := by rw [hq, ← pow_nat]; rfl
  have eq2 : ((M : Int) * 1000000) % 2 ^ (K + 1) = ((C * 18446744073709551616 + D : Nat) : Int) := by rw [hl, ← pow_nat]; rfl
  have eq3 : (2 : Int) ^ K = ((E * 18446744073709551616 + F : Nat) : Int) := by rw [hh, ← pow_nat]
  have hn := near_half (N := (M : Int) * 1000000) (d := 2 ^ (K + 1)) (h := 2 ^ K) (by rw [Int.pow_succ, Int.mul_comm]) (two_pow_pos K)
  rw [← hn, eq1, eq2, eq3, cast_two C D, cast_two E F]
  clear hn eq1 eq2 eq3 hq hl hh
  by_cases c : ((A * 18446744073709551616 + B : Nat) : Int) ≤ 1000000000000000000
  · obtain ⟨ca, cb⟩ := (fit_iff A B).2 c
    rw [if_pos c, decide_eq_true c]
    clear c
    have eA : A = 0 := by omega
    subst eA
    rw [cast_two 0 B, show ((0 : Nat) : Int) * 18446744073709551616 + B = B from by rw [show ((0 : Nat) : Int) = 0 from rfl, Int.zero_mul, Int.zero_add]]
    have HN := fun W : World => nearW_any (B : Int) C D E F W (by omega) (by omega) (by omega) (by omega) (by omega) (by omega)
    obtain ⟨g0, g1⟩ := nearR_bd (l := (C : Int) * 18446744073709551616 + D) (h := (E : Int) * 18446744073709551616 + F) (Int.natCast_nonneg B) cb
    exact mill_fit kd M e _ _ ((K + 1 : Nat) : Int) K B C D E F _ neg w h he hk (wrap_dec K (by omega)) HM HD HT HN (Int.natCast_nonneg B) cb (wrap_small g0 g1)
  · rw [if_neg c, decide_eq_false c]
    have nc : (A : Int) ≠ 0 ∨ 1000000000000000000 < (B : Int) := by
      rcases Classical.em ((A : Int) = 0) with z | z
      · refine Or.inr (Int.not_le.1 (fun hb => c ((fit_iff A B).1 ⟨z, hb⟩)))
      · exact Or.inl z
    exact mill_over kd M e _ _ ((K + 1 : Nat) : Int) A B C D neg w h he hk HM HD nc
end Go.Proofs.Ytnjnbhfpgoondaa
