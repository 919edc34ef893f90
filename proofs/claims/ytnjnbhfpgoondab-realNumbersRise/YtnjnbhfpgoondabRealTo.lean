/-
  The contracts of real.nearestBits, To, rank, ranked, Less and Next.
-/
import Derived.Test.YtnjnbhfpgoondabRealOf
namespace Go.Proofs.Ytnjnbhfpgoondab
open Go.RowKit

theorem two_eq {y r H : Int} (r0 : 0 ≤ r) (r1 : r < 1000000) : y * 18446744073709551616 + r = H * 18446744073709551616 + 0 ↔ y = H ∧ r = 0 := by omega
theorem two_lt {y r H : Int} (r0 : 0 ≤ r) (r1 : r < 1000000) : H * 18446744073709551616 + 0 < y * 18446744073709551616 + r ↔ H < y ∨ (y = H ∧ 0 < r) := by omega
theorem near_10_cmp {p y r : Int} (e : 1024 * p = y * 1000000 + r) (r0 : 0 ≤ r) (r1 : r < 1000000) : (1000000 < 2 * p ↔ 512 < y ∨ (y = 512 ∧ 0 < r)) ∧ (2 * p = 1000000 ↔ y = 512 ∧ r = 0) := by omega
theorem near_10 {a q r : Int} (h : 1024 * a = q * 1000000 + r) (r0 : 0 ≤ r) (r1 : r < 1000000) : nearR (q / 1024) (q % 1024 * 18446744073709551616 + r) (512 * 18446744073709551616 + 0) = halfEven a 1000000 := by
  have e1 : a / 1000000 = q / 1024 := by omega
  have e2 : 1024 * (a % 1000000) = q % 1024 * 1000000 + r := by omega
  clear h
  unfold nearR halfEven
  rw [e1]
  clear e1
  generalize a % 1000000 = p at *
  generalize q / 1024 = z at *
  generalize q % 1024 = y at *
  obtain ⟨k1, k2⟩ := near_10_cmp e2 r0 r1
  have k3 := two_eq (y := y) (H := 512) r0 r1
  have k4 := two_lt (y := y) (H := 512) r0 r1
  clear e2 r0 r1
  by_cases c1 : y * 18446744073709551616 + r = 512 * 18446744073709551616 + 0
  · rw [if_pos c1]
    have c3 := k2.2 (k3.1 c1)
    by_cases c2 : z % 2 = 1
    · rw [if_pos (Or.inr ⟨c3, c2⟩), c2]
    · rw [if_neg (fun h => h.elim (fun h => by clear k1 k2 k3 k4 c1; omega) (fun h => c2 h.2))]; clear k1 k2 k3 k4 c1; omega
  · rw [if_neg c1]
    by_cases c2 : 512 * 18446744073709551616 + 0 < y * 18446744073709551616 + r
    · rw [if_pos c2, if_pos (Or.inl (k1.2 (k4.1 c2)))]
    · rw [if_neg c2, if_neg (fun h => h.elim (fun h => c2 (k4.2 (k1.1 h))) (fun h => c1 (k3.2 (k2.1 h.1))))]
theorem near_11_cmp {p y r : Int} (e : 2048 * p = y * 1000000 + r) (r0 : 0 ≤ r) (r1 : r < 1000000) : (1000000 < 2 * p ↔ 1024 < y ∨ (y = 1024 ∧ 0 < r)) ∧ (2 * p = 1000000 ↔ y = 1024 ∧ r = 0) := by omega
theorem near_11 {a q r : Int} (h : 2048 * a = q * 1000000 + r) (r0 : 0 ≤ r) (r1 : r < 1000000) : nearR (q / 2048) (q % 2048 * 18446744073709551616 + r) (1024 * 18446744073709551616 + 0) = halfEven a 1000000 := by
  have e1 : a / 1000000 = q / 2048 := by omega
  have e2 : 2048 * (a % 1000000) = q % 2048 * 1000000 + r := by omega
  clear h
  unfold nearR halfEven
  rw [e1]
  clear e1
  generalize a % 1000000 = p at *
  generalize q / 2048 = z at *
  generalize q % 2048 = y at *
  obtain ⟨k1, k2⟩ := near_11_cmp e2 r0 r1
  have k3 := two_eq (y := y) (H := 1024) r0 r1
  have k4 := two_lt (y := y) (H := 1024) r0 r1
  clear e2 r0 r1
  by_cases c1 : y * 18446744073709551616 + r = 1024 * 18446744073709551616 + 0
  · rw [if_pos c1]
    have c3 := k2.2 (k3.1 c1)
    by_cases c2 : z % 2 = 1
    · rw [if_pos (Or.inr ⟨c3, c2⟩), c2]
    · rw [if_neg (fun h => h.elim (fun h => by clear k1 k2 k3 k4 c1; omega) (fun h => c2 h.2))]; clear k1 k2 k3 k4 c1; omega
  · rw [if_neg c1]
    by_cases c2 : 1024 * 18446744073709551616 + 0 < y * 18446744073709551616 + r
    · rw [if_pos c2, if_pos (Or.inl (k1.2 (k4.1 c2)))]
    · rw [if_neg c2, if_neg (fun h => h.elim (fun h => c2 (k4.2 (k1.1 h))) (fun h => c1 (k3.2 (k2.1 h.1))))]
theorem lz_any (n : Nat) (h0 : n ≠ 0) (h1 : n < 18446744073709551616) :
    ∃ u : Nat, u ≤ 63 ∧ 9223372036854775808 ≤ n * 2 ^ u ∧ n * 2 ^ u < 18446744073709551616 ∧ ∀ W : World, Calls Try.prog 23 #[.int .u64 (n : Int)] W fun e w' => e = .returned (.int .i64 u) ∧ w' = W := by
  obtain ⟨b1, b2, b3⟩ := Lib.bitLenAux_bounds 64 n (by omega) h0
  have hbl : Lib.bitLen n = Lib.bitLenAux 64 n := rfl
  generalize Lib.bitLenAux 64 n = b at *
  have b4 : b ≤ 64 := by
    rcases Nat.lt_or_ge 64 b with h | h
    · have : 2 ^ 64 ≤ 2 ^ (b - 1) := Nat.pow_le_pow_right (by decide) (by omega)
      omega
    · exact h
  obtain ⟨k, hk⟩ : ∃ k, k + b = 64 := ⟨64 - b, by omega⟩
  have hpN : 2 ^ b * 2 ^ k = 18446744073709551616 := by rw [← Nat.pow_add, Nat.add_comm, hk]
  have hpN' : 2 ^ (b - 1) * 2 ^ k = 9223372036854775808 := by rw [← Nat.pow_add, show b - 1 + k = 63 by omega]
  refine ⟨k, by omega, ?_, ?_, fun W => ?_⟩
  · rw [← hpN']; exact Nat.mul_le_mul_right _ b2
  · rw [← hpN]; exact Nat.mul_lt_mul_of_pos_right b3 (Nat.two_pow_pos k)
  · have h := Try.bits_LeadingZeros64 (n : Int) W (by omega) (by omega)
    rw [Int.toNat_natCast, hbl, show 64 - (b : Int) = k by omega] at h
    exact h
theorem len_any (q : Int) (l : Nat) (hl : 1 ≤ l) (hl2 : l ≤ 64) (q0 : (2 : Int) ^ (l - 1) ≤ q) (q1 : q < 2 ^ l) (W : World) :
    Calls Try.prog 25 #[.int .u64 q] W fun e w' => e = .returned (.int .i64 l) ∧ w' = W := by
  have p0 := two_pow_pos (l - 1)
  obtain ⟨n, rfl⟩ := Int.eq_ofNat_of_zero_le (a := q) (by omega)
  rw [← pow_nat] at q0 q1
  have n0 : 2 ^ (l - 1) ≤ n := Int.ofNat_le.1 q0
  have n1 : n < 2 ^ l := Int.ofNat_lt.1 q1
  have p1 := Nat.two_pow_pos (l - 1)
  have p2 : 2 ^ l ≤ 2 ^ 64 := Nat.pow_le_pow_right (by decide) hl2
  obtain ⟨b1, b2, b3⟩ := Lib.bitLenAux_bounds 64 n (by omega) (by omega)
  have hbl : Lib.bitLen n = Lib.bitLenAux 64 n := rfl
  generalize Lib.bitLenAux 64 n = b at *
  have e : b = l := by
    rcases Nat.lt_trichotomy b l with c | c | c
    · have : 2 ^ b ≤ 2 ^ (l - 1) := Nat.pow_le_pow_right (by decide) (by omega)
      omega
    · exact c
    · have : 2 ^ l ≤ 2 ^ (b - 1) := Nat.pow_le_pow_right (by decide) (by omega)
      omega
  have h := Try.bits_Len64 (n : Int) W (by omega) (by omega)
  rw [Int.toNat_natCast, hbl, e] at h
  exact h
theorem and_low (q : Int) (k : Nat) (hk : k ≤ 63) (h0 : 0 ≤ q) (h1 : q < 18446744073709551616) : bits BinOp.and IntKind.u64 q ((2 ^ k - 1 : Nat) : Int) = q % 2 ^ k := by
  obtain ⟨n, rfl⟩ := Int.eq_ofNat_of_zero_le h0
  rw [and_mask n k hk (by omega), ← pow_nat]; rfl

theorem nearBits_any (s : Int) (w : World) (h0 : 1 ≤ s) (h1 : s ≤ 1000000000000000000) :
    Calls Try.prog 17 #[.int .u64 s] w fun e w' => e = .returned (.int .u64 (toB s)) ∧ Below w.heap.size w w' := by
  obtain ⟨n, rfl⟩ := Int.eq_ofNat_of_zero_le (a := s) (by omega)
  obtain ⟨u, hu, l0, l1, HZ⟩ := lz_any n (by omega) (by omega)
  have eS : (n : Int) * 2 ^ u = ((n * 2 ^ u : Nat) : Int) := by rw [Int.natCast_mul, pow_nat]
  obtain ⟨S, hS⟩ : ∃ S : Int, S = (n : Int) * 2 ^ u := ⟨_, rfl⟩
  have S0 : 9223372036854775808 ≤ S := by rw [hS, eS]; omega
  have S1 : S < 18446744073709551616 := by rw [hS, eS]; omega
  clear l0 l1 eS
  obtain ⟨H, hH⟩ : ∃ H : Int, H = S / 35184372088832 := ⟨_, rfl⟩
  obtain ⟨L, hL⟩ : ∃ L : Int, L = S * 524288 % 18446744073709551616 := ⟨_, rfl⟩
  have hHL : H * 18446744073709551616 + L = S * 524288 := by omega
  have HD := div64_any H L 1000000 (by omega) (by omega) (by decide) (by omega) (by omega)
  unfold DivAt at HD
  rw [hHL] at HD
  obtain ⟨q, hq⟩ : ∃ q : Int, q = S * 524288 / 1000000 := ⟨_, rfl⟩
  obtain ⟨r, hr⟩ : ∃ r : Int, r = S * 524288 % 1000000 := ⟨_, rfl⟩
  rw [← hq, ← hr] at HD
  have q0 : 4611686018427387904 ≤ q := by omega
  have q1 : q < 9671406556917033400 := by omega
  have hqr : S * 524288 = q * 1000000 + r := by omega
  have r0 : 0 ≤ r := by omega
  have r1 : r < 1000000 := by omega
  have w1 : IntKind.u64.wrap ((n : Int) * 2 ^ u) = S := by rw [← hS, IntKind.wrap_u64]; omega
  have w2 : IntKind.u64.wrap (S * 524288) = L := by rw [IntKind.wrap_u64]; exact hL.symm
  clear hq hr hHL hL
  by_cases c : q < 9223372036854775808
  · have HL := len_any q 63 (by decide) (by decide) (by simpa using q0) (by simpa using c)
    have HN := fun W : World => nearW_any (q / 1024) (q % 1024) r 512 0 W (by omega) (by omega) r0 (by omega) (by decide) (by decide)
    have ea : (n : Int) * 2 ^ (u + 9) = S * 512 := by rw [Int.pow_add, ← Int.mul_assoc, ← hS]; rfl
    have e := near_10 (a := (n : Int) * 2 ^ (u + 9)) (q := q) (r := r) (by rw [ea]; omega) r0 r1
    rw [e] at HN
    have g := half_ge (N := (n : Int) * 2 ^ (u + 9)) (d := 1000000)
    have l := half_le (N := (n : Int) * 2 ^ (u + 9)) (d := 1000000)
    have b0 : 4503599627370496000000 ≤ (n : Int) * 2 ^ (u + 9) := by rw [ea]; omega
    have b1 : (n : Int) * 2 ^ (u + 9) < 9007199254740992000000 := by rw [ea]; omega
    obtain ⟨j0, j1⟩ := to_j_bd h0 h1 b0 b1
    have et : toB n = (1066 - u) * 4503599627370496 + (halfEven ((n : Int) * 2 ^ (u + 9)) 1000000 - 4503599627370496) :=
      toB_eq h0 h1 ⟨u + 9, j0, j1, b0, b1, by rw [show (1075 : Int) - ((u + 9 : Nat) : Int) = 1066 - u by omega]⟩
    rw [et]
    clear et
    exact nb_10 n S H L q r _ u w hu HZ w1 hH.symm w2 HD HL _ _ (and_low q 10 (by decide) (by omega) (by omega)) rfl HN (by omega) (by omega)
  · have HL := len_any q 64 (by decide) (by decide) (by simp; omega) (by simp; omega)
    have HN := fun W : World => nearW_any (q / 2048) (q % 2048) r 1024 0 W (by omega) (by omega) r0 (by omega) (by decide) (by decide)
    have ea : (n : Int) * 2 ^ (u + 8) = S * 256 := by rw [Int.pow_add, ← Int.mul_assoc, ← hS]; rfl
    have e := near_11 (a := (n : Int) * 2 ^ (u + 8)) (q := q) (r := r) (by rw [ea]; omega) r0 r1
    rw [e] at HN
    have g := half_ge (N := (n : Int) * 2 ^ (u + 8)) (d := 1000000)
    have l := half_le (N := (n : Int) * 2 ^ (u + 8)) (d := 1000000)
    have b0 : 4503599627370496000000 ≤ (n : Int) * 2 ^ (u + 8) := by rw [ea]; omega
    have b1 : (n : Int) * 2 ^ (u + 8) < 9007199254740992000000 := by rw [ea]; omega
    obtain ⟨j0, j1⟩ := to_j_bd h0 h1 b0 b1
    have et : toB n = (1067 - u) * 4503599627370496 + (halfEven ((n : Int) * 2 ^ (u + 8)) 1000000 - 4503599627370496) :=
      toB_eq h0 h1 ⟨u + 8, j0, j1, b0, b1, by rw [show (1075 : Int) - ((u + 8 : Nat) : Int) = 1067 - u by omega]⟩
    rw [et]
    clear et
    exact nb_11 n S H L q r _ u w hu HZ w1 hH.symm w2 HD HL _ _ (and_low q 11 (by decide) (by omega) (by omega)) rfl HN (by omega) (by omega)
end Go.Proofs.Ytnjnbhfpgoondab
