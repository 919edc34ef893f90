/-
  The contract of math/bits.Div64 at every place that num comes to: the high word is below the divisor.
-/
import Derived.Test.YtcabpcneiddgcaaDiv64
import Derived.Laws.BitsAllLaws
import Derived.Lib.ItoaNum
namespace Go.Proofs.Ytcabpcneiddgcaa
open Go.RowKit

theorem and32 (v : Int) (h0 : 0 ≤ v) (h1 : v < 18446744073709551616) : bits BinOp.and IntKind.u64 v 4294967295 = v % 4294967296 := by
  obtain ⟨n, rfl⟩ := Int.eq_ofNat_of_zero_le h0
  have h := u64_and_nat n 4294967295 (by omega) (by decide)
  have e : n &&& 4294967295 = n % 4294967296 := Nat.and_two_pow_sub_one_eq_mod n 32
  rw [e] at h
  have e2 : ((4294967295 : Nat) : Int) = 4294967295 := rfl
  rw [e2] at h
  rw [h]; omega

theorem or_add (hi lo k b : Nat) (hk : k + b = 64) (h1 : hi < 2 ^ b) (h2 : lo < 2 ^ 64) : bits BinOp.or IntKind.u64 (IntKind.u64.wrap ((hi : Int) * 2 ^ k)) ((lo : Int) / 2 ^ (64 - k)) = (hi : Int) * 2 ^ k + (lo : Int) / 2 ^ b := by
  have hb : 64 - k = b := by omega
  have hp : 2 ^ b * 2 ^ k = 18446744073709551616 := by rw [← Nat.pow_add, Nat.add_comm, hk]
  have h3 : hi * 2 ^ k < 18446744073709551616 := by
    rw [← hp]; exact Nat.mul_lt_mul_of_pos_right h1 (Nat.two_pow_pos k)
  have h4 : lo / 2 ^ b < 2 ^ k := by
    rw [Nat.div_lt_iff_lt_mul (Nat.two_pow_pos b), Nat.mul_comm, hp]; exact h2
  have h5 : 2 ^ k ≤ 18446744073709551616 := by
    rw [← hp]; exact Nat.le_mul_of_pos_left _ (Nat.two_pow_pos b)
  have e1 : (hi : Int) * 2 ^ k = ((hi * 2 ^ k : Nat) : Int) := by rw [Int.natCast_mul, Int.natCast_pow]; rfl
  have e2 : (lo : Int) / 2 ^ b = ((lo / 2 ^ b : Nat) : Int) := by rw [Int.natCast_ediv, Int.natCast_pow]; rfl
  rw [hb, e1, e2, IntKind.wrap_u64, Int.emod_eq_of_lt (by omega) (by omega), u64_or_nat _ _ h3 (by omega)]
  have e3 : hi * 2 ^ k ||| lo / 2 ^ b = hi * 2 ^ k + lo / 2 ^ b := by
    rw [Nat.mul_comm]; exact (Nat.two_pow_add_eq_or_of_lt h4 hi).symm
  rw [e3, Int.natCast_add]

theorem div64_any (hi lo y : Int) (h0 : 0 ≤ hi) (h1 : hi < y) (h2 : y ≤ 1000000000000000000) (l0 : 0 ≤ lo) (l1 : lo < 18446744073709551616) : DivAt hi lo y := by
  by_cases hz : hi = 0
  · subst hz
    exact div64_low lo y l0 l1 h1 (by omega)
  obtain ⟨yn, rfl⟩ := Int.eq_ofNat_of_zero_le (a := y) (by omega)
  obtain ⟨hn, rfl⟩ := Int.eq_ofNat_of_zero_le h0
  obtain ⟨ln, rfl⟩ := Int.eq_ofNat_of_zero_le l0
  obtain ⟨b1, b2, b3⟩ := Lib.bitLenAux_bounds 64 yn (by omega) (by omega)
  have hbl : Lib.bitLen yn = Lib.bitLenAux 64 yn := rfl
  generalize Lib.bitLenAux 64 yn = b at *
  have b4 : b ≤ 60 := by
    rcases Nat.lt_or_ge 60 b with h | h
    · have : 2 ^ 60 ≤ 2 ^ (b - 1) := Nat.pow_le_pow_right (by decide) (by omega)
      omega
    · exact h
  have b5 : 2 ≤ b := by
    rcases Nat.lt_or_ge b 2 with h | h
    · have : b = 1 := by omega
      subst this
      omega
    · exact h
  obtain ⟨k, hk⟩ : ∃ k, k + b = 64 := ⟨64 - b, by omega⟩
  intro w
  have hpN : 2 ^ b * 2 ^ k = 18446744073709551616 := by rw [← Nat.pow_add, Nat.add_comm, hk]
  have hpN' : 2 ^ (b - 1) * 2 ^ k = 9223372036854775808 := by rw [← Nat.pow_add, show b - 1 + k = 63 by omega]
  have vN1 : yn * 2 ^ k < 18446744073709551616 := by rw [← hpN]; exact Nat.mul_lt_mul_of_pos_right b3 (Nat.two_pow_pos k)
  have vN0 : 9223372036854775808 ≤ yn * 2 ^ k := by rw [← hpN']; exact Nat.mul_le_mul_right _ b2
  have kp : 1 ≤ 2 ^ k := Nat.two_pow_pos k
  have bp : 1 ≤ 2 ^ b := Nat.two_pow_pos b
  have hor := or_add hn ln k b hk (by omega) (by omega)
  have eV : (yn : Int) * 2 ^ k = ((yn * 2 ^ k : Nat) : Int) := by rw [Int.natCast_mul, Int.natCast_pow]; rfl
  have lb : ln / 2 ^ b < 2 ^ k := by
    rw [Nat.div_lt_iff_lt_mul (Nat.two_pow_pos b), Nat.mul_comm, hpN]; omega
  have eU : (hn : Int) * 2 ^ k + (ln : Int) / 2 ^ b = ((hn * 2 ^ k + ln / 2 ^ b : Nat) : Int) := by
    rw [Int.natCast_add, Int.natCast_mul, Int.natCast_ediv, Int.natCast_pow, Int.natCast_pow]; rfl
  have uv : hn * 2 ^ k + ln / 2 ^ b < yn * 2 ^ k := by
    have : (hn + 1) * 2 ^ k ≤ yn * 2 ^ k := Nat.mul_le_mul_right _ (by omega)
    rw [Nat.add_mul] at this; omega
  have eC : IntKind.u64.wrap ((ln : Int) * 2 ^ k) = ((ln % 2 ^ b * 2 ^ k : Nat) : Int) := by
    have e1 : (ln : Int) * 2 ^ k = ((ln * 2 ^ k : Nat) : Int) := by rw [Int.natCast_mul, Int.natCast_pow]; rfl
    rw [e1, IntKind.wrap_u64]
    have e2 : ln * 2 ^ k % 18446744073709551616 = ln % 2 ^ b * 2 ^ k := by rw [← hpN, Nat.mul_mod_mul_right]
    omega
  have cN : ln % 2 ^ b * 2 ^ k < 18446744073709551616 := by
    rw [← hpN]; exact Nat.mul_lt_mul_of_pos_right (Nat.mod_lt _ (Nat.two_pow_pos b)) (Nat.two_pow_pos k)
  have hX : (hn * 18446744073709551616 + ln) * 2 ^ k = (hn * 2 ^ k + ln / 2 ^ b) * 18446744073709551616 + ln % 2 ^ b * 2 ^ k := by
    have e := Nat.div_add_mod ln (2 ^ b)
    have e4 : ln * 2 ^ k = ln / 2 ^ b * 18446744073709551616 + ln % 2 ^ b * 2 ^ k := by
      rw [← hpN, ← Nat.mul_assoc, ← Nat.add_mul, Nat.mul_comm (ln / 2 ^ b), e]
    rw [Nat.add_mul, Nat.add_mul, e4, Nat.mul_right_comm]; omega
  have eX : ((hn : Int) * 18446744073709551616 + ln) * 2 ^ k = (((hn * 18446744073709551616 + ln) * 2 ^ k : Nat) : Int) := by
    rw [Int.natCast_mul, Int.natCast_add, Int.natCast_mul, Int.natCast_pow]; rfl
  have hsc := scaled (X := (hn : Int) * 18446744073709551616 + ln) (y := yn) (p := 2 ^ k) (Int.pow_pos (by decide))
  rw [← hsc.1, ← hsc.2, eX, hX, eV]
  have HZ : Hid (∀ W : World, Calls Try.prog 42 #[.int .u64 (yn : Int)] W fun e w' => e = .returned (.int .i64 k) ∧ w' = W) := fun W => by
    have h := Try.bits_LeadingZeros64 (yn : Int) W (by omega) (by omega)
    rw [Int.toNat_natCast, hbl, show 64 - (b : Int) = k by omega] at h
    exact h
  rw [eU] at hor
  clear hX eX hsc hpN' b2 b3 eU
  generalize yn * 2 ^ k = V at *
  generalize hn * 2 ^ k + ln / 2 ^ b = U at *
  generalize ln % 2 ^ b * 2 ^ k = C at *
  obtain ⟨Y1, hY1⟩ : ∃ x : Int, (V : Int) / 4294967296 = x := ⟨_, rfl⟩
  obtain ⟨Y0, hY0⟩ : ∃ x : Int, (V : Int) % 4294967296 = x := ⟨_, rfl⟩
  obtain ⟨U1, hU1⟩ : ∃ x : Int, (C : Int) / 4294967296 = x := ⟨_, rfl⟩
  obtain ⟨U0, hU0⟩ : ∃ x : Int, (C : Int) % 4294967296 = x := ⟨_, rfl⟩
  obtain ⟨D1, hD1⟩ : ∃ x : Int, x = ((U : Int) * 4294967296 + U1) / V := ⟨_, rfl⟩
  have g1 : Dig Y1 Y0 V U U1 D1 := ⟨by omega, by omega, by omega, by omega, by omega, by omega, by omega, by omega, by omega, hD1⟩
  have hr := g1.rest
  obtain ⟨U2, hU2⟩ : ∃ x : Int, x = (U : Int) * 4294967296 + U1 - D1 * V := ⟨_, rfl⟩
  obtain ⟨D0, hD0⟩ : ∃ x : Int, x = (U2 * 4294967296 + U0) / V := ⟨_, rfl⟩
  have g2 : Dig Y1 Y0 V U2 U0 D0 := ⟨by omega, by omega, by omega, by omega, by omega, by rw [hU2]; exact hr.1, by rw [hU2]; exact hr.2, by omega, by omega, hD0⟩
  have ht := two_digits (N := ((U * 18446744073709551616 + C : Nat) : Int)) (V := V) (U := U) (u1 := U1) (u0 := U0) (D1 := D1) (by omega) (by omega) hU2 hD0
  rw [ht.1, ht.2]
  have hcore := div64_core hn ln yn V Y1 Y0 U C U1 U0 D1 U2 D0 k (by omega) h1 (by omega) (by omega) w HZ (by rw [eV, IntKind.wrap_u64]; omega) hY1 (by rw [and32 _ (by omega) (by omega)]; exact hY0) hor eC hU1 (by rw [and32 _ (by omega) (by omega)]; exact hU0) l0 l1 (by omega) (by omega) (by omega) (by omega) (by omega) g1 g2 hU2
  exact hcore
end Go.Proofs.Ytcabpcneiddgcaa
