/-
  Plain mathematics of layer 2: what a float's number is, and what a number's float is.
-/
import Derived.Test.YtnjnbhfpgoondabRealMath
import Derived.Test.YtnjnbhfpgoondabRealApart
import Derived.Test.YtnjnbhfpgoondabMul
import Derived.Test.YtnjnbhfpgoondabRealWords
namespace Go.Proofs.Ytnjnbhfpgoondab
open Go.RowKit

/-- The number that a float stands for, or why there is none. -/
def ofR (b : Int) : Int × Int :=
  if kindR b < 2 then (0, 2) else if 0 ≤ powR b then (0, 3) else
  if 1000000000000000000 < halfEven (sizeR b * 1000000) (2 ^ (-powR b).toNat) then (0, 3) else (put (fNeg b) (halfEven (sizeR b * 1000000) (2 ^ (-powR b).toNat)), 0)

theorem near_half {N d h : Int} (hd : d = 2 * h) (_h0 : 0 < h) : nearR (N / d) (N % d) h = halfEven N d := by
  unfold nearR halfEven
  generalize N % d = l
  generalize N / d = q
  subst hd
  by_cases c1 : l = h
  · rw [if_pos c1]
    by_cases c2 : q % 2 = 1
    · rw [if_pos (Or.inr ⟨by omega, c2⟩), c2]
    · rw [if_neg (by omega)]; omega
  · rw [if_neg c1]
    by_cases c2 : h < l
    · rw [if_pos c2, if_pos (by omega)]
    · rw [if_neg c2, if_neg (by omega)]
theorem half_small {N d : Int} (h0 : 0 ≤ N) (h1 : 2 * N < d) : halfEven N d = 0 := by
  unfold halfEven
  have e1 : N / d = 0 := Int.ediv_eq_zero_of_lt h0 (by omega)
  have e2 : N % d = N := Int.emod_eq_of_lt h0 (by omega)
  rw [e1, e2, if_neg (by omega)]
theorem half_ge {N d : Int} : N / d ≤ halfEven N d := by unfold halfEven; split <;> omega
theorem half_le {N d : Int} : halfEven N d ≤ N / d + 1 := by unfold halfEven; split <;> omega
theorem half_exact {N d : Int} (hd : 0 < d) (h : N % d = 0) : halfEven N d = N / d := by
  unfold halfEven; rw [h, if_neg (by omega)]
/-- Rounding does not go over. -/
theorem over_same {m P : Int} (_h0 : 0 ≤ m) (h1 : m < 9007199254740992) (hP : 0 < P) : 1000000000000000000 < halfEven (m * 1000000) P ↔ 1000000000000000000 < m * 1000000 / P := by
  constructor
  · intro h
    rcases Int.lt_or_le 1000000000000000000 (m * 1000000 / P) with c | c
    · exact c
    · exfalso
      have hl := half_le (N := m * 1000000) (d := P)
      have hq : m * 1000000 / P = 1000000000000000000 := by omega
      have hr0 := Int.emod_nonneg (m * 1000000) (b := P) (by omega)
      have hr1 := Int.emod_lt_of_pos (m * 1000000) hP
      have hdm := Int.mul_ediv_add_emod (m * 1000000) P
      rw [hq] at hdm
      have hz : m * 1000000 % P = 0 := by
        generalize m * 1000000 % P = l at *
        omega
      rw [half_exact hP hz, hq] at h
      omega
  · intro h
    have := half_ge (N := m * 1000000) (d := P)
    omega
theorem powR_bd (b : Int) : -1074 ≤ powR b ∧ powR b ≤ 972 := by
  unfold powR; have := fExp_bd b; split <;> omega
theorem sizeR_bd (b : Int) : 0 ≤ sizeR b ∧ sizeR b < 9007199254740992 := by
  unfold sizeR; have := fPart_bd b; split <;> omega
theorem pow_nat (k : Nat) : ((2 ^ k : Nat) : Int) = 2 ^ k := by simp

/-- v is the rest of the bits of the float that is nearest to s millionths. -/
def ToIs (s v : Int) : Prop := ∃ j : Nat, 13 ≤ j ∧ j ≤ 72 ∧ 4503599627370496000000 ≤ s * 2 ^ j ∧ s * 2 ^ j < 9007199254740992000000 ∧ v = (1075 - j) * 4503599627370496 + (halfEven (s * 2 ^ j) 1000000 - 4503599627370496)
theorem pow_step (s : Int) (j : Nat) : s * 2 ^ (j + 1) = 2 * (s * 2 ^ j) := by
  rw [Int.pow_succ, ← Int.mul_assoc, Int.mul_comm]
theorem pow_mono {s : Int} (h : 0 ≤ s) (j d : Nat) : s * 2 ^ j ≤ s * 2 ^ (j + d) := by
  induction d with
  | zero => exact Int.le_refl _
  | succ d ih =>
    have e := pow_step s (j + d)
    have p : 0 ≤ s * 2 ^ (j + d) := Int.mul_nonneg h (Int.le_of_lt (two_pow_pos _))
    rw [show j + (d + 1) = j + d + 1 from rfl, e]; omega
theorem to_j {s : Int} (h : 0 ≤ s) {j k : Nat} (a : 4503599627370496000000 ≤ s * 2 ^ j) (b : s * 2 ^ k < 9007199254740992000000) : k ≤ j := by
  rcases Nat.lt_or_ge j k with c | c
  · exfalso
    obtain ⟨d, rfl⟩ := Nat.exists_eq_add_of_le (show j + 1 ≤ k from c)
    have m := pow_mono h (j + 1) d
    have e := pow_step s j
    omega
  · exact c
theorem ToIs.unique {s v v' : Int} (hs : 0 ≤ s) (h : ToIs s v) (h' : ToIs s v') : v = v' := by
  obtain ⟨j, _, _, j2, j3, e⟩ := h
  obtain ⟨k, _, _, k2, k3, e'⟩ := h'
  have a := to_j hs j2 k3
  have b := to_j hs k2 j3
  have c : j = k := by omega
  subst c
  rw [e, e']
theorem to_j_bd {s : Int} (h0 : 1 ≤ s) (h1 : s ≤ 1000000000000000000) {j : Nat} (j2 : 4503599627370496000000 ≤ s * 2 ^ j) (j3 : s * 2 ^ j < 9007199254740992000000) : 13 ≤ j ∧ j ≤ 72 := by
  constructor
  · rcases Nat.lt_or_ge j 13 with c | c
    · exfalso
      obtain ⟨d, hd⟩ := Nat.exists_eq_add_of_le (show j ≤ 12 by omega)
      have m := pow_mono (s := s) (by omega) j d
      rw [← hd] at m
      have : s * 2 ^ 12 = s * 4096 := rfl
      omega
    · exact c
  · rcases Nat.lt_or_ge 72 j with c | c
    · exfalso
      obtain ⟨d, rfl⟩ := Nat.exists_eq_add_of_le (show 73 ≤ j from c)
      have m := pow_mono (s := s) (by omega) 73 d
      have : s * 2 ^ 73 = s * 9444732965739290427392 := rfl
      omega
    · exact c
/-- The rest of the bits, where s is doubled j times. -/
def toVal (s : Int) (j : Nat) : Int := (1075 - (j : Int)) * 4503599627370496 + (halfEven (s * 2 ^ j) 1000000 - 4503599627370496)
/-- .. doubled from n on, till it is great enough. -/
def toFrom (s : Int) (n : Nat) : Int := if _h : n < 73 then (if s * 2 ^ n < 4503599627370496000000 then toFrom s (n + 1) else toVal s n) else toVal s n
/-- The rest of the bits of the float that is nearest to s millionths. -/
def toB (s : Int) : Int := toFrom s 0
theorem toFrom_is {s : Int} (h0 : 1 ≤ s) : ∀ d n : Nat, n + d = 73 → s * 2 ^ n < 9007199254740992000000 → ∃ j : Nat, 4503599627370496000000 ≤ s * 2 ^ j ∧ s * 2 ^ j < 9007199254740992000000 ∧ toFrom s n = toVal s j
  | 0, n, hn, h => by
    exfalso
    have en : n = 73 := by omega
    subst en
    have e : s * 2 ^ 73 = s * 9444732965739290427392 := rfl
    omega
  | d + 1, n, hn, h => by
    have e := pow_step s n
    rw [toFrom, dif_pos (by omega)]
    split
    · exact toFrom_is h0 d (n + 1) (by omega) (by omega)
    · exact ⟨n, by omega, h, rfl⟩
theorem toB_is {s : Int} (h0 : 1 ≤ s) (h1 : s ≤ 1000000000000000000) : ToIs s (toB s) := by
  obtain ⟨j, j2, j3, e⟩ := toFrom_is h0 73 0 rfl (by rw [Int.pow_zero]; omega)
  obtain ⟨b1, b2⟩ := to_j_bd h0 h1 j2 j3
  exact ⟨j, b1, b2, j2, j3, e⟩
theorem toB_eq {s v : Int} (h0 : 1 ≤ s) (h1 : s ≤ 1000000000000000000) (h : ToIs s v) : toB s = v := (toB_is h0 h1).unique (by omega) h
theorem toB_bd {s : Int} (h0 : 1 ≤ s) (h1 : s ≤ 1000000000000000000) : 4503599627370496 ≤ toB s ∧ toB s < 4841369599423283200 := by
  obtain ⟨j, a, b, j2, j3, e⟩ := toB_is h0 h1
  have q0 : 4503599627370496 ≤ s * 2 ^ j / 1000000 := by omega
  have q1 : s * 2 ^ j / 1000000 < 9007199254740992 := by omega
  have g := half_ge (N := s * 2 ^ j) (d := 1000000)
  have l := half_le (N := s * 2 ^ j) (d := 1000000)
  omega
/-- The bits of a number's float, or why there is none. -/
def toR (n : Int) : Int × Int := if fitsB n then (if n = 0 then (0, 0) else if n < 0 then (9223372036854775808 + toB (-n), 0) else (toB n, 0)) else (0, 2)
/-- A float's place in the row. -/
def rankR (b : Int) : Int := if kindR b = 0 then 0 else if fNeg b then 18446744073709551615 - b else b + 9223372036854775808
/-- The next float, or why there is none. -/
def nextR (b : Int) : Int × Int := if kindR b = 0 ∨ b = 9218868437227405312 then (0, 2) else if kindR b = 2 then (1, 0) else if fNeg b then (b - 1, 0) else (b + 1, 0)
end Go.Proofs.Ytnjnbhfpgoondab
