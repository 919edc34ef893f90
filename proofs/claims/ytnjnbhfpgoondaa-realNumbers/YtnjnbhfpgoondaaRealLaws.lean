/-
  Plain mathematics of layer 2's outright statements: a float's number rises with the float, a number's float with the number.
-/
import Derived.Test.YtnjnbhfpgoondaaRealNext
import Derived.Test.YtnjnbhfpgoondaaDivMath
namespace Go.Proofs.Ytnjnbhfpgoondaa
open Go.RowKit

/-- A finite float without its sign, in units of the least one. -/
def valR (r : Int) : Int := if r / 4503599627370496 = 0 then r % 4503599627370496 else (4503599627370496 + r % 4503599627370496) * 2 ^ (r / 4503599627370496 - 1).toNat

theorem half_mono {N M d : Int} (hd : 0 < d) (h : N ≤ M) : halfEven N d ≤ halfEven M d := by
  have q := Int.ediv_le_ediv hd h
  have a1 := Int.mul_ediv_add_emod N d
  have a2 := Int.mul_ediv_add_emod M d
  rcases Int.lt_or_le (N / d) (M / d) with c | c
  · have g := half_ge (N := M) (d := d)
    have l := half_le (N := N) (d := d)
    omega
  · have e : N / d = M / d := by omega
    unfold halfEven
    rw [e] at a1 ⊢
    have hr : N % d ≤ M % d := by omega
    generalize N % d = r at *
    generalize M % d = s at *
    generalize M / d = z at *
    clear a1 a2 e q c h
    split
    · split
      · omega
      · omega
    · split <;> omega
theorem half_scale {N d c : Int} (hc : 0 < c) : halfEven (N * c) (d * c) = halfEven N d := by
  have s := scaled (X := N) (y := d) (p := c) hc
  have e : N * c % (d * c) = N % d * c := by rw [Int.mul_comm N, Int.mul_comm d, Int.mul_emod_mul_of_pos _ _ hc, Int.mul_comm]
  unfold halfEven
  rw [s.1, e]
  have e1 : d * c < 2 * (N % d * c) ↔ d < 2 * (N % d) := by
    rw [← Int.mul_assoc]; exact ⟨fun h => Int.lt_of_mul_lt_mul_right h (Int.le_of_lt hc), fun h => Int.mul_lt_mul_of_pos_right h hc⟩
  have e2 : 2 * (N % d * c) = d * c ↔ 2 * (N % d) = d := by
    rw [← Int.mul_assoc]; exact ⟨fun h => Int.eq_of_mul_eq_mul_right (by omega) h, fun h => by rw [h]⟩
  simp only [e1, e2]
theorem half_near {x s d : Int} (h1 : 2 * (x - s * d) < d) (h2 : 2 * (s * d - x) < d) : halfEven x d = s := by
  have hd : 0 < d := by omega
  rcases Int.lt_or_le x (s * d) with c | c
  · have q : x / d = s - 1 := by
      have := Int.mul_ediv_add_emod x d
      have r0 := Int.emod_nonneg x (b := d) (by omega)
      have r1 := Int.emod_lt_of_pos x hd
      have u : x / d < s := Int.ediv_lt_of_lt_mul hd c
      have v : s - 1 ≤ x / d := by
        rw [Int.le_ediv_iff_mul_le hd, Int.sub_mul]; omega
      omega
    have e : x % d = x - (s * d - d) := by
      have := Int.mul_ediv_add_emod x d
      rw [q, Int.mul_sub, Int.mul_comm d s] at this; omega
    unfold halfEven
    rw [q, e, if_pos (by omega)]; omega
  · have q : x / d = s := by
      have u : s ≤ x / d := by rw [Int.le_ediv_iff_mul_le hd]; exact c
      have v : x / d < s + 1 := by
        refine Int.ediv_lt_of_lt_mul hd ?_
        rw [Int.add_mul]; omega
      omega
    have e : x % d = x - s * d := by
      have := Int.mul_ediv_add_emod x d
      rw [q, Int.mul_comm d s] at this; omega
    unfold halfEven
    rw [q, e, if_neg (by omega)]
theorem half_off {N d : Int} (hd : 0 < d) : 2 * (halfEven N d * d - N) ≤ d ∧ 2 * (N - halfEven N d * d) ≤ d := by
  have a1 := Int.mul_ediv_add_emod N d
  have r0 := Int.emod_nonneg N (b := d) (by omega)
  have r1 := Int.emod_lt_of_pos N hd
  unfold halfEven
  split
  · rw [Int.add_mul, Int.mul_comm (N / d) d]; omega
  · rw [Int.mul_comm (N / d) d]; omega

theorem pow_split {a b : Nat} (h : a ≤ b) : (2 : Int) ^ b = 2 ^ a * 2 ^ (b - a) := by
  rw [← Int.pow_add]; congr 1; omega
theorem val_step (r : Int) (h : 0 ≤ r) : valR r < valR (r + 1) := by
  unfold valR
  have c : (r + 1) % 4503599627370496 = r % 4503599627370496 + 1 ∧ (r + 1) / 4503599627370496 = r / 4503599627370496 ∨ r % 4503599627370496 = 4503599627370495 ∧ (r + 1) % 4503599627370496 = 0 ∧ (r + 1) / 4503599627370496 = r / 4503599627370496 + 1 := by omega
  have m0 : 0 ≤ r % 4503599627370496 := by omega
  have q0 : 0 ≤ r / 4503599627370496 := by omega
  generalize r % 4503599627370496 = m at *
  generalize r / 4503599627370496 = q at *
  rcases c with ⟨e1, e2⟩ | ⟨e1, e2, e3⟩
  · rw [e1, e2]
    split
    · omega
    · exact Int.mul_lt_mul_of_pos_right (by omega) (two_pow_pos _)
  · rw [e2, e3, if_neg (show ¬ (q + 1 = 0) by omega), e1]
    split
    · rename_i z
      rw [z]; decide
    · obtain ⟨k, hk⟩ : ∃ k : Nat, q = k + 1 := ⟨(q - 1).toNat, by omega⟩
      subst hk
      rw [show ((k : Int) + 1 - 1).toNat = k by omega, show ((k : Int) + 1 + 1 - 1).toNat = k + 1 by omega, Int.pow_succ]
      have p := two_pow_pos k
      generalize (2 : Int) ^ k = P at *
      omega
theorem val_lt {r : Int} (h : 0 ≤ r) : ∀ k : Nat, valR r < valR (r + (k + 1 : Nat))
  | 0 => val_step r h
  | k + 1 => by
    have a := val_lt h k
    have b := val_step (r + (k + 1 : Nat)) (by omega)
    rw [show r + (k + 1 : Nat) + 1 = r + (k + 1 + 1 : Nat) by omega] at b
    omega
theorem val_mono {r s : Int} (h : 0 ≤ r) (hs : r < s) : valR r < valR s := by
  obtain ⟨k, hk⟩ : ∃ k : Nat, s = r + (k + 1 : Nat) := ⟨(s - r - 1).toNat, by omega⟩
  rw [hk]; exact val_lt h k
theorem val_le {r s : Int} (h : 0 ≤ r) (hs : r ≤ s) : valR r ≤ valR s := by
  rcases Int.lt_or_le r s with c | c
  · exact Int.le_of_lt (val_mono h c)
  · have : r = s := by omega
    rw [this]; exact Int.le_refl _
theorem val_nn {r : Int} (h : 0 ≤ r) : 0 ≤ valR r := by
  have a := val_le (r := 0) (s := r) (by decide) h
  have b : valR 0 = 0 := by decide
  omega
/-- The rung of a float: its bits without the sign. -/
def rung (b : Int) : Int := b % 9223372036854775808
theorem rung_parts (b : Int) : rung b / 4503599627370496 = fExp b ∧ rung b % 4503599627370496 = fPart b := by
  unfold rung fExp fPart; omega
theorem val_size (b : Int) : sizeR b * 2 ^ (1074 + powR b).toNat = valR (rung b) := by
  obtain ⟨e1, e2⟩ := rung_parts b
  have bd := fExp_bd b
  unfold valR sizeR powR
  rw [e1, e2]
  by_cases c : fExp b = 0
  · rw [if_pos c, if_pos c, if_pos c]
    show fPart b * 1 = _
    omega
  · rw [if_neg c, if_neg c, if_neg c, show (1074 + (fExp b - 1075)).toNat = (fExp b - 1).toNat by omega]
/-- What a float comes to in millionths, rounded. -/
def millsR (b : Int) : Int := halfEven (valR (rung b) * 1000000) (2 ^ 1074)
theorem mills_eq (b : Int) (h : powR b < 0) : millsR b = halfEven (sizeR b * 1000000) (2 ^ (-powR b).toNat) := by
  have bd := powR_bd b
  unfold millsR
  rw [← val_size b, Int.mul_right_comm, pow_split (a := (-powR b).toNat) (b := 1074) (by omega), show 1074 - (-powR b).toNat = (1074 + powR b).toNat by omega]
  exact half_scale (two_pow_pos _)
theorem mills_big (b : Int) (h : 0 ≤ powR b) : 1000000000000000000 < millsR b := by
  have bd := powR_bd b
  have hs : 4503599627370496 ≤ sizeR b := by
    unfold powR at h; unfold sizeR
    have := fPart_bd b
    split at h
    · omega
    · rename_i c; rw [if_neg c]; omega
  unfold millsR
  rw [← val_size b, Int.mul_right_comm]
  obtain ⟨k, hk⟩ : ∃ k : Nat, (1074 + powR b).toNat = 1074 + k := ⟨(powR b).toNat, by omega⟩
  rw [hk, Int.pow_add, Int.mul_comm (2 ^ 1074 : Int), ← Int.mul_assoc]
  have g := half_ge (N := sizeR b * 1000000 * 2 ^ k * 2 ^ 1074) (d := 2 ^ 1074)
  rw [Int.mul_ediv_cancel _ (Int.ne_of_gt (two_pow_pos 1074))] at g
  have p : (1 : Int) ≤ 2 ^ k := two_pow_pos k
  have m : sizeR b * 1000000 * 1 ≤ sizeR b * 1000000 * 2 ^ k := Int.mul_le_mul_of_nonneg_left p (by omega)
  omega
theorem of_mills (b : Int) : ofR b = if kindR b < 2 then (0, 2) else if 1000000000000000000 < millsR b then (0, 3) else (put (fNeg b) (millsR b), 0) := by
  unfold ofR
  split
  · rfl
  · by_cases c : 0 ≤ powR b
    · rw [if_pos c, if_pos (mills_big b c)]
    · rw [if_neg c, mills_eq b (by omega)]
theorem mills_nn (b : Int) : 0 ≤ millsR b := by
  unfold millsR
  exact halfEven_nn0 (Int.mul_nonneg (val_nn (by unfold rung; omega)) (by decide)) (two_pow_pos _)
theorem mills_mono {a b : Int} (h : rung a ≤ rung b) : millsR a ≤ millsR b := by
  unfold millsR
  exact half_mono (two_pow_pos _) (Int.mul_le_mul_of_nonneg_right (val_le (by unfold rung; omega) h) (by decide))
end Go.Proofs.Ytnjnbhfpgoondaa
