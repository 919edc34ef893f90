/-
  Plain facts: whole numbers' products, powers, roots, factorials.
-/
import Derived.Test.YtfopebfejmlhbabMa0
import Derived.Test.YtfopebfejmlhbabMRm
namespace Go.Proofs.Ytfopebfejmlhbab
open Go.RowKit

theorem half_exact (q : Int) : halfEven (q * 1000000) 1000000 = q := by
  have h1 : q * 1000000 / 1000000 = q := by omega
  have h2 : q * 1000000 % 1000000 = 0 := by omega
  unfold halfEven
  rw [h1, h2]
  rfl
theorem absI_mul_whole {q k : Int} (hk : 0 ≤ k) : absI (q * k) = absI q * k := by
  unfold absI
  by_cases h : q < 0
  · rw [if_pos h]
    by_cases z : k = 0
    · subst z; simp
    · have : q * k < 0 := Int.mul_neg_of_neg_of_pos h (by omega)
      rw [if_pos this, Int.neg_mul]
  · have : 0 ≤ q * k := Int.mul_nonneg (by omega) hk
    rw [if_neg h, if_neg (by omega)]
/-- A number times a whole one. -/
theorem mul_whole {q k : Int} (hq : fitsB q = true) (h0 : 0 ≤ k) (h1 : k ≤ 1000000000000) :
    mulR q (k * 1000000) = if 1000000000000000000 < absI q * k then (0, 3) else (q * k, 0) := by
  rw [mulR_good hq (fitsB_of (by omega) (by omega)), absI_pos (n := k * 1000000) (by omega), ← Int.mul_assoc, half_exact]
  split
  · rfl
  · have h3 : decide (k * 1000000 < 0) = false := by rw [decide_eq_false_iff_not]; omega
    rw [h3]
    by_cases h : q < 0
    · rw [decide_eq_true h, absI_neg h]
      show (put true _, (0 : Int)) = _
      unfold put
      rw [if_pos rfl, Int.neg_mul, Int.neg_neg]
    · rw [decide_eq_false h, absI_pos (by omega)]
      rfl
theorem mul_one {n : Int} (hn : fitsB n = true) : mulR 1000000 n = (n, 0) := by
  obtain ⟨h1, h2⟩ := fitsB_true hn
  have hb := absI_le h1 h2
  rw [mulR_good (by decide) hn, show absI 1000000 * absI n = absI n * 1000000 from Int.mul_comm _ _, half_exact, if_neg (by omega)]
  by_cases h : n < 0
  · rw [decide_eq_true h, absI_neg h]
    show (put true _, (0 : Int)) = _
    unfold put
    rw [if_pos rfl, Int.neg_neg]
  · rw [decide_eq_false h, absI_pos (by omega)]
    rfl
theorem half_nn {N : Int} (hN : 0 ≤ N) : 0 ≤ halfEven N 1000000 := by unfold halfEven; split <;> omega
theorem mulR_fits {a b : Int} (ha : fitsB a = true) (hb : fitsB b = true) (h : (mulR a b).2 = 0) : fitsB (mulR a b).1 = true := by
  have hN : 0 ≤ absI a * absI b := Int.mul_nonneg (absI_nn a) (absI_nn b)
  have hh := half_nn hN
  rw [mulR_good ha hb] at h ⊢
  split at h
  · exact absurd h (by decide)
  · rename_i hx
    rw [if_neg hx]
    show fitsB (put _ _) = true
    unfold put
    split <;> exact fitsB_of (by omega) (by omega)
theorem mulR_no {a b : Int} (ha : fitsB a = true) (hb : fitsB b = true) (h : (mulR a b).2 ≠ 0) : mulR a b = (0, 3) := by
  rw [mulR_good ha hb] at h ⊢
  split at h
  · rename_i hx; rw [if_pos hx]
  · exact absurd rfl h

/-- n times n .., j of them, after one another. -/
def timesR (n : Int) : Nat → Int × Int
  | 0 => (1000000, 0)
  | j + 1 => if (timesR n j).2 = 0 then mulR (timesR n j).1 n else timesR n j
theorem timesR_fits {n : Int} (hn : fitsB n = true) : ∀ j, (timesR n j).2 = 0 → fitsB (timesR n j).1 = true
  | 0, _ => show fitsB 1000000 = true from rfl
  | j + 1, h => by
    unfold timesR at h ⊢
    by_cases z : (timesR n j).2 = 0
    · rw [if_pos z] at h ⊢; exact mulR_fits (timesR_fits hn j z) hn h
    · rw [if_neg z] at h; exact absurd h z
theorem timesR_one {n : Int} (hn : fitsB n = true) : timesR n 1 = (n, 0) := by
  show (if (timesR n 0).2 = 0 then mulR (timesR n 0).1 n else timesR n 0) = _
  exact mul_one hn
theorem timesR_no {n : Int} (hn : fitsB n = true) : ∀ j, (timesR n j).2 ≠ 0 → timesR n j = (0, 3)
  | 0, h => absurd rfl h
  | j + 1, h => by
    unfold timesR at h ⊢
    by_cases z : (timesR n j).2 = 0
    · rw [if_pos z] at h ⊢; exact mulR_no (timesR_fits hn j z) hn h
    · rw [if_neg z]; exact timesR_no hn j z
theorem timesR_mono {n : Int} {j : Nat} (h : (timesR n j).2 ≠ 0) : ∀ m, j ≤ m → timesR n m = timesR n j := by
  intro m
  induction m with
  | zero => intro hm; rw [show j = 0 by omega]
  | succ m ih =>
    intro hm
    by_cases e : j = m + 1
    · rw [e]
    · have h2 := ih (by omega)
      show (if (timesR n m).2 = 0 then mulR (timesR n m).1 n else timesR n m) = _
      rw [if_neg (by rw [h2]; exact h)]; exact h2
/-- What Power makes. -/
def mpowR (n k : Int) : Int × Int :=
  if k.tmod 1000000 ≠ 0 ∨ 1000000000 < absI k ∨ (n = 0 ∧ k = 0) then (0, 2)
  else if (timesR n (absI k / 1000000).toNat).2 ≠ 0 ∨ 0 ≤ k then timesR n (absI k / 1000000).toNat
  else divR 1000000 (timesR n (absI k / 1000000).toNat).1

/-- r is the number nearest to the root of N (a number times a million), in millionths. -/
structure RootIs (N r : Int) : Prop where
  nn : 0 ≤ r
  le : N ≤ r * (r + 1)
  lt : r = 0 ∨ (r - 1) * r < N
theorem least_nat (P : Nat → Prop) (n : Nat) (h : P n) : ∃ m, P m ∧ ∀ k, k < m → ¬ P k := by
  induction n using Nat.strongRecOn with
  | ind n ih =>
    by_cases c : ∃ k, k < n ∧ P k
    · obtain ⟨k, hk, hp⟩ := c; exact ih k hk hp
    · exact ⟨n, h, fun k hk hp => c ⟨k, hk, hp⟩⟩
theorem root_exists {N : Int} (h : 0 ≤ N) : ∃ r, RootIs N r := by
  obtain ⟨m, hm, hl⟩ := least_nat (fun r => N ≤ (r : Int) * ((r : Int) + 1)) N.toNat (by
    show N ≤ (N.toNat : Int) * ((N.toNat : Int) + 1)
    rw [Int.toNat_of_nonneg h]
    have : 0 ≤ N * N := Int.mul_nonneg h h
    rw [Int.mul_add, Int.mul_one]; omega)
  refine ⟨(m : Int), by omega, hm, ?_⟩
  cases m with
  | zero => exact Or.inl rfl
  | succ m =>
    right
    have := hl m (by omega)
    have e : ((m + 1 : Nat) : Int) - 1 = (m : Int) := by omega
    rw [e]
    have e2 : ((m + 1 : Nat) : Int) = (m : Int) + 1 := by omega
    rw [e2]; omega
theorem root_lt {M N r s : Int} (hr : RootIs M r) (hs : RootIs N s) (hMN : N ≤ M) : s ≤ r := by
  by_cases c : s ≤ r
  · exact c
  · exfalso
    have h1 := hr.nn
    have h2 := hs.lt
    have h3 : r * (r + 1) ≤ (s - 1) * s := Int.mul_le_mul (by omega) (by omega) (by omega) (by omega)
    have := hr.le
    omega
theorem root_unique {N r s : Int} (hr : RootIs N r) (hs : RootIs N s) : r = s := by
  have := root_lt hr hs (Int.le_refl _)
  have := root_lt hs hr (Int.le_refl _)
  omega
theorem root_le {N r : Int} (hr : RootIs N r) (h : N ≤ 1000000000000000000000000) : r ≤ 1000000000000 := by
  by_cases c : r ≤ 1000000000000
  · exact c
  · exfalso
    have h2 := hr.lt
    have h3 : (1000000000000 : Int) * 1000000000001 ≤ (r - 1) * r := Int.mul_le_mul (by omega) (by omega) (by omega) (by omega)
    omega
/-- The root's square. -/
theorem root_square {n r : Int} (h0 : 0 ≤ n) (h1 : n ≤ 1000000000000000000) (hr : RootIs (n * 1000000) r) :
    ∃ s, mulR r r = (s, 0) ∧ fitsB s = true ∧ absI (s - n) ≤ r / 1000000 + 1 := by
  have r0 := hr.nn
  have r1 := root_le hr (by omega)
  have hN0 : 0 ≤ r * r := Int.mul_nonneg r0 r0
  have hN1 : r * r ≤ 1000000000000 * 1000000000000 := Int.mul_le_mul r1 r1 r0 (by omega)
  have a1 := hr.le
  have a2 : r * r - r ≤ n * 1000000 := by
    rcases hr.lt with h | h
    · subst h; omega
    · rw [Int.sub_mul, Int.one_mul] at h; omega
  rw [Int.mul_add, Int.mul_one] at a1
  refine ⟨halfEven (r * r) 1000000, ?_, ?_, ?_⟩
  · rw [mulR_good (fitsB_of (by omega) (by omega)) (fitsB_of (by omega) (by omega)), absI_pos r0, bne_self_eq_false]
    rw [if_neg]
    · rfl
    · generalize r * r = q at *; unfold halfEven; split <;> omega
  · generalize r * r = q at *
    refine fitsB_of ?_ ?_ <;> (unfold halfEven; split <;> omega)
  · generalize r * r = q at *
    have hd : q / 1000000 ≤ halfEven q 1000000 ∧ halfEven q 1000000 ≤ q / 1000000 + 1 := by unfold halfEven; split <;> omega
    have he : 2 * (q - halfEven q 1000000 * 1000000) ≤ 1000000 ∧ -1000000 ≤ 2 * (q - halfEven q 1000000 * 1000000) := by unfold halfEven; split <;> omega
    generalize halfEven q 1000000 = s at *
    unfold absI
    split <;> omega

def fa : Nat → Nat
  | 0 => 1
  | k + 1 => fa k * (k + 1)
theorem fa_pos : ∀ k, 1 ≤ fa k
  | 0 => by decide
  | k + 1 => by
    show 1 ≤ fa k * (k + 1)
    exact Nat.mul_pos (fa_pos k) (by omega)
theorem fa_le {k : Nat} (h : k ≤ 14) : fa k ≤ 87178291200 := by
  have key : k = 0 ∨ k = 1 ∨ k = 2 ∨ k = 3 ∨ k = 4 ∨ k = 5 ∨ k = 6 ∨ k = 7 ∨ k = 8 ∨ k = 9 ∨ k = 10 ∨ k = 11 ∨ k = 12 ∨ k = 13 ∨ k = 14 := by omega
  rcases key with rfl | rfl | rfl | rfl | rfl | rfl | rfl | rfl | rfl | rfl | rfl | rfl | rfl | rfl | rfl <;> decide
/-- What Fact makes. -/
def mfactR (n : Int) : Int × Int := if n < 0 then (0, 2) else if (n / 1000000).toNat ≤ 14 then ((fa (n / 1000000).toNat : Int) * 1000000, 0) else (0, 3)
theorem fa_step {j : Nat} (h : j ≤ 14) : mulR ((fa j : Int) * 1000000) (((j : Int) + 1) * 1000000) = if j = 14 then (0, 3) else ((fa (j + 1) : Int) * 1000000, 0) := by
  have h1 := fa_le h
  have h2 := fa_pos j
  rw [mul_whole (fitsB_of (by omega) (by omega)) (by omega) (by omega), absI_pos (by omega)]
  by_cases c : j = 14
  · subst c; rfl
  · have h3 := fa_le (k := j + 1) (by omega)
    have e : (fa j : Int) * 1000000 * ((j : Int) + 1) = (fa (j + 1) : Int) * 1000000 := by
      show _ = ((fa j * (j + 1) : Nat) : Int) * 1000000
      rw [Int.natCast_mul, Int.mul_assoc, Int.mul_comm 1000000, ← Int.mul_assoc]; rfl
    rw [if_neg c, e, if_neg (by omega)]
end Go.Proofs.Ytfopebfejmlhbab
