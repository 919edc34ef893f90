/-
  Plain mathematics for the laws that speak without the document's answer.
-/
import Derived.Test.YtjhldifilfkebabDoorRefDiv
namespace Go.Proofs.YtjhldifilfkebabDoor
open Go.RowKit

/-- A rounded number is no farther off than half a step; in the middle it is the even one. -/
theorem half_facts {N d : Int} (hd : 0 < d) : ∃ off : Int, 0 ≤ off ∧ (halfEven N d * d - N = off ∨ N - halfEven N d * d = off) ∧ (off < d - off ∨ (off = d - off ∧ halfEven N d % 2 = 0)) := by
  have e := Int.mul_ediv_add_emod N d
  have r0 := Int.emod_nonneg N (b := d) (by omega)
  have r1 := Int.emod_lt_of_pos N hd
  rw [Int.mul_comm] at e
  unfold halfEven
  by_cases c : d < 2 * (N % d) ∨ (2 * (N % d) = d ∧ N / d % 2 = 1)
  · rw [if_pos c]
    refine ⟨d - N % d, by omega, Or.inl ?_, ?_⟩
    · rw [Int.add_mul]; omega
    · rcases c with c | ⟨c1, c2⟩
      · exact Or.inl (by omega)
      · exact Or.inr ⟨by omega, by omega⟩
  · rw [if_neg c]
    refine ⟨N % d, by omega, Or.inr (by omega), ?_⟩
    by_cases c1 : 2 * (N % d) < d
    · exact Or.inl (by omega)
    · exact Or.inr ⟨by omega, by omega⟩

theorem absI_sub {x y off : Int} (h0 : 0 ≤ off) (h : x - y = off ∨ y - x = off) : absI (x - y) = off := by
  unfold absI; split <;> omega

theorem put_off {n H d off : Int} (h0 : 0 ≤ off) (h : H * d - absI n = off ∨ absI n - H * d = off) : absI (put (decide (n < 0)) (H * d) - n) = off := by
  by_cases hn : n < 0
  · rw [absI_neg hn] at h
    have e : put (decide (n < 0)) (H * d) = -(H * d) := by simp [put, hn]
    rw [e]; exact absI_sub h0 (by omega)
  · rw [absI_pos (by omega)] at h
    have e : put (decide (n < 0)) (H * d) = H * d := by simp [put, hn]
    rw [e]; exact absI_sub h0 (by omega)

theorem put_tmod (neg : Bool) (H d : Int) : (put neg (H * d)).tmod d = 0 := by
  cases neg
  · show (H * d).tmod d = 0
    exact Int.mul_tmod_left _ _
  · show (-(H * d)).tmod d = 0
    rw [Int.neg_tmod, Int.mul_tmod_left]; rfl
theorem put_tdiv (neg : Bool) {H d : Int} (hd : 0 < d) : (put neg (H * d)).tdiv d = put neg H := by
  cases neg
  · show (H * d).tdiv d = H
    exact Int.mul_tdiv_cancel _ (Int.ne_of_gt hd)
  · show (-(H * d)).tdiv d = -H
    rw [Int.neg_tdiv, Int.mul_tdiv_cancel _ (Int.ne_of_gt hd)]
theorem put_even (neg : Bool) {H : Int} (h : H % 2 = 0) : (put neg H).tmod 2 = 0 := by
  have h1 : ∀ x : Int, x % 2 = 0 → x.tmod 2 = 0 := fun x hx => Int.tmod_eq_zero_of_dvd (Int.dvd_of_emod_eq_zero hx)
  cases neg
  · exact h1 _ h
  · exact h1 _ (by show (-H) % 2 = 0; omega)

theorem addR_comm (a b : Int) : addR a b = addR b a := by unfold addR; rw [Bool.and_comm, Int.add_comm]
theorem bne_turn (x y : Bool) : (x != y) = (y != x) := by cases x <;> cases y <;> rfl
theorem mulR_comm (a b : Int) : mulR a b = mulR b a := by
  unfold mulR; rw [Bool.and_comm, Int.mul_comm (absI a), bne_turn]
/-- Sub undoes Add. -/
theorem sub_add {a b : Int} (h : (addR a b).2 = 0) : subR (addR a b).1 b = (a, 0) := by
  unfold addR at *
  cases ha : fitsB a
  · simp [ha] at h
  · cases hb : fitsB b
    · simp [hb] at h
    · simp only [ha, hb, Bool.and_self, if_true] at h ⊢
      cases hs : fitsB (a + b)
      · rw [told_no hs] at h; cases h
      · rw [told_yes hs]
        unfold subR
        show (if fitsB (a + b) && fitsB b then told (a + b - b) else (0, 2)) = (a, 0)
        rw [hs, hb, Int.add_sub_cancel, told_yes ha]; rfl

theorem halfEven_self {N d : Int} (hd : 0 < d) : halfEven (N * d) d = N := by
  unfold halfEven
  rw [Int.mul_emod_left, Int.mul_ediv_cancel _ (Int.ne_of_gt hd), if_neg (by omega)]
theorem put_abs (n : Int) : put (decide (n < 0)) (absI n) = n := by
  unfold put absI
  by_cases h : n < 0
  · simp [h]
  · simp [h]
theorem unit_fits : fitsB 1000000 = true := by decide
theorem mul_unit {a : Int} (ha : fitsB a = true) : mulR a 1000000 = (a, 0) := by
  obtain ⟨a1, a2⟩ := fitsB_true ha
  have x0 := absI_nn a
  have x1 := absI_le a1 a2
  unfold mulR
  have e : (decide (a < 0) != decide ((1000000 : Int) < 0)) = decide (a < 0) := by simp
  have e2 : absI 1000000 = 1000000 := by decide
  rw [ha, unit_fits, e, e2]
  show quoR _ _ _ = _
  rw [quoR_eq _ (by omega) (by decide), halfEven_self (by decide), if_neg (by omega), put_abs]
theorem div_unit {a : Int} (ha : fitsB a = true) : divR a 1000000 = (a, 0) := by
  obtain ⟨a1, a2⟩ := fitsB_true ha
  have x0 := absI_nn a
  have x1 := absI_le a1 a2
  have e0 : divisR a 1000000 = 0 := by unfold divisR; rw [ha, unit_fits]; rfl
  have e : (decide (a < 0) != decide ((1000000 : Int) < 0)) = decide (a < 0) := by simp
  have e2 : absI 1000000 = 1000000 := by decide
  unfold divR
  rw [if_pos e0, e, e2]
  rw [quoR_eq _ (by omega) (by decide), halfEven_self (by decide), if_neg (by omega), put_abs]

/-- What is left is nearer to 0 than what was divided by, and of its sign. -/
theorem fmodR_facts {a b : Int} (hb : b ≠ 0) : fmodR a b ≠ 0 → ((fmodR a b < 0 ↔ b < 0) ∧ absI (fmodR a b) < absI b) := by
  have h := Int.natAbs_tmod a b
  have h1 : (a.tmod b).natAbs < b.natAbs := by rw [h]; exact Nat.mod_lt _ (by omega)
  intro hne
  unfold fmodR at hne ⊢
  clear h
  generalize a.tmod b = r at *
  by_cases c : r ≠ 0 ∧ (decide (r < 0) != decide (b < 0)) = true
  · rw [if_pos c] at hne ⊢
    obtain ⟨c1, c2⟩ := c
    have c3 : (r < 0 ∧ ¬ b < 0) ∨ (¬ r < 0 ∧ b < 0) := by
      by_cases s1 : r < 0 <;> by_cases s2 : b < 0 <;> simp [s1, s2] at c2 ⊢
    unfold absI
    refine ⟨by omega, ?_⟩
    split <;> split <;> omega
  · rw [if_neg c] at hne ⊢
    have c3 : (r < 0 ∧ b < 0) ∨ (¬ r < 0 ∧ ¬ b < 0) := by
      by_cases s1 : r < 0 <;> by_cases s2 : b < 0
      · exact Or.inl ⟨s1, s2⟩
      · exact absurd ⟨hne, by simp [s1, s2]⟩ c
      · exact absurd ⟨hne, by simp [s1, s2]⟩ c
      · exact Or.inr ⟨s1, s2⟩
    unfold absI
    refine ⟨by omega, ?_⟩
    split <;> split <;> omega
end Go.Proofs.YtjhldifilfkebabDoor
