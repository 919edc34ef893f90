/-
  The mean of numbers lies between the least and the greatest of them.
-/
import Derived.Test.YtcabpcneiddgcaaWideExactMath
import Derived.Test.YtcabpcneiddgcaaWide9
namespace Go.Proofs.Ytcabpcneiddgcaa
open Go.RowKit

theorem addW_small {h l n : Int} (r : rightB h l = true) (b0 : -1000000000000000000000 ≤ valW h l) (b1 : valW h l ≤ 1000000000000000000000) (f : fitsB n = true) :
    (addW h l n).2.2 = 0 ∧ rightB (addW h l n).1 (addW h l n).2.1 = true ∧ valW (addW h l n).1 (addW h l n).2.1 = valW h l + n := by
  have g := fitsB_true f
  have a := rightB_true r
  unfold valW at b0 b1
  rcases addW_cases (n := n) r with ⟨e1, _, e3, e4⟩ | ⟨e1, e2, e3⟩
  · exact ⟨e1, e3, e4⟩
  · rw [addW_yes r f, madeR_yes (by omega) (by omega)] at e1
    exact absurd e1 (by simp)
theorem sum_bd {f : Nat → Int} {lo hi : Int} : ∀ n : Nat, (∀ j, j < n → lo ≤ f j ∧ f j ≤ hi) → lo * n ≤ sumTo f n ∧ sumTo f n ≤ hi * n
  | 0, _ => by simp [sumTo]
  | n + 1, h => by
    have ih := sum_bd n (fun j hj => h j (by omega))
    have e := h n (by omega)
    show lo * ((n + 1 : Nat) : Int) ≤ sumTo f n + f n ∧ sumTo f n + f n ≤ hi * ((n + 1 : Nat) : Int)
    rw [show ((n + 1 : Nat) : Int) = (n : Int) + 1 by omega, Int.mul_add, Int.mul_add, Int.mul_one, Int.mul_one]
    omega
theorem mean_between {S c lo hi : Int} (c0 : 1 ≤ c) (h0 : lo * c ≤ S) (h1 : S ≤ hi * c) : lo ≤ halfEven S c ∧ halfEven S c ≤ hi := by
  have q0 : lo ≤ S / c := (Int.le_ediv_iff_mul_le (by omega)).2 h0
  have a : S = c * (S / c) + S % c := (Int.mul_ediv_add_emod S c).symm
  have r0 : 0 ≤ S % c := Int.emod_nonneg _ (by omega)
  have b := halfEven_le1 S c
  have q1 : S / c ≤ hi := by
    by_cases k : S / c ≤ hi
    · exact k
    · have : c * (hi + 1) ≤ c * (S / c) := Int.mul_le_mul_of_nonneg_left (by omega) (by omega)
      rw [Int.mul_add, Int.mul_one, Int.mul_comm c hi] at this
      omega
  refine ⟨by omega, ?_⟩
  by_cases k : S / c = hi
  · have z : S % c = 0 := by
      rw [k, Int.mul_comm c hi] at a
      omega
    unfold halfEven
    rw [z, if_neg (by omega)]; omega
  · omega
theorem mean_alike (n c : Int) (c0 : 1 ≤ c) : halfEven (n * c) c = n := by
  have := mean_between (S := n * c) (lo := n) (hi := n) c0 (Int.le_refl _) (Int.le_refl _)
  omega
theorem meanW_told {h l c : Int} (r : rightB h l = true) (c0 : 1 ≤ c) (c1 : c ≤ 2147483648) (f : fitsB (halfEven (valW h l) c) = true) : meanW h l c = (halfEven (valW h l) c, 0) := by
  unfold meanW
  rw [r, decide_eq_true c0, decide_eq_true c1]
  show told (halfEven (valW h l) c) = _
  exact told_yes f
/-- Sums of at most 200 numbers that fit are small. -/
theorem sum_small {f : Nat → Int} {n : Nat} (hn : n ≤ 200) (h : ∀ j, j < n → fitsB (f j) = true) : -1000000000000000000000 ≤ sumTo f n ∧ sumTo f n ≤ 1000000000000000000000 := by
  have := sum_bd (lo := -1000000000000000000) (hi := 1000000000000000000) n (fun j hj => fitsB_true (h j hj))
  omega
end Go.Proofs.Ytcabpcneiddgcaa
