/-
  The contract of the answer's Mean, whole.
-/
import Derived.Test.YtcabpcneiddgcaaRefMean
namespace Go.Proofs.Ytcabpcneiddgcaa
open Go.RowKit

theorem mean_over {H L c : Int} (c0 : 1 ≤ c) (l0 : 0 ≤ L) (k : H / c > 1) : 1000000000000000000 < halfEven (H * 1000000000000000000 + L) c := by
  have h2 : 2000000000000000000 ≤ (H * 1000000000000000000 + L) / c := by
    rw [Int.le_ediv_iff_mul_le (by omega)]
    have : 2 * c ≤ H := by
      rw [← Int.le_ediv_iff_mul_le (by omega)]; omega
    omega
  have := halfEven_le1 (H * 1000000000000000000 + L) c
  omega
theorem mean_signed {h l c : Int} (r : rightB h l = true) (c0 : 1 ≤ c) :
    (sizeH h l / c > 1 → (told (halfEven (h * 1000000000000000000 + l) c)).1 = 0 ∧ (told (halfEven (h * 1000000000000000000 + l) c)).2 = 3) ∧
    (1000000000000000000 < halfEven (sizeH h l * 1000000000000000000 + sizeL h l) c → (told (halfEven (h * 1000000000000000000 + l) c)).1 = 0 ∧ (told (halfEven (h * 1000000000000000000 + l) c)).2 = 3) ∧
    (sizeH h l / c ≤ 1 → halfEven (sizeH h l * 1000000000000000000 + sizeL h l) c ≤ 1000000000000000000 → (told (halfEven (h * 1000000000000000000 + l) c)).1 = (if h < 0 then -halfEven (sizeH h l * 1000000000000000000 + sizeL h l) c else halfEven (sizeH h l * 1000000000000000000 + sizeL h l) c) ∧ (told (halfEven (h * 1000000000000000000 + l) c)).2 = 0) := by
  obtain ⟨b1, b2, b3, b4⟩ := size_bd r
  have nn : 0 ≤ halfEven (sizeH h l * 1000000000000000000 + sizeL h l) c := by
    have a := halfEven_le1 (sizeH h l * 1000000000000000000 + sizeL h l) c
    have b := Int.ediv_nonneg (show 0 ≤ sizeH h l * 1000000000000000000 + sizeL h l by omega) (show 0 ≤ c by omega)
    omega
  have key : 1000000000000000000 < halfEven (sizeH h l * 1000000000000000000 + sizeL h l) c → (told (halfEven (h * 1000000000000000000 + l) c)).1 = 0 ∧ (told (halfEven (h * 1000000000000000000 + l) c)).2 = 3 := by
    intro k
    by_cases s : 0 ≤ h
    · rw [size_pos s] at k
      rw [told_no (fitsB_not (by omega))]; exact ⟨rfl, rfl⟩
    · rw [size_neg (by omega), halfEven_minus _ _ (by omega)] at k
      rw [told_no (fitsB_not (by omega))]; exact ⟨rfl, rfl⟩
  refine ⟨fun k => key (mean_over c0 b3 k), key, ?_⟩
  intro _ k
  by_cases s : 0 ≤ h
  · rw [if_neg (show ¬ h < 0 by omega)]
    rw [size_pos s] at k nn ⊢
    rw [told_yes (fitsB_of (by omega) (by omega))]; exact ⟨rfl, rfl⟩
  · rw [if_pos (show h < 0 by omega)]
    rw [size_neg (by omega), halfEven_minus _ _ (by omega)] at k nn ⊢
    rw [told_yes (fitsB_of (by omega) (by omega)), Int.neg_neg]; exact ⟨rfl, rfl⟩

set_option maxHeartbeats 1000000 in
theorem rmeanW_any (h l c : Int) (w : World) :
    Calls Try.prog 21 #[.agg #[.int .i64 h, .int .i64 l], .int .i64 c] w fun e w' => e = .returned (.tuple #[.int .i64 (meanW h l c).1, .int .i64 (meanW h l c).2]) ∧ Below w.heap.size w w' := by
  have HC : Hid (∀ W : World, Calls Try.prog 28 #[.agg #[.int .i64 h, .int .i64 l]] W fun e w' => e = .returned (.bool (rightB h l)) ∧ w' = W.alloc (.cells #[.int .i64 h, .int .i64 l] 23)) := fun W => right_any _ _ W
  cases r : rightB h l
  · rw [show meanW h l c = (0, 2) by simp [meanW, r]]
    rw [r] at HC
    clear r
    go_enter Try.func21, Try.ntmps21
    go_wp2_with (first | (go_at_call 28; refine (HC.out _).mono ?_; rintro e w1 ⟨rfl, rfl⟩))
    go_ret2
    refine ⟨rfl, ?_⟩
    repeat' (first | with_reducible exact Below.refl _ _ | with_reducible refine Below.setCell ?_ ?_ _ | with_reducible refine Below.alloc ?_ ?_ _ | with_reducible refine below_drewN ?_ _ | with_reducible refine Below.drew ?_ | with_reducible refine Below.trans ?_ (Below.mono (by assumption) ?_) | with_reducible exact Nat.le_refl _ | with_reducible refine Nat.le_trans ?_ (Below.size (by assumption)) | (simp; done) | (simp; omega) | omega)
  · rw [r] at HC
    by_cases c0 : c < 1
    · rw [show meanW h l c = (0, 2) by unfold meanW; rw [decide_eq_false (show ¬ 1 ≤ c by omega)]; simp]
      clear r
      go_enter Try.func21, Try.ntmps21
      go_wp2_with (first | (go_at_call 28; refine (HC.out _).mono ?_; rintro e w1 ⟨rfl, rfl⟩))
      go_ret2
      refine ⟨rfl, ?_⟩
      repeat' (first | with_reducible exact Below.refl _ _ | with_reducible refine Below.setCell ?_ ?_ _ | with_reducible refine Below.alloc ?_ ?_ _ | with_reducible refine below_drewN ?_ _ | with_reducible refine Below.drew ?_ | with_reducible refine Below.trans ?_ (Below.mono (by assumption) ?_) | with_reducible exact Nat.le_refl _ | with_reducible refine Nat.le_trans ?_ (Below.size (by assumption)) | (simp; done) | (simp; omega) | omega)
    · by_cases c1 : 2147483648 < c
      · rw [show meanW h l c = (0, 2) by unfold meanW; rw [decide_eq_false (show ¬ c ≤ 2147483648 by omega)]; simp]
        clear r
        go_enter Try.func21, Try.ntmps21
        go_wp2_with (first | (go_at_call 28; refine (HC.out _).mono ?_; rintro e w1 ⟨rfl, rfl⟩))
        go_ret2
        refine ⟨rfl, ?_⟩
        repeat' (first | with_reducible exact Below.refl _ _ | with_reducible refine Below.setCell ?_ ?_ _ | with_reducible refine Below.alloc ?_ ?_ _ | with_reducible refine below_drewN ?_ _ | with_reducible refine Below.drew ?_ | with_reducible refine Below.trans ?_ (Below.mono (by assumption) ?_) | with_reducible exact Nat.le_refl _ | with_reducible refine Nat.le_trans ?_ (Below.size (by assumption)) | (simp; done) | (simp; omega) | omega)
      · rw [show meanW h l c = told (halfEven (h * 1000000000000000000 + l) c) by unfold meanW; rw [r, decide_eq_true (show 1 ≤ c by omega), decide_eq_true (show c ≤ 2147483648 by omega)]; rfl]
        obtain ⟨b1, b2, b3, b4⟩ := size_bd r
        exact rmean_tail h l c (sizeH h l) (sizeL h l) _ _ w (by omega) (by omega) b1 b2 b3 b4 HC (fun W => rsize_any h l W r) (mean_signed r (by omega))
end Go.Proofs.Ytcabpcneiddgcaa
