/-
  The contract of wide.Mean.
-/
import Derived.Test.YtcabpcneiddgcaaWide6
import Derived.Test.YtcabpcneiddgcaaWide9
namespace Go.Proofs.Ytcabpcneiddgcaa
open Go.RowKit

theorem mean_total {h l c x : Int} (r : rightB h l = true) (c0 : 1 ≤ c) (hx : x = halfEven (h % c * 1000000000000000000 + l) c) :
    totalW (x / 1000000000000000000 + h / c) (x % 1000000000000000000) = told (halfEven (h * 1000000000000000000 + l) c) := by
  unfold totalW
  rw [if_pos (mean_right r c0 hx), mean_value (by omega) hx]
set_option maxHeartbeats 1000000 in
theorem meanW_any (h l c : Int) (w : World) :
    Calls Try.prog 20 #[.agg #[.int .i64 h, .int .i64 l], .int .i64 c] w fun e w' => e = .returned (.tuple #[.int .i64 (meanW h l c).1, .int .i64 (meanW h l c).2]) ∧ Below w.heap.size w w' := by
  have HC : Hid (∀ W : World, Calls Try.prog 15 #[.agg #[.int .i64 h, .int .i64 l]] W fun e w' => e = .returned (.int .i64 (checkR h l)) ∧ w' = W.alloc (.cells #[.int .i64 h, .int .i64 l] 23)) := fun W => check_any _ _ W
  cases r : rightB h l
  · rw [show meanW h l c = (0, 2) by simp [meanW, r]]
    rw [checkR_no r] at HC
    clear r
    go_enter Try.func20, Try.ntmps20
    go_wp2_with (first | (go_at_call 15; refine (HC.out _).mono ?_; rintro e w1 ⟨rfl, rfl⟩))
    go_ret2
    refine ⟨rfl, ?_⟩
    repeat' (first | with_reducible exact Below.refl _ _ | with_reducible refine Below.setCell ?_ ?_ _ | with_reducible refine Below.alloc ?_ ?_ _ | with_reducible refine below_drewN ?_ _ | with_reducible refine Below.drew ?_ | with_reducible refine Below.trans ?_ (Below.mono (by assumption) ?_) | with_reducible exact Nat.le_refl _ | with_reducible refine Nat.le_trans ?_ (Below.size (by assumption)) | (simp; done) | (simp; omega) | omega)
  · rw [checkR_yes r] at HC
    by_cases c0 : c < 1
    · rw [show meanW h l c = (0, 2) by unfold meanW; rw [decide_eq_false (show ¬ 1 ≤ c by omega)]; simp]
      clear r
      go_enter Try.func20, Try.ntmps20
      go_wp2_with (first | (go_at_call 15; refine (HC.out _).mono ?_; rintro e w1 ⟨rfl, rfl⟩))
      go_ret2
      refine ⟨rfl, ?_⟩
      repeat' (first | with_reducible exact Below.refl _ _ | with_reducible refine Below.setCell ?_ ?_ _ | with_reducible refine Below.alloc ?_ ?_ _ | with_reducible refine below_drewN ?_ _ | with_reducible refine Below.drew ?_ | with_reducible refine Below.trans ?_ (Below.mono (by assumption) ?_) | with_reducible exact Nat.le_refl _ | with_reducible refine Nat.le_trans ?_ (Below.size (by assumption)) | (simp; done) | (simp; omega) | omega)
    · by_cases c1 : 2147483648 < c
      · rw [show meanW h l c = (0, 2) by unfold meanW; rw [decide_eq_false (show ¬ c ≤ 2147483648 by omega)]; simp]
        clear r
        go_enter Try.func20, Try.ntmps20
        go_wp2_with (first | (go_at_call 15; refine (HC.out _).mono ?_; rintro e w1 ⟨rfl, rfl⟩))
        go_ret2
        refine ⟨rfl, ?_⟩
        repeat' (first | with_reducible exact Below.refl _ _ | with_reducible refine Below.setCell ?_ ?_ _ | with_reducible refine Below.alloc ?_ ?_ _ | with_reducible refine below_drewN ?_ _ | with_reducible refine Below.drew ?_ | with_reducible refine Below.trans ?_ (Below.mono (by assumption) ?_) | with_reducible exact Nat.le_refl _ | with_reducible refine Nat.le_trans ?_ (Below.size (by assumption)) | (simp; done) | (simp; omega) | omega)
      · rw [show meanW h l c = told (halfEven (h * 1000000000000000000 + l) c) by unfold meanW; rw [r, decide_eq_true (show 1 ≤ c by omega), decide_eq_true (show c ≤ 2147483648 by omega)]; rfl]
        obtain ⟨x, hx⟩ : ∃ x, x = halfEven (h % c * 1000000000000000000 + l) c := ⟨_, rfl⟩
        have HN : Hid (∀ W : World, Calls Try.prog 33 #[.agg #[.int .i64 h, .int .i64 l], .int .i64 c] W fun e w' => e = .returned (.agg #[.int .i64 (x / 1000000000000000000 + h / c), .int .i64 (x % 1000000000000000000)]) ∧ Below W.heap.size W w') := fun W => nearW_any h l c W r (by omega) (by omega) x hx
        have HT : Hid (∀ W : World, Calls Try.prog 18 #[.agg #[.int .i64 (x / 1000000000000000000 + h / c), .int .i64 (x % 1000000000000000000)]] W fun e w' => e = .returned (.tuple #[.int .i64 (totalW (x / 1000000000000000000 + h / c) (x % 1000000000000000000)).1, .int .i64 (totalW (x / 1000000000000000000 + h / c) (x % 1000000000000000000)).2]) ∧ Below W.heap.size W w') := fun W => totalW_any _ _ W
        rw [mean_total r (by omega) hx] at HT
        generalize (told (halfEven (h * 1000000000000000000 + l) c)).1 = y at *
        generalize (told (halfEven (h * 1000000000000000000 + l) c)).2 = z at *
        generalize x / 1000000000000000000 + h / c = A at *
        generalize x % 1000000000000000000 = B at *
        clear r hx
        go_enter Try.func20, Try.ntmps20
        go_wp2_with (first | (go_at_call 15; refine (HC.out _).mono ?_; rintro e w1 ⟨rfl, rfl⟩) | (go_at_call 33; refine (HN.out _).mono ?_; rintro e w2 ⟨rfl, hb2⟩) | (go_at_call 18; refine (HT.out _).mono ?_; rintro e w3 ⟨rfl, hb3⟩))
        go_ret2
        refine ⟨rfl, ?_⟩
        repeat' (first | with_reducible exact Below.refl _ _ | with_reducible refine Below.setCell ?_ ?_ _ | with_reducible refine Below.alloc ?_ ?_ _ | with_reducible refine below_drewN ?_ _ | with_reducible refine Below.drew ?_ | with_reducible refine Below.trans ?_ (Below.mono (by assumption) ?_) | with_reducible exact Nat.le_refl _ | with_reducible refine Nat.le_trans ?_ (Below.size (by assumption)) | (simp; done) | (simp; omega) | omega)
end Go.Proofs.Ytcabpcneiddgcaa
