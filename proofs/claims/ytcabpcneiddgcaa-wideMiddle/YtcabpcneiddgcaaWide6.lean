/-
  The contract of wide.Total.
-/
import Derived.Test.YtcabpcneiddgcaaWide1
import Derived.Deep.RegionHeld3
namespace Go.Proofs.Ytcabpcneiddgcaa
open Go.RowKit

theorem wid_lo (W : World) : Calls Try.prog 27 #[.int .i64 (-1000000000000000000)] W fun e w' => e = .returned (.agg #[.int .i64 (-1), .int .i64 0]) ∧ ∃ m, w' = (((W.alloc (.cells #[.int .i64 0, .int .i64 0] 23)).drewN m).setCell ⟨W.heap.size, 0, none⟩ (.int .i64 (-1))).setCell ⟨W.heap.size, 1, none⟩ (.int .i64 0) :=
  widened_any (-1000000000000000000) W (by decide) (by decide)
theorem wid_hi (W : World) : Calls Try.prog 27 #[.int .i64 1000000000000000000] W fun e w' => e = .returned (.agg #[.int .i64 1, .int .i64 0]) ∧ ∃ m, w' = (((W.alloc (.cells #[.int .i64 0, .int .i64 0] 23)).drewN m).setCell ⟨W.heap.size, 0, none⟩ (.int .i64 1)).setCell ⟨W.heap.size, 1, none⟩ (.int .i64 0) :=
  widened_any 1000000000000000000 W (by decide) (by decide)

set_option maxHeartbeats 4000000 in
theorem totalW_tail (h l : Int) (w : World) (r1 : 0 ≤ l) (r2 : l < 1000000000000000000) (r3 : -2147483648 ≤ h) (r4 : h < 2147483648) (c1 : -1 ≤ h)
    (HC : Hid (∀ W : World, Calls Try.prog 15 #[.agg #[.int .i64 h, .int .i64 l]] W fun e w' => e = .returned (.int .i64 0) ∧ w' = W.alloc (.cells #[.int .i64 h, .int .i64 l] 23)))
    (HL : Hid (∀ W : World, Calls Try.prog 32 #[.agg #[.int .i64 h, .int .i64 l], .agg #[.int .i64 (-1), .int .i64 0]] W fun e w' => e = .returned (.bool false) ∧ w' = (W.alloc (.cells #[.int .i64 h, .int .i64 l] 23)).alloc (.cells #[.int .i64 (-1), .int .i64 0] 23))) :
    Calls Try.prog 18 #[.agg #[.int .i64 h, .int .i64 l]] w fun e w' => e = .returned (.tuple #[.int .i64 (told (h * 1000000000000000000 + l)).1, .int .i64 (told (h * 1000000000000000000 + l)).2]) ∧ Below w.heap.size w w' := by
  have HM : Hid (∀ W : World, Calls Try.prog 32 #[.agg #[.int .i64 1, .int .i64 0], .agg #[.int .i64 h, .int .i64 l]] W fun e w' => e = .returned (.bool (decide (1 < h ∨ (1 = h ∧ 0 < l)))) ∧ w' = (W.alloc (.cells #[.int .i64 1, .int .i64 0] 23)).alloc (.cells #[.int .i64 h, .int .i64 l] 23)) := fun W => below_any 1 0 h l W
  by_cases c2 : 1 < h ∨ (1 = h ∧ 0 < l)
  · rw [told_no (fitsB_not (by omega))]
    rw [decide_eq_true c2] at HM
    clear c2
    go_enter Try.func18, Try.ntmps18
    go_wp2_with (first | (go_at_call 15; refine (HC.out _).mono ?_; rintro e w1 ⟨rfl, rfl⟩))
    go_region_with (first | (go_at_call_of 27 [Value.int IntKind.i64 1000000000000000000]; refine (wid_hi _).mono ?_; rintro e w1 ⟨rfl, m2, rfl⟩) | (go_at_call 27; refine (wid_lo _).mono ?_; rintro e w1 ⟨rfl, m, rfl⟩) | (go_at_call_of 32 [Value.agg #[Value.int IntKind.i64 1, Value.int IntKind.i64 0], Value.agg #[Value.int IntKind.i64 h, Value.int IntKind.i64 l]]; refine (HM.out _).mono ?_; rintro e w1 ⟨rfl, rfl⟩) | (go_at_call 32; refine (HL.out _).mono ?_; rintro e w1 ⟨rfl, rfl⟩))
    all_goals go_wp2
    all_goals go_ret2
    all_goals refine ⟨rfl, ?_⟩
    all_goals repeat' (first | with_reducible exact Below.refl _ _ | with_reducible refine Below.setCell ?_ ?_ _ | with_reducible refine Below.alloc ?_ ?_ _ | with_reducible refine below_drewN ?_ _ | with_reducible refine Below.drew ?_ | with_reducible refine Below.trans ?_ (Below.mono (by assumption) ?_) | with_reducible exact Nat.le_refl _ | (simp; done) | (simp; omega) | omega)
  · rw [told_yes (fitsB_of (by omega) (by omega))]
    rw [decide_eq_false c2] at HM
    have c3 : h ≤ 1 := by omega
    clear c2 r3 r4
    go_enter Try.func18, Try.ntmps18
    go_wp2_with (first | (go_at_call 15; refine (HC.out _).mono ?_; rintro e w1 ⟨rfl, rfl⟩))
    go_region_with (first | (go_at_call_of 27 [Value.int IntKind.i64 1000000000000000000]; refine (wid_hi _).mono ?_; rintro e w1 ⟨rfl, m2, rfl⟩) | (go_at_call 27; refine (wid_lo _).mono ?_; rintro e w1 ⟨rfl, m, rfl⟩) | (go_at_call_of 32 [Value.agg #[Value.int IntKind.i64 1, Value.int IntKind.i64 0], Value.agg #[Value.int IntKind.i64 h, Value.int IntKind.i64 l]]; refine (HM.out _).mono ?_; rintro e w1 ⟨rfl, rfl⟩) | (go_at_call 32; refine (HL.out _).mono ?_; rintro e w1 ⟨rfl, rfl⟩))
    all_goals go_wp2
    all_goals go_ret2
    all_goals refine ⟨rfl, ?_⟩
    all_goals repeat' (first | with_reducible exact Below.refl _ _ | with_reducible refine Below.setCell ?_ ?_ _ | with_reducible refine Below.alloc ?_ ?_ _ | with_reducible refine below_drewN ?_ _ | with_reducible refine Below.drew ?_ | with_reducible refine Below.trans ?_ (Below.mono (by assumption) ?_) | with_reducible exact Nat.le_refl _ | (simp; done) | (simp; omega) | omega)

set_option maxHeartbeats 4000000 in
theorem totalW_any (h l : Int) (w : World) :
    Calls Try.prog 18 #[.agg #[.int .i64 h, .int .i64 l]] w fun e w' => e = .returned (.tuple #[.int .i64 (totalW h l).1, .int .i64 (totalW h l).2]) ∧ Below w.heap.size w w' := by
  have HC : Hid (∀ W : World, Calls Try.prog 15 #[.agg #[.int .i64 h, .int .i64 l]] W fun e w' => e = .returned (.int .i64 (checkR h l)) ∧ w' = W.alloc (.cells #[.int .i64 h, .int .i64 l] 23)) := fun W => check_any _ _ W
  cases r : rightB h l
  · rw [show totalW h l = (0, 2) by simp [totalW, r]]
    rw [checkR_no r] at HC
    clear r
    go_enter Try.func18, Try.ntmps18
    go_wp2_with (first | (go_at_call 15; refine (HC.out _).mono ?_; rintro e w1 ⟨rfl, rfl⟩))
    go_ret2
    refine ⟨rfl, ?_⟩
    repeat' (first | with_reducible exact Below.refl _ _ | with_reducible refine Below.setCell ?_ ?_ _ | with_reducible refine Below.alloc ?_ ?_ _ | with_reducible refine below_drewN ?_ _ | with_reducible refine Below.drew ?_ | with_reducible refine Below.trans ?_ (Below.mono (by assumption) ?_) | with_reducible exact Nat.le_refl _ | (simp; done) | (simp; omega) | omega)
  · rw [show totalW h l = told (h * 1000000000000000000 + l) by simp [totalW, r]]
    rw [checkR_yes r] at HC
    obtain ⟨r1, r2, r3, r4⟩ := rightB_true r
    clear r
    have HL : Hid (∀ W : World, Calls Try.prog 32 #[.agg #[.int .i64 h, .int .i64 l], .agg #[.int .i64 (-1), .int .i64 0]] W fun e w' => e = .returned (.bool (decide (h < -1 ∨ (h = -1 ∧ l < 0)))) ∧ w' = (W.alloc (.cells #[.int .i64 h, .int .i64 l] 23)).alloc (.cells #[.int .i64 (-1), .int .i64 0] 23)) := fun W => below_any h l (-1) 0 W
    by_cases c1 : h < -1
    · rw [told_no (fitsB_not (by omega))]
      rw [decide_eq_true (by omega)] at HL
      clear c1
      go_enter Try.func18, Try.ntmps18
      go_wp2_with (first | (go_at_call 15; refine (HC.out _).mono ?_; rintro e w1 ⟨rfl, rfl⟩))
      go_region_with (first | (go_at_call 27; refine (wid_lo _).mono ?_; rintro e w1 ⟨rfl, m, rfl⟩) | (go_at_call 32; refine (HL.out _).mono ?_; rintro e w1 ⟨rfl, rfl⟩))
      all_goals go_wp2
      all_goals go_ret2
      all_goals refine ⟨rfl, ?_⟩
      all_goals repeat' (first | with_reducible exact Below.refl _ _ | with_reducible refine Below.setCell ?_ ?_ _ | with_reducible refine Below.alloc ?_ ?_ _ | with_reducible refine below_drewN ?_ _ | with_reducible refine Below.drew ?_ | with_reducible refine Below.trans ?_ (Below.mono (by assumption) ?_) | with_reducible exact Nat.le_refl _ | (simp; done) | (simp; omega) | omega)
    · rw [decide_eq_false (by omega)] at HL
      exact totalW_tail h l w r1 r2 r3 r4 (by omega) HC HL
end Go.Proofs.Ytcabpcneiddgcaa
