/-
  The contracts of wide.checkBoth, Join, Total, Compare.
-/
import Derived.Test.YtcabpcneiddgcabWide1
import Derived.Deep.RegionHeld3
namespace Go.Proofs.Ytcabpcneiddgcab
open Go.RowKit


set_option maxHeartbeats 400000 in
theorem checkBoth_no (h l g k : Int) (w : World) (r : (rightB h l && rightB g k) = false) :
    Calls Try.prog 7 #[.agg #[.int .i64 h, .int .i64 l], .agg #[.int .i64 g, .int .i64 k]] w fun e w' => e = .returned (.int .i64 2) ∧ Below w.heap.size w w' := by
  have HC : Hid (∀ W : World, Calls Try.prog 9 #[.agg #[.int .i64 h, .int .i64 l]] W fun e w' => e = .returned (.int .i64 (checkR h l)) ∧ w' = W.alloc (.cells #[.int .i64 h, .int .i64 l] 23)) := fun W => check_any _ _ W
  have HD : Hid (∀ W : World, Calls Try.prog 9 #[.agg #[.int .i64 g, .int .i64 k]] W fun e w' => e = .returned (.int .i64 (checkR g k)) ∧ w' = W.alloc (.cells #[.int .i64 g, .int .i64 k] 23)) := fun W => check_any _ _ W
  cases r1 : rightB h l
  · rw [checkR_no r1] at HC
    clear r
    go_enter Try.func7, Try.ntmps7
    go_wp2_with (first | (go_at_call 9; refine (HC.out _).mono ?_; rintro e w1 ⟨rfl, rfl⟩))
    go_ret
    refine ⟨rfl, ?_⟩
    repeat' (first | with_reducible exact Below.refl _ _ | with_reducible refine Below.setCell ?_ ?_ _ | with_reducible refine Below.alloc ?_ ?_ _ | with_reducible refine below_drewN ?_ _ | with_reducible refine Below.drew ?_ | with_reducible refine Below.trans ?_ (Below.mono (by assumption) ?_) | with_reducible exact Nat.le_refl _ | with_reducible refine Nat.le_trans ?_ (Below.size (by assumption)) | (simp; done) | (simp; omega) | omega)
  · rw [checkR_yes r1] at HC
    rw [r1] at r
    rw [checkR_no (by simpa using r)] at HD
    clear r r1
    go_enter Try.func7, Try.ntmps7
    go_wp2_with (first | (go_at_call_of 9 [Value.agg #[Value.int IntKind.i64 h, Value.int IntKind.i64 l]]; refine (HC.out _).mono ?_; rintro e w1 ⟨rfl, rfl⟩) | (go_at_call_of 9 [Value.agg #[Value.int IntKind.i64 g, Value.int IntKind.i64 k]]; refine (HD.out _).mono ?_; rintro e w1 ⟨rfl, rfl⟩))
    go_ret
    refine ⟨rfl, ?_⟩
    repeat' (first | with_reducible exact Below.refl _ _ | with_reducible refine Below.setCell ?_ ?_ _ | with_reducible refine Below.alloc ?_ ?_ _ | with_reducible refine below_drewN ?_ _ | with_reducible refine Below.drew ?_ | with_reducible refine Below.trans ?_ (Below.mono (by assumption) ?_) | with_reducible exact Nat.le_refl _ | with_reducible refine Nat.le_trans ?_ (Below.size (by assumption)) | (simp; done) | (simp; omega) | omega)
set_option maxHeartbeats 400000 in
theorem checkBoth_yes (h l g k : Int) (w : World) (r : rightB h l = true) (s : rightB g k = true) :
    Calls Try.prog 7 #[.agg #[.int .i64 h, .int .i64 l], .agg #[.int .i64 g, .int .i64 k]] w fun e w' => e = .returned (.int .i64 0) ∧ w' = (((w.alloc (.cells #[.int .i64 h, .int .i64 l] 23)).alloc (.cells #[.int .i64 g, .int .i64 k] 23)).alloc (.cells #[.int .i64 h, .int .i64 l] 23)).alloc (.cells #[.int .i64 g, .int .i64 k] 23) := by
  have HC : Hid (∀ W : World, Calls Try.prog 9 #[.agg #[.int .i64 h, .int .i64 l]] W fun e w' => e = .returned (.int .i64 (checkR h l)) ∧ w' = W.alloc (.cells #[.int .i64 h, .int .i64 l] 23)) := fun W => check_any _ _ W
  have HD : Hid (∀ W : World, Calls Try.prog 9 #[.agg #[.int .i64 g, .int .i64 k]] W fun e w' => e = .returned (.int .i64 (checkR g k)) ∧ w' = W.alloc (.cells #[.int .i64 g, .int .i64 k] 23)) := fun W => check_any _ _ W
  rw [checkR_yes r] at HC
  rw [checkR_yes s] at HD
  go_enter Try.func7, Try.ntmps7
  go_wp2_with (first | (go_at_call_of 9 [Value.agg #[Value.int IntKind.i64 h, Value.int IntKind.i64 l]]; refine (HC.out _).mono ?_; rintro e w1 ⟨rfl, rfl⟩) | (go_at_call_of 9 [Value.agg #[Value.int IntKind.i64 g, Value.int IntKind.i64 k]]; refine (HD.out _).mono ?_; rintro e w1 ⟨rfl, rfl⟩))
  go_ret
  exact ⟨rfl, rfl⟩

end Go.Proofs.Ytcabpcneiddgcab
