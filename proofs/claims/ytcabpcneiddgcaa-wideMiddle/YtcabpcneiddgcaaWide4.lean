/-
  The contracts of wide.checkBoth, Join, Total, Compare.
-/
import Derived.Test.YtcabpcneiddgcaaWide1
import Derived.Deep.RegionHeld3
namespace Go.Proofs.Ytcabpcneiddgcaa
open Go.RowKit


set_option maxHeartbeats 400000 in
theorem checkBoth_no (h l g k : Int) (w : World) (r : (rightB h l && rightB g k) = false) :
    Calls Try.prog 31 #[.agg #[.int .i64 h, .int .i64 l], .agg #[.int .i64 g, .int .i64 k]] w fun e w' => e = .returned (.int .i64 2) ∧ Below w.heap.size w w' := by
  have HC : Hid (∀ W : World, Calls Try.prog 15 #[.agg #[.int .i64 h, .int .i64 l]] W fun e w' => e = .returned (.int .i64 (checkR h l)) ∧ w' = W.alloc (.cells #[.int .i64 h, .int .i64 l] 23)) := fun W => check_any _ _ W
  have HD : Hid (∀ W : World, Calls Try.prog 15 #[.agg #[.int .i64 g, .int .i64 k]] W fun e w' => e = .returned (.int .i64 (checkR g k)) ∧ w' = W.alloc (.cells #[.int .i64 g, .int .i64 k] 23)) := fun W => check_any _ _ W
  cases r1 : rightB h l
  · rw [checkR_no r1] at HC
    clear r
    go_enter Try.func31, Try.ntmps31
    go_wp2_with (first | (go_at_call 15; refine (HC.out _).mono ?_; rintro e w1 ⟨rfl, rfl⟩))
    go_ret
    refine ⟨rfl, ?_⟩
    repeat' (first | with_reducible exact Below.refl _ _ | with_reducible refine Below.setCell ?_ ?_ _ | with_reducible refine Below.alloc ?_ ?_ _ | with_reducible refine below_drewN ?_ _ | with_reducible refine Below.drew ?_ | with_reducible refine Below.trans ?_ (Below.mono (by assumption) ?_) | with_reducible exact Nat.le_refl _ | (simp; done) | (simp; omega) | omega)
  · rw [checkR_yes r1] at HC
    rw [r1] at r
    rw [checkR_no (by simpa using r)] at HD
    clear r r1
    go_enter Try.func31, Try.ntmps31
    go_wp2_with (first | (go_at_call_of 15 [Value.agg #[Value.int IntKind.i64 h, Value.int IntKind.i64 l]]; refine (HC.out _).mono ?_; rintro e w1 ⟨rfl, rfl⟩) | (go_at_call_of 15 [Value.agg #[Value.int IntKind.i64 g, Value.int IntKind.i64 k]]; refine (HD.out _).mono ?_; rintro e w1 ⟨rfl, rfl⟩))
    go_ret
    refine ⟨rfl, ?_⟩
    repeat' (first | with_reducible exact Below.refl _ _ | with_reducible refine Below.setCell ?_ ?_ _ | with_reducible refine Below.alloc ?_ ?_ _ | with_reducible refine below_drewN ?_ _ | with_reducible refine Below.drew ?_ | with_reducible refine Below.trans ?_ (Below.mono (by assumption) ?_) | with_reducible exact Nat.le_refl _ | (simp; done) | (simp; omega) | omega)
set_option maxHeartbeats 400000 in
theorem checkBoth_yes (h l g k : Int) (w : World) (r : rightB h l = true) (s : rightB g k = true) :
    Calls Try.prog 31 #[.agg #[.int .i64 h, .int .i64 l], .agg #[.int .i64 g, .int .i64 k]] w fun e w' => e = .returned (.int .i64 0) ∧ w' = (((w.alloc (.cells #[.int .i64 h, .int .i64 l] 23)).alloc (.cells #[.int .i64 g, .int .i64 k] 23)).alloc (.cells #[.int .i64 h, .int .i64 l] 23)).alloc (.cells #[.int .i64 g, .int .i64 k] 23) := by
  have HC : Hid (∀ W : World, Calls Try.prog 15 #[.agg #[.int .i64 h, .int .i64 l]] W fun e w' => e = .returned (.int .i64 (checkR h l)) ∧ w' = W.alloc (.cells #[.int .i64 h, .int .i64 l] 23)) := fun W => check_any _ _ W
  have HD : Hid (∀ W : World, Calls Try.prog 15 #[.agg #[.int .i64 g, .int .i64 k]] W fun e w' => e = .returned (.int .i64 (checkR g k)) ∧ w' = W.alloc (.cells #[.int .i64 g, .int .i64 k] 23)) := fun W => check_any _ _ W
  rw [checkR_yes r] at HC
  rw [checkR_yes s] at HD
  go_enter Try.func31, Try.ntmps31
  go_wp2_with (first | (go_at_call_of 15 [Value.agg #[Value.int IntKind.i64 h, Value.int IntKind.i64 l]]; refine (HC.out _).mono ?_; rintro e w1 ⟨rfl, rfl⟩) | (go_at_call_of 15 [Value.agg #[Value.int IntKind.i64 g, Value.int IntKind.i64 k]]; refine (HD.out _).mono ?_; rintro e w1 ⟨rfl, rfl⟩))
  go_ret
  exact ⟨rfl, rfl⟩

set_option maxHeartbeats 1000000 in
theorem joinW_any (h l g k : Int) (w : World) :
    Calls Try.prog 13 #[.agg #[.int .i64 h, .int .i64 l], .agg #[.int .i64 g, .int .i64 k]] w fun e w' => e = .returned (.tuple #[.agg #[.int .i64 (joinW h l g k).1, .int .i64 (joinW h l g k).2.1], .int .i64 (joinW h l g k).2.2]) ∧ Below w.heap.size w w' := by
  cases c : (rightB h l && rightB g k)
  · rw [show joinW h l g k = (0, 0, 2) by simp [joinW, c]]
    have HB : Hid (∀ W : World, Calls Try.prog 31 #[.agg #[.int .i64 h, .int .i64 l], .agg #[.int .i64 g, .int .i64 k]] W fun e w' => e = .returned (.int .i64 2) ∧ Below W.heap.size W w') := fun W => checkBoth_no h l g k W c
    clear c
    go_enter Try.func13, Try.ntmps13
    go_wp2_with (first | (go_at_call 31; refine (HB.out _).mono ?_; rintro e w2 ⟨rfl, hb2⟩; have k1 := hb2.cell (p := ⟨w.heap.size + 2, 0, none⟩) (by simp); have k2 := hb2.cell (p := ⟨w.heap.size + 2, 1, none⟩) (by simp); have k3 := hb2.frozen (p := ⟨w.heap.size + 2, 0, none⟩) (by simp); have k4 := hb2.frozen (p := ⟨w.heap.size + 2, 1, none⟩) (by simp); simp [go_sem] at k1 k2 k3 k4))
    refine bodyPost_ret (v := .tuple #[.agg #[.int .i64 0, .int .i64 0], .int .i64 2]) (by simp [results, Try.results13, go_sem, k1, k2]) rfl ⟨rfl, ?_⟩
    repeat' (first | with_reducible exact Below.refl _ _ | with_reducible refine Below.setCell ?_ ?_ _ | with_reducible refine Below.alloc ?_ ?_ _ | with_reducible refine below_drewN ?_ _ | with_reducible refine Below.drew ?_ | with_reducible refine Below.trans ?_ (Below.mono (by assumption) ?_) | with_reducible exact Nat.le_refl _ | (simp; done) | (simp; omega) | omega)
  · rw [Bool.and_eq_true] at c
    rw [joinW_yes c.1 c.2]
    have HB : Hid (∀ W : World, Calls Try.prog 31 #[.agg #[.int .i64 h, .int .i64 l], .agg #[.int .i64 g, .int .i64 k]] W fun e w' => e = .returned (.int .i64 0) ∧ w' = (((W.alloc (.cells #[.int .i64 h, .int .i64 l] 23)).alloc (.cells #[.int .i64 g, .int .i64 k] 23)).alloc (.cells #[.int .i64 h, .int .i64 l] 23)).alloc (.cells #[.int .i64 g, .int .i64 k] 23)) := fun W => checkBoth_yes h l g k W c.1 c.2
    have HJ : Hid (∀ W : World, Calls Try.prog 26 #[.agg #[.int .i64 h, .int .i64 l], .agg #[.int .i64 g, .int .i64 k]] W fun e w' => e = .returned (.tuple #[.agg #[.int .i64 (madeR (h + g) (l + k)).1, .int .i64 (madeR (h + g) (l + k)).2.1], .int .i64 (madeR (h + g) (l + k)).2.2]) ∧ Below W.heap.size W w') := fun W => joined_any h l _ _ W c.1 c.2
    generalize (madeR (h + g) (l + k)).1 = x at *
    generalize (madeR (h + g) (l + k)).2.1 = y at *
    generalize (madeR (h + g) (l + k)).2.2 = z at *
    clear c
    go_enter Try.func13, Try.ntmps13
    go_wp2_with (first | (go_at_call 31; refine (HB.out _).mono ?_; rintro e w1 ⟨rfl, rfl⟩) | (go_at_call 26; refine (HJ.out _).mono ?_; rintro e w2 ⟨rfl, hb2⟩; have k1 := hb2.cell (p := ⟨w.heap.size + 2, 0, none⟩) (by simp); have k2 := hb2.cell (p := ⟨w.heap.size + 2, 1, none⟩) (by simp); have k3 := hb2.frozen (p := ⟨w.heap.size + 2, 0, none⟩) (by simp); have k4 := hb2.frozen (p := ⟨w.heap.size + 2, 1, none⟩) (by simp); simp [go_sem] at k1 k2 k3 k4))
    refine bodyPost_ret (v := .tuple #[.agg #[.int .i64 x, .int .i64 y], .int .i64 z]) (by simp [results, Try.results13, go_sem, k1, k2]) rfl ⟨rfl, ?_⟩
    repeat' (first | with_reducible exact Below.refl _ _ | with_reducible refine Below.setCell ?_ ?_ _ | with_reducible refine Below.alloc ?_ ?_ _ | with_reducible refine below_drewN ?_ _ | with_reducible refine Below.drew ?_ | with_reducible refine Below.trans ?_ (Below.mono (by assumption) ?_) | with_reducible exact Nat.le_refl _ | (simp; done) | (simp; omega) | omega)
end Go.Proofs.Ytcabpcneiddgcaa
