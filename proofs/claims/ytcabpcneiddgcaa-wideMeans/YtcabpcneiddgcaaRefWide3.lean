/-
  The contracts of the answer's Compare, Total, size.
-/
import Derived.Test.YtcabpcneiddgcaaWide5
namespace Go.Proofs.Ytcabpcneiddgcaa
open Go.RowKit

set_option maxHeartbeats 1000000 in
theorem rcompW_any (h l g k : Int) (w : World) :
    Calls Try.prog 23 #[.agg #[.int .i64 h, .int .i64 l], .agg #[.int .i64 g, .int .i64 k]] w fun e w' => e = .returned (.tuple #[.int .i64 (compW h l g k).1, .int .i64 (compW h l g k).2]) ∧ Below w.heap.size w w' := by
  have HC : Hid (∀ W : World, Calls Try.prog 28 #[.agg #[.int .i64 h, .int .i64 l]] W fun e w' => e = .returned (.bool (rightB h l)) ∧ w' = W.alloc (.cells #[.int .i64 h, .int .i64 l] 23)) := fun W => right_any _ _ W
  have HD : Hid (∀ W : World, Calls Try.prog 28 #[.agg #[.int .i64 g, .int .i64 k]] W fun e w' => e = .returned (.bool (rightB g k)) ∧ w' = W.alloc (.cells #[.int .i64 g, .int .i64 k] 23)) := fun W => right_any _ _ W
  cases r : rightB h l
  · rw [compW_no r]
    rw [r] at HC
    clear r
    go_enter Try.func23, Try.ntmps23
    go_wp2_with (first | (go_at_call_of 28 [Value.agg #[Value.int IntKind.i64 h, Value.int IntKind.i64 l]]; refine (HC.out _).mono ?_; rintro e w1 ⟨rfl, rfl⟩) | (go_at_call_of 28 [Value.agg #[Value.int IntKind.i64 g, Value.int IntKind.i64 k]]; refine (HD.out _).mono ?_; rintro e w1 ⟨rfl, rfl⟩))
    go_ret2
    refine ⟨rfl, ?_⟩
    repeat' (first | with_reducible exact Below.refl _ _ | with_reducible refine Below.setCell ?_ ?_ _ | with_reducible refine Below.alloc ?_ ?_ _ | with_reducible refine below_drewN ?_ _ | with_reducible refine Below.drew ?_ | with_reducible refine Below.trans ?_ (Below.mono (by assumption) ?_) | with_reducible exact Nat.le_refl _ | (simp; done) | (simp; omega) | omega)
  · cases f : rightB g k
    · rw [compW_no2 f]
      rw [r] at HC
      rw [f] at HD
      clear r f
      go_enter Try.func23, Try.ntmps23
      go_wp2_with (first | (go_at_call_of 28 [Value.agg #[Value.int IntKind.i64 h, Value.int IntKind.i64 l]]; refine (HC.out _).mono ?_; rintro e w1 ⟨rfl, rfl⟩) | (go_at_call_of 28 [Value.agg #[Value.int IntKind.i64 g, Value.int IntKind.i64 k]]; refine (HD.out _).mono ?_; rintro e w1 ⟨rfl, rfl⟩))
      go_ret2
      refine ⟨rfl, ?_⟩
      repeat' (first | with_reducible exact Below.refl _ _ | with_reducible refine Below.setCell ?_ ?_ _ | with_reducible refine Below.alloc ?_ ?_ _ | with_reducible refine below_drewN ?_ _ | with_reducible refine Below.drew ?_ | with_reducible refine Below.trans ?_ (Below.mono (by assumption) ?_) | with_reducible exact Nat.le_refl _ | (simp; done) | (simp; omega) | omega)
    · rw [compW_yes r f]
      rw [r] at HC
      rw [f] at HD
      clear r f
      by_cases c1 : h = g
      · subst c1
        by_cases c2 : l = k
        · subst c2
          rw [if_pos ⟨rfl, rfl⟩]
          go_enter Try.func23, Try.ntmps23
          go_wp2_with (first | (go_at_call 28; refine (HC.out _).mono ?_; rintro e w1 ⟨rfl, rfl⟩))
          go_ret2
          refine ⟨rfl, ?_⟩
          repeat' (first | with_reducible exact Below.refl _ _ | with_reducible refine Below.setCell ?_ ?_ _ | with_reducible refine Below.alloc ?_ ?_ _ | with_reducible refine below_drewN ?_ _ | with_reducible refine Below.drew ?_ | with_reducible refine Below.trans ?_ (Below.mono (by assumption) ?_) | with_reducible exact Nat.le_refl _ | (simp; done) | (simp; omega) | omega)
        · have t2 : (l == k) = false := by simpa using c2
          rw [if_neg (fun e => c2 e.2)]
          by_cases c3 : l < k
          · rw [if_pos (.inr ⟨rfl, c3⟩)]
            go_enter Try.func23, Try.ntmps23
            go_wp2_with (first | (go_at_call_of 28 [Value.agg #[Value.int IntKind.i64 h, Value.int IntKind.i64 l]]; refine (HC.out _).mono ?_; rintro e w1 ⟨rfl, rfl⟩) | (go_at_call_of 28 [Value.agg #[Value.int IntKind.i64 h, Value.int IntKind.i64 k]]; refine (HD.out _).mono ?_; rintro e w1 ⟨rfl, rfl⟩))
            go_ret2
            refine ⟨rfl, ?_⟩
            repeat' (first | with_reducible exact Below.refl _ _ | with_reducible refine Below.setCell ?_ ?_ _ | with_reducible refine Below.alloc ?_ ?_ _ | with_reducible refine below_drewN ?_ _ | with_reducible refine Below.drew ?_ | with_reducible refine Below.trans ?_ (Below.mono (by assumption) ?_) | with_reducible exact Nat.le_refl _ | (simp; done) | (simp; omega) | omega)
          · rw [if_neg (by omega)]
            go_enter Try.func23, Try.ntmps23
            go_wp2_with (first | (go_at_call_of 28 [Value.agg #[Value.int IntKind.i64 h, Value.int IntKind.i64 l]]; refine (HC.out _).mono ?_; rintro e w1 ⟨rfl, rfl⟩) | (go_at_call_of 28 [Value.agg #[Value.int IntKind.i64 h, Value.int IntKind.i64 k]]; refine (HD.out _).mono ?_; rintro e w1 ⟨rfl, rfl⟩))
            go_ret2
            refine ⟨rfl, ?_⟩
            repeat' (first | with_reducible exact Below.refl _ _ | with_reducible refine Below.setCell ?_ ?_ _ | with_reducible refine Below.alloc ?_ ?_ _ | with_reducible refine below_drewN ?_ _ | with_reducible refine Below.drew ?_ | with_reducible refine Below.trans ?_ (Below.mono (by assumption) ?_) | with_reducible exact Nat.le_refl _ | (simp; done) | (simp; omega) | omega)
      · have t2 : (h == g) = false := by simpa using c1
        rw [if_neg (fun e => c1 e.1)]
        by_cases c3 : h < g
        · rw [if_pos (.inl c3)]
          go_enter Try.func23, Try.ntmps23
          go_wp2_with (first | (go_at_call_of 28 [Value.agg #[Value.int IntKind.i64 h, Value.int IntKind.i64 l]]; refine (HC.out _).mono ?_; rintro e w1 ⟨rfl, rfl⟩) | (go_at_call_of 28 [Value.agg #[Value.int IntKind.i64 g, Value.int IntKind.i64 k]]; refine (HD.out _).mono ?_; rintro e w1 ⟨rfl, rfl⟩))
          go_ret2
          refine ⟨rfl, ?_⟩
          repeat' (first | with_reducible exact Below.refl _ _ | with_reducible refine Below.setCell ?_ ?_ _ | with_reducible refine Below.alloc ?_ ?_ _ | with_reducible refine below_drewN ?_ _ | with_reducible refine Below.drew ?_ | with_reducible refine Below.trans ?_ (Below.mono (by assumption) ?_) | with_reducible exact Nat.le_refl _ | (simp; done) | (simp; omega) | omega)
        · rw [if_neg (by omega)]
          go_enter Try.func23, Try.ntmps23
          go_wp2_with (first | (go_at_call_of 28 [Value.agg #[Value.int IntKind.i64 h, Value.int IntKind.i64 l]]; refine (HC.out _).mono ?_; rintro e w1 ⟨rfl, rfl⟩) | (go_at_call_of 28 [Value.agg #[Value.int IntKind.i64 g, Value.int IntKind.i64 k]]; refine (HD.out _).mono ?_; rintro e w1 ⟨rfl, rfl⟩))
          go_ret2
          refine ⟨rfl, ?_⟩
          repeat' (first | with_reducible exact Below.refl _ _ | with_reducible refine Below.setCell ?_ ?_ _ | with_reducible refine Below.alloc ?_ ?_ _ | with_reducible refine below_drewN ?_ _ | with_reducible refine Below.drew ?_ | with_reducible refine Below.trans ?_ (Below.mono (by assumption) ?_) | with_reducible exact Nat.le_refl _ | (simp; done) | (simp; omega) | omega)
set_option maxHeartbeats 1000000 in
theorem rtotalW_any (h l : Int) (w : World) :
    Calls Try.prog 19 #[.agg #[.int .i64 h, .int .i64 l]] w fun e w' => e = .returned (.tuple #[.int .i64 (totalW h l).1, .int .i64 (totalW h l).2]) ∧ Below w.heap.size w w' := by
  have HC : Hid (∀ W : World, Calls Try.prog 28 #[.agg #[.int .i64 h, .int .i64 l]] W fun e w' => e = .returned (.bool (rightB h l)) ∧ w' = W.alloc (.cells #[.int .i64 h, .int .i64 l] 23)) := fun W => right_any _ _ W
  cases r : rightB h l
  · rw [show totalW h l = (0, 2) by simp [totalW, r]]
    rw [r] at HC
    clear r
    go_enter Try.func19, Try.ntmps19
    go_wp2_with (first | (go_at_call 28; refine (HC.out _).mono ?_; rintro e w1 ⟨rfl, rfl⟩))
    go_ret2
    refine ⟨rfl, ?_⟩
    repeat' (first | with_reducible exact Below.refl _ _ | with_reducible refine Below.setCell ?_ ?_ _ | with_reducible refine Below.alloc ?_ ?_ _ | with_reducible refine below_drewN ?_ _ | with_reducible refine Below.drew ?_ | with_reducible refine Below.trans ?_ (Below.mono (by assumption) ?_) | with_reducible exact Nat.le_refl _ | (simp; done) | (simp; omega) | omega)
  · rw [show totalW h l = told (h * 1000000000000000000 + l) by simp [totalW, r]]
    obtain ⟨r1, r2, r3, r4⟩ := rightB_true r
    rw [r] at HC
    clear r
    by_cases c1 : h < -1
    · rw [told_no (fitsB_not (by omega))]
      go_enter Try.func19, Try.ntmps19
      go_wp2_with (first | (go_at_call 28; refine (HC.out _).mono ?_; rintro e w1 ⟨rfl, rfl⟩))
      go_ret2
      refine ⟨rfl, ?_⟩
      repeat' (first | with_reducible exact Below.refl _ _ | with_reducible refine Below.setCell ?_ ?_ _ | with_reducible refine Below.alloc ?_ ?_ _ | with_reducible refine below_drewN ?_ _ | with_reducible refine Below.drew ?_ | with_reducible refine Below.trans ?_ (Below.mono (by assumption) ?_) | with_reducible exact Nat.le_refl _ | (simp; done) | (simp; omega) | omega)
    · by_cases c2 : 1 < h
      · rw [told_no (fitsB_not (by omega))]
        go_enter Try.func19, Try.ntmps19
        go_wp2_with (first | (go_at_call 28; refine (HC.out _).mono ?_; rintro e w1 ⟨rfl, rfl⟩))
        go_ret2
        refine ⟨rfl, ?_⟩
        repeat' (first | with_reducible exact Below.refl _ _ | with_reducible refine Below.setCell ?_ ?_ _ | with_reducible refine Below.alloc ?_ ?_ _ | with_reducible refine below_drewN ?_ _ | with_reducible refine Below.drew ?_ | with_reducible refine Below.trans ?_ (Below.mono (by assumption) ?_) | with_reducible exact Nat.le_refl _ | (simp; done) | (simp; omega) | omega)
      · by_cases c3 : h = 1
        · subst c3
          by_cases c4 : 0 < l
          · rw [told_no (fitsB_not (by omega))]
            go_enter Try.func19, Try.ntmps19
            go_wp2_with (first | (go_at_call 28; refine (HC.out _).mono ?_; rintro e w1 ⟨rfl, rfl⟩))
            go_ret2
            refine ⟨rfl, ?_⟩
            repeat' (first | with_reducible exact Below.refl _ _ | with_reducible refine Below.setCell ?_ ?_ _ | with_reducible refine Below.alloc ?_ ?_ _ | with_reducible refine below_drewN ?_ _ | with_reducible refine Below.drew ?_ | with_reducible refine Below.trans ?_ (Below.mono (by assumption) ?_) | with_reducible exact Nat.le_refl _ | (simp; done) | (simp; omega) | omega)
          · obtain rfl : l = 0 := by omega
            rw [told_yes (fitsB_of (by decide) (by decide))]
            go_enter Try.func19, Try.ntmps19
            go_wp2_with (first | (go_at_call 28; refine (HC.out _).mono ?_; rintro e w1 ⟨rfl, rfl⟩))
            go_ret2
            refine ⟨rfl, ?_⟩
            repeat' (first | with_reducible exact Below.refl _ _ | with_reducible refine Below.setCell ?_ ?_ _ | with_reducible refine Below.alloc ?_ ?_ _ | with_reducible refine below_drewN ?_ _ | with_reducible refine Below.drew ?_ | with_reducible refine Below.trans ?_ (Below.mono (by assumption) ?_) | with_reducible exact Nat.le_refl _ | (simp; done) | (simp; omega) | omega)
        · have t3 : (h == 1) = false := by simpa using c3
          rw [told_yes (fitsB_of (by omega) (by omega))]
          go_enter Try.func19, Try.ntmps19
          go_wp2_with (first | (go_at_call 28; refine (HC.out _).mono ?_; rintro e w1 ⟨rfl, rfl⟩))
          go_ret2
          refine ⟨rfl, ?_⟩
          repeat' (first | with_reducible exact Below.refl _ _ | with_reducible refine Below.setCell ?_ ?_ _ | with_reducible refine Below.alloc ?_ ?_ _ | with_reducible refine below_drewN ?_ _ | with_reducible refine Below.drew ?_ | with_reducible refine Below.trans ?_ (Below.mono (by assumption) ?_) | with_reducible exact Nat.le_refl _ | (simp; done) | (simp; omega) | omega)
end Go.Proofs.Ytcabpcneiddgcaa
