/-
  The contracts of wide.Compare and Total.
-/
import Derived.Test.YtcabpcneiddgcaaWide4
namespace Go.Proofs.Ytcabpcneiddgcaa
open Go.RowKit

theorem compW_yes {h l g k : Int} (r : rightB h l = true) (s : rightB g k = true) : compW h l g k = (if h = g ∧ l = k then 0 else if h < g ∨ (h = g ∧ l < k) then -1 else 1, 0) := by simp [compW, r, s]
set_option maxHeartbeats 1000000 in
theorem compW_any (h l g k : Int) (w : World) :
    Calls Try.prog 22 #[.agg #[.int .i64 h, .int .i64 l], .agg #[.int .i64 g, .int .i64 k]] w fun e w' => e = .returned (.tuple #[.int .i64 (compW h l g k).1, .int .i64 (compW h l g k).2]) ∧ Below w.heap.size w w' := by
  cases c : (rightB h l && rightB g k)
  · rw [show compW h l g k = (0, 2) by simp [compW, c]]
    have HB : Hid (∀ W : World, Calls Try.prog 31 #[.agg #[.int .i64 h, .int .i64 l], .agg #[.int .i64 g, .int .i64 k]] W fun e w' => e = .returned (.int .i64 2) ∧ Below W.heap.size W w') := fun W => checkBoth_no h l g k W c
    clear c
    go_enter Try.func22, Try.ntmps22
    go_wp2_with (first | (go_at_call 31; refine (HB.out _).mono ?_; rintro e w2 ⟨rfl, hb2⟩))
    go_ret2
    refine ⟨rfl, ?_⟩
    repeat' (first | with_reducible exact Below.refl _ _ | with_reducible refine Below.setCell ?_ ?_ _ | with_reducible refine Below.alloc ?_ ?_ _ | with_reducible refine below_drewN ?_ _ | with_reducible refine Below.drew ?_ | with_reducible refine Below.trans ?_ (Below.mono (by assumption) ?_) | with_reducible exact Nat.le_refl _ | (simp; done) | (simp; omega) | omega)
  · rw [Bool.and_eq_true] at c
    rw [compW_yes c.1 c.2]
    have HB : Hid (∀ W : World, Calls Try.prog 31 #[.agg #[.int .i64 h, .int .i64 l], .agg #[.int .i64 g, .int .i64 k]] W fun e w' => e = .returned (.int .i64 0) ∧ w' = (((W.alloc (.cells #[.int .i64 h, .int .i64 l] 23)).alloc (.cells #[.int .i64 g, .int .i64 k] 23)).alloc (.cells #[.int .i64 h, .int .i64 l] 23)).alloc (.cells #[.int .i64 g, .int .i64 k] 23)) := fun W => checkBoth_yes h l g k W c.1 c.2
    have HL : Hid (∀ W : World, Calls Try.prog 32 #[.agg #[.int .i64 h, .int .i64 l], .agg #[.int .i64 g, .int .i64 k]] W fun e w' => e = .returned (.bool (decide (h < g ∨ (h = g ∧ l < k)))) ∧ w' = (W.alloc (.cells #[.int .i64 h, .int .i64 l] 23)).alloc (.cells #[.int .i64 g, .int .i64 k] 23)) := fun W => below_any h l g k W
    clear c
    by_cases c1 : h = g ∧ l = k
    · rw [if_pos c1]
      have t1 : (h == g) = true := by simpa using c1.1
      have t2 : (l == k) = true := by simpa using c1.2
      clear c1 HL
      go_enter Try.func22, Try.ntmps22
      go_wp2_with (first | (go_at_call 31; refine (HB.out _).mono ?_; rintro e w2 ⟨rfl, rfl⟩))
      go_ret2
      refine ⟨rfl, ?_⟩
      repeat' (first | with_reducible exact Below.refl _ _ | with_reducible refine Below.setCell ?_ ?_ _ | with_reducible refine Below.alloc ?_ ?_ _ | with_reducible refine below_drewN ?_ _ | with_reducible refine Below.drew ?_ | with_reducible refine Below.trans ?_ (Below.mono (by assumption) ?_) | with_reducible exact Nat.le_refl _ | (simp; done) | (simp; omega) | omega)
    · rw [if_neg c1]
      obtain ⟨bb, hbb⟩ : ∃ bb, decide (h < g ∨ (h = g ∧ l < k)) = bb := ⟨_, rfl⟩
      have ei : (if h < g ∨ (h = g ∧ l < k) then (-1 : Int) else 1) = if bb = true then -1 else 1 := by
        rw [← hbb]; by_cases c2 : h < g ∨ (h = g ∧ l < k)
        · rw [if_pos c2, decide_eq_true c2]; rfl
        · rw [if_neg c2, decide_eq_false c2]; rfl
      rw [ei]
      rw [hbb] at HL
      clear ei hbb
      by_cases c2 : h = g
      · subst c2
        have t2 : (l == k) = false := by
          cases e : (l == k)
          · rfl
          · exact absurd ⟨rfl, by simpa using e⟩ c1
        clear c1
        cases bb
        all_goals
          go_enter Try.func22, Try.ntmps22
          go_wp2_with (first | (go_at_call 31; refine (HB.out _).mono ?_; rintro e w2 ⟨rfl, rfl⟩) | (go_at_call 32; refine (HL.out _).mono ?_; rintro e w2 ⟨rfl, rfl⟩))
          go_ret2
          refine ⟨rfl, ?_⟩
          repeat' (first | with_reducible exact Below.refl _ _ | with_reducible refine Below.setCell ?_ ?_ _ | with_reducible refine Below.alloc ?_ ?_ _ | with_reducible refine below_drewN ?_ _ | with_reducible refine Below.drew ?_ | with_reducible refine Below.trans ?_ (Below.mono (by assumption) ?_) | with_reducible exact Nat.le_refl _ | (simp; done) | (simp; omega) | omega)
      · have t2 : (h == g) = false := by simpa using c2
        clear c1
        cases bb
        all_goals
          go_enter Try.func22, Try.ntmps22
          go_wp2_with (first | (go_at_call 31; refine (HB.out _).mono ?_; rintro e w2 ⟨rfl, rfl⟩) | (go_at_call 32; refine (HL.out _).mono ?_; rintro e w2 ⟨rfl, rfl⟩))
          go_ret2
          refine ⟨rfl, ?_⟩
          repeat' (first | with_reducible exact Below.refl _ _ | with_reducible refine Below.setCell ?_ ?_ _ | with_reducible refine Below.alloc ?_ ?_ _ | with_reducible refine below_drewN ?_ _ | with_reducible refine Below.drew ?_ | with_reducible refine Below.trans ?_ (Below.mono (by assumption) ?_) | with_reducible exact Nat.le_refl _ | (simp; done) | (simp; omega) | omega)
end Go.Proofs.Ytcabpcneiddgcaa
