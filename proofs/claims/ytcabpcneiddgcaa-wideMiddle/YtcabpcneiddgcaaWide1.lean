/-
  The contracts of wide's small functions: Check, checkBoth, parted, widened, below, joined, Add, Sub, Join, Total; and of the answer's Right and Check.
-/
import Derived.Test.YtcabpcneiddgcaaWideMath
namespace Go.Proofs.Ytcabpcneiddgcaa
open Go.RowKit

set_option maxHeartbeats 400000 in
theorem check_any (h l : Int) (w : World) :
    Calls Try.prog 15 #[.agg #[.int .i64 h, .int .i64 l]] w fun e w' => e = .returned (.int .i64 (checkR h l)) ∧ w' = w.alloc (.cells #[.int .i64 h, .int .i64 l] 23) := by
  by_cases a1 : l < 0
  · go_enter Try.func15, Try.ntmps15
    go_wp2
    go_ret
    exact ⟨by rw [checkR_no (rightB_not (by omega))]; rfl, rfl⟩
  · by_cases a2 : 1000000000000000000 ≤ l
    · go_enter Try.func15, Try.ntmps15
      go_wp2
      go_ret
      exact ⟨by rw [checkR_no (rightB_not (by omega))]; rfl, rfl⟩
    · by_cases a3 : h < -2147483648
      · go_enter Try.func15, Try.ntmps15
        go_wp2
        go_ret
        exact ⟨by rw [checkR_no (rightB_not (by omega))]; rfl, rfl⟩
      · by_cases a4 : 2147483648 ≤ h
        · go_enter Try.func15, Try.ntmps15
          go_wp2
          go_ret
          exact ⟨by rw [checkR_no (rightB_not (by omega))]; rfl, rfl⟩
        · go_enter Try.func15, Try.ntmps15
          go_wp2
          go_ret
          exact ⟨by rw [checkR_yes (rightB_of (by omega) (by omega) (by omega) (by omega))]; rfl, rfl⟩
set_option maxHeartbeats 400000 in
theorem right_any (h l : Int) (w : World) :
    Calls Try.prog 28 #[.agg #[.int .i64 h, .int .i64 l]] w fun e w' => e = .returned (.bool (rightB h l)) ∧ w' = w.alloc (.cells #[.int .i64 h, .int .i64 l] 23) := by
  by_cases a1 : l < 0
  · go_enter Try.func28, Try.ntmps28
    go_wp2
    go_ret
    exact ⟨by rw [rightB_not (by omega)]; rfl, rfl⟩
  · by_cases a2 : 1000000000000000000 ≤ l
    · go_enter Try.func28, Try.ntmps28
      go_wp2
      go_ret
      exact ⟨by rw [rightB_not (by omega)]; rfl, rfl⟩
    · by_cases a3 : h < -2147483648
      · go_enter Try.func28, Try.ntmps28
        go_wp2
        go_ret
        exact ⟨by rw [rightB_not (by omega)]; rfl, rfl⟩
      · by_cases a4 : 2147483648 ≤ h
        · go_enter Try.func28, Try.ntmps28
          go_wp2
          go_ret
          exact ⟨by rw [rightB_not (by omega)]; show Ending.returned (.bool (decide (h < 2147483648))) = _; rw [decide_eq_false (by omega)], rfl⟩
        · go_enter Try.func28, Try.ntmps28
          go_wp2
          go_ret
          exact ⟨by rw [rightB_of (by omega) (by omega) (by omega) (by omega)]; first | rfl | (show Ending.returned (.bool (decide (h < 2147483648))) = _; rw [decide_eq_true (by omega)]), rfl⟩
set_option maxHeartbeats 400000 in
theorem rcheck_any (h l : Int) (w : World) :
    Calls Try.prog 16 #[.agg #[.int .i64 h, .int .i64 l]] w fun e w' => e = .returned (.int .i64 (checkR h l)) ∧ Below w.heap.size w w' := by
  cases r : rightB h l
  all_goals
    go_enter Try.func16, Try.ntmps16
    go_wp2_with (go_at_call 28; refine (right_any _ _ _).mono ?_; rintro e w' ⟨rfl, rfl⟩)
    go_ret
    exact ⟨by simp [checkR, r], ((Below.refl _ _).alloc (Nat.le_refl _) _).alloc (by simp) _⟩

set_option maxHeartbeats 400000 in
theorem parted_any (n d : Int) (w : World) (n0 : -9000000000000000000 ≤ n) (n1 : n ≤ 9000000000000000000) (d0 : 1 ≤ d) (d1 : d ≤ 1000000000000000000) :
    Calls Try.prog 36 #[.int .i64 n, .int .i64 d] w fun e w' => e = .returned (.tuple #[.int .i64 (n / d), .int .i64 (n % d)]) ∧ ∃ m, w' = w.drewN m := by
  have hd0 : (d == 0) = false := by simp; omega
  have e1 := Go.IntWalk.i64_quo' n d ⟨by omega, by omega, d0⟩
  have b1 : -d < n.tmod d := by have := Int.lt_tmod_of_pos n (b := d) (by omega); omega
  have b2 : n.tmod d < d := Int.tmod_lt_of_pos n (by omega)
  have c1 : -9223372036854775807 ≤ n.tdiv d ∧ n.tdiv d ≤ 9223372036854775807 := by
    have hx := Int.natAbs_tdiv_le_natAbs n d
    omega
  by_cases c : n.tmod d < 0
  · obtain ⟨f1, f2⟩ := part_neg (by omega) c
    rw [← f1, ← f2]
    clear f1 f2
    go_enter Try.func36, Try.ntmps36
    go_wp2
    go_quiet (fail)
    go_wp2
    go_ret2
    exact ⟨rfl, _, rfl⟩
  · obtain ⟨f1, f2⟩ := part_pos (n := n) (d := d) (by omega) (by omega)
    rw [← f1, ← f2]
    clear f1 f2
    go_enter Try.func36, Try.ntmps36
    go_wp2
    go_quiet (fail)
    go_wp2
    go_ret2
    exact ⟨rfl, _, rfl⟩
set_option maxHeartbeats 400000 in
theorem widened_any (n : Int) (w : World) (n0 : -9000000000000000000 ≤ n) (n1 : n ≤ 9000000000000000000) :
    Calls Try.prog 27 #[.int .i64 n] w fun e w' => e = .returned (.agg #[.int .i64 (n / 1000000000000000000), .int .i64 (n % 1000000000000000000)]) ∧ ∃ m, w' = (((w.alloc (.cells #[.int .i64 0, .int .i64 0] 23)).drewN m).setCell ⟨w.heap.size, 0, none⟩ (.int .i64 (n / 1000000000000000000))).setCell ⟨w.heap.size, 1, none⟩ (.int .i64 (n % 1000000000000000000)) := by
  have HP : Hid (∀ W : World, Calls Try.prog 36 #[.int .i64 n, .int .i64 1000000000000000000] W fun e w' => e = .returned (.tuple #[.int .i64 (n / 1000000000000000000), .int .i64 (n % 1000000000000000000)]) ∧ ∃ m, w' = W.drewN m) := fun W => parted_any n 1000000000000000000 W n0 n1 (by decide) (by decide)
  generalize n / 1000000000000000000 = q at *
  generalize n % 1000000000000000000 = r at *
  go_enter Try.func27, Try.ntmps27
  go_wp2_with (go_at_call 36; refine (HP.out _).mono ?_; rintro e w1 ⟨rfl, m, rfl⟩)
  exact bodyPost_ret (v := .agg #[.int .i64 q, .int .i64 r]) (by simp [results, Try.results27, go_sem]) rfl ⟨rfl, m, rfl⟩

set_option maxHeartbeats 400000 in
theorem below_any (h l g k : Int) (w : World) :
    Calls Try.prog 32 #[.agg #[.int .i64 h, .int .i64 l], .agg #[.int .i64 g, .int .i64 k]] w fun e w' => e = .returned (.bool (decide (h < g ∨ (h = g ∧ l < k)))) ∧ w' = (w.alloc (.cells #[.int .i64 h, .int .i64 l] 23)).alloc (.cells #[.int .i64 g, .int .i64 k] 23) := by
  by_cases c1 : h < g
  · rw [decide_eq_true (by omega)]
    go_enter Try.func32, Try.ntmps32
    go_wp2
    go_ret
    exact ⟨rfl, rfl⟩
  · by_cases c2 : h = g
    · subst c2
      have e : decide (h < h ∨ (h = h ∧ l < k)) = decide (l < k) := by simp
      rw [e]
      go_enter Try.func32, Try.ntmps32
      go_wp2
      go_ret
      exact ⟨rfl, rfl⟩
    · rw [decide_eq_false (by omega)]
      have t : (h == g) = false := by simpa using c2
      go_enter Try.func32, Try.ntmps32
      go_wp2
      go_ret
      exact ⟨rfl, rfl⟩

set_option maxHeartbeats 400000 in
theorem joined_any (h l g k : Int) (w : World) (r : rightB h l = true) (s : rightB g k = true) :
    Calls Try.prog 26 #[.agg #[.int .i64 h, .int .i64 l], .agg #[.int .i64 g, .int .i64 k]] w fun e w' => e = .returned (.tuple #[.agg #[.int .i64 (madeR (h + g) (l + k)).1, .int .i64 (madeR (h + g) (l + k)).2.1], .int .i64 (madeR (h + g) (l + k)).2.2]) ∧ Below w.heap.size w w' := by
  obtain ⟨r1, r2, r3, r4⟩ := rightB_true r
  obtain ⟨s1, s2, s3, s4⟩ := rightB_true s
  have HW : Hid (∀ W : World, Calls Try.prog 27 #[.int .i64 (l + k)] W fun e w' => e = .returned (.agg #[.int .i64 ((l + k) / 1000000000000000000), .int .i64 ((l + k) % 1000000000000000000)]) ∧ ∃ m, w' = (((W.alloc (.cells #[.int .i64 0, .int .i64 0] 23)).drewN m).setCell ⟨W.heap.size, 0, none⟩ (.int .i64 ((l + k) / 1000000000000000000))).setCell ⟨W.heap.size, 1, none⟩ (.int .i64 ((l + k) % 1000000000000000000))) := fun W => widened_any (l + k) W (by omega) (by omega)
  obtain ⟨q, hq⟩ : ∃ q, (l + k) / 1000000000000000000 = q := ⟨_, rfl⟩
  obtain ⟨t, ht⟩ : ∃ t, (l + k) % 1000000000000000000 = t := ⟨_, rfl⟩
  have q0 : 0 ≤ q ∧ q ≤ 1 := by omega
  have t0 : 0 ≤ t ∧ t < 1000000000000000000 := by omega
  rw [hq, ht] at HW
  have HC : Hid (∀ W : World, Calls Try.prog 15 #[.agg #[.int .i64 (q + (h + g)), .int .i64 t]] W fun e w' => e = .returned (.int .i64 (checkR (q + (h + g)) t)) ∧ w' = W.alloc (.cells #[.int .i64 (q + (h + g)), .int .i64 t] 23)) := fun W => check_any _ _ W
  cases c : rightB (q + (h + g)) t
  · rw [checkR_no c] at HC
    have c2 := rightB_false c
    rw [madeR_no (by omega)]
    clear c c2
    go_enter Try.func26, Try.ntmps26
    go_wp2_with (first | (go_at_call 27; refine (HW.out _).mono ?_; rintro e w1 ⟨rfl, m, rfl⟩) | (go_at_call 15; refine (HC.out _).mono ?_; rintro e w1 ⟨rfl, rfl⟩))
    refine bodyPost_ret (v := .tuple #[.agg #[.int .i64 0, .int .i64 0], .int .i64 3]) (by simp [results, Try.results26, go_sem]) rfl ⟨rfl, ?_⟩
    repeat' (first | with_reducible exact Below.refl _ _ | with_reducible refine Below.setCell ?_ ?_ _ | with_reducible refine Below.alloc ?_ ?_ _ | with_reducible refine below_drewN ?_ _ | with_reducible refine Below.drew ?_ | with_reducible refine Below.trans ?_ (Below.mono (by assumption) ?_) | with_reducible exact Nat.le_refl _ | (simp; done) | (simp; omega) | omega)
  · rw [checkR_yes c] at HC
    have c2 := rightB_true c
    rw [madeR_yes (by omega) (by omega), hq, ht, Int.add_comm (h + g) q]
    clear c c2
    go_enter Try.func26, Try.ntmps26
    go_wp2_with (first | (go_at_call 27; refine (HW.out _).mono ?_; rintro e w1 ⟨rfl, m, rfl⟩) | (go_at_call 15; refine (HC.out _).mono ?_; rintro e w1 ⟨rfl, rfl⟩))
    refine bodyPost_ret (v := .tuple #[.agg #[.int .i64 (q + (h + g)), .int .i64 t], .int .i64 0]) (by simp [results, Try.results26, go_sem]) rfl ⟨rfl, ?_⟩
    repeat' (first | with_reducible exact Below.refl _ _ | with_reducible refine Below.setCell ?_ ?_ _ | with_reducible refine Below.alloc ?_ ?_ _ | with_reducible refine below_drewN ?_ _ | with_reducible refine Below.drew ?_ | with_reducible refine Below.trans ?_ (Below.mono (by assumption) ?_) | with_reducible exact Nat.le_refl _ | (simp; done) | (simp; omega) | omega)
end Go.Proofs.Ytcabpcneiddgcaa
