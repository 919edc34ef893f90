/-
  The contracts of dates' small functions: Leap, parted, leapsAhead, daysAhead, isDay, within, daily.
-/
import Derived.Test.YtlhpplhhdeifhaaDoorDt0
namespace Go.Proofs.YtlhpplhhdeifhaaDoor
open Go.RowKit

theorem tm_bd (y d : Int) (h : 0 < d) : -d < y.tmod d ∧ y.tmod d < d := by
  have h1 := Int.natAbs_tmod y d
  have h2 := Nat.mod_lt y.natAbs (show 0 < d.natAbs by omega)
  omega
theorem tm_zero (y d : Int) : (y.tmod d = 0) ↔ y % d = 0 := by rw [← Int.dvd_iff_tmod_eq_zero, ← Int.dvd_iff_emod_eq_zero]
theorem tm_yes {y d : Int} (h : y % d = 0) : (y.tmod d == 0) = true := by rw [beq_iff_eq, tm_zero]; exact h
theorem tm_no {y d : Int} (h : ¬ y % d = 0) : (y.tmod d == 0) = false := by rw [beq_eq_false_iff_ne, ne_eq, tm_zero]; exact h
theorem tm_yes' {y d : Int} (h : y % d = 0) : (y.tmod d != 0) = false := by rw [bne, tm_yes h]; rfl
theorem tm_no' {y d : Int} (h : ¬ y % d = 0) : (y.tmod d != 0) = true := by rw [bne, tm_no h]; rfl
theorem td_lo {n d : Int} (hd : 0 < d) (h : n.tmod d < 0) : n.tdiv d - 1 = n / d ∧ n.tmod d + d = n % d := by
  rw [Int.tdiv_eq_ediv, Int.tmod_eq_emod] at *
  by_cases a : 0 ≤ n ∨ d ∣ n
  · rw [if_pos a] at h
    have := Int.emod_nonneg n (show d ≠ 0 by omega)
    omega
  · rw [if_neg a, if_neg a, Int.sign_eq_one_of_pos hd]
    omega
theorem td_hi {n d : Int} (hd : 0 < d) (h : ¬ n.tmod d < 0) : n.tdiv d = n / d ∧ n.tmod d = n % d := by
  rw [Int.tdiv_eq_ediv, Int.tmod_eq_emod] at *
  by_cases a : 0 ≤ n ∨ d ∣ n
  · rw [if_pos a, if_pos a]
    omega
  · rw [if_neg a] at h
    have := Int.emod_lt_of_pos n hd
    omega
theorem td_bd {n d : Int} (h1 : -1000000000000000000 ≤ n) (h2 : n ≤ 1000000000000000000) : -1000000000000000001 ≤ n.tdiv d ∧ n.tdiv d ≤ 1000000000000000001 := by
  have h := Int.natAbs_tdiv n d
  have : (n.tdiv d).natAbs ≤ n.natAbs := by rw [h]; exact Nat.div_le_self _ _
  omega
set_option maxHeartbeats 1000000 in
theorem leap_any (y : Int) (w : World) :
    Calls Tryd.prog 11 #[.int .i64 y] w fun e w' => e = .returned (.bool (leapB y)) ∧ w' = w := by
  obtain ⟨a1, a2⟩ := tm_bd y 4 (by decide)
  obtain ⟨b1, b2⟩ := tm_bd y 100 (by decide)
  obtain ⟨c1, c2⟩ := tm_bd y 400 (by decide)
  by_cases a : y % 4 = 0
  · have a3 := tm_yes a
    by_cases b : y % 100 = 0
    · have b3 := tm_yes' b
      by_cases c : y % 400 = 0
      · have c3 := tm_yes c
        rw [leap_iff.2 ⟨a, Or.inr c⟩]
        clear a b c
        go_enter Tryd.func11, Tryd.ntmps11
        go_wp2
        go_ret
        exact ⟨rfl, rfl⟩
      · have c3 := tm_no c
        rw [leap_no.2 (by omega)]
        clear a b c
        go_enter Tryd.func11, Tryd.ntmps11
        go_wp2
        go_ret
        exact ⟨rfl, rfl⟩
    · have b3 := tm_no' b
      rw [leap_iff.2 ⟨a, Or.inl b⟩]
      clear a b
      go_enter Tryd.func11, Tryd.ntmps11
      go_wp2
      go_ret
      exact ⟨rfl, rfl⟩
  · have a3 := tm_no a
    rw [leap_no.2 (fun h => a h.1)]
    clear a
    go_enter Tryd.func11, Tryd.ntmps11
    go_wp2
    go_ret
    exact ⟨rfl, rfl⟩
set_option maxHeartbeats 1000000 in
theorem parted_any (n d : Int) (w : World) (h1 : -1000000000000000000 ≤ n) (h2 : n ≤ 1000000000000000000) (hd : 0 < d) (hd2 : d ≤ 1000) :
    Calls Tryd.prog 41 #[.int .i64 n, .int .i64 d] w fun e w' => e = .returned (.tuple #[.int .i64 (n / d), .int .i64 (n % d)]) ∧ w' = w.drew := by
  obtain ⟨a1, a2⟩ := tm_bd n d hd
  obtain ⟨b1, b2⟩ := td_bd (d := d) h1 h2
  have z3 : (d = 0) = False := eq_false (by omega)
  have hS0 : Below w.heap.size w w := Below.refl _ _
  have v1 : IntKind.i64.wrap (n.tdiv d) = n.tdiv d := by rw [IntKind.wrap_i64]; omega
  have v2 : IntKind.i64.wrap (n.tmod d) = n.tmod d := by rw [IntKind.wrap_i64]; omega
  by_cases a : n.tmod d < 0
  · obtain ⟨e1, e2⟩ := td_lo hd a
    rw [← e1, ← e2]
    clear e1 e2
    go_enter Tryd.func41, Tryd.ntmps41
    go_wp2
    go_region_held3 (fun w' => Below w.heap.size w w') (first | assumption | exact Below.drew (by assumption)) (fail)
    go_wp2
    go_ret2
    exact ⟨rfl, rfl⟩
  · obtain ⟨e1, e2⟩ := td_hi hd a
    rw [← e1, ← e2]
    clear e1 e2
    go_enter Tryd.func41, Tryd.ntmps41
    go_wp2
    go_region_held3 (fun w' => Below w.heap.size w w') (first | assumption | exact Below.drew (by assumption)) (fail)
    go_wp2
    go_ret2
    exact ⟨rfl, rfl⟩
set_option maxHeartbeats 1000000 in
theorem leapsAhead_any (y : Int) (w : World) (h1 : -1000000 ≤ y) (h2 : y ≤ 1000000) :
    Calls Tryd.prog 44 #[.int .i64 y] w fun e w' => e = .returned (.int .i64 (lpA y)) ∧ Below w.heap.size w w' := by
  have H4 : Hid (∀ W : World, Calls Tryd.prog 41 #[.int .i64 (y - 1), .int .i64 4] W fun e w' => e = .returned (.tuple #[.int .i64 ((y - 1) / 4), .int .i64 ((y - 1) % 4)]) ∧ w' = W.drew) := fun W => parted_any (y - 1) 4 W (by omega) (by omega) (by decide) (by decide)
  have H100 : Hid (∀ W : World, Calls Tryd.prog 41 #[.int .i64 (y - 1), .int .i64 100] W fun e w' => e = .returned (.tuple #[.int .i64 ((y - 1) / 100), .int .i64 ((y - 1) % 100)]) ∧ w' = W.drew) := fun W => parted_any (y - 1) 100 W (by omega) (by omega) (by decide) (by decide)
  have H400 : Hid (∀ W : World, Calls Tryd.prog 41 #[.int .i64 (y - 1), .int .i64 400] W fun e w' => e = .returned (.tuple #[.int .i64 ((y - 1) / 400), .int .i64 ((y - 1) % 400)]) ∧ w' = W.drew) := fun W => parted_any (y - 1) 400 W (by omega) (by omega) (by decide) (by decide)
  have a1 : -1000001 ≤ (y - 1) / 4 ∧ (y - 1) / 4 ≤ 1000000 := by omega
  have a2 : -1000001 ≤ (y - 1) / 100 ∧ (y - 1) / 100 ≤ 1000000 := by omega
  have a3 : -1000001 ≤ (y - 1) / 400 ∧ (y - 1) / 400 ≤ 1000000 := by omega
  unfold lpA
  generalize (y - 1) / 4 = A at *
  generalize (y - 1) / 100 = B at *
  generalize (y - 1) / 400 = C at *
  generalize (y - 1) % 4 = A' at *
  generalize (y - 1) % 100 = B' at *
  generalize (y - 1) % 400 = C' at *
  obtain ⟨p1, p2⟩ := a1
  obtain ⟨p3, p4⟩ := a2
  obtain ⟨p5, p6⟩ := a3
  go_enter Tryd.func44, Tryd.ntmps44
  go_wp2_with fail
  refine (H4.out _).mono ?_
  rintro e w1 ⟨rfl, rfl⟩
  go_wp2_with fail
  refine (H100.out _).mono ?_
  rintro e w2 ⟨rfl, rfl⟩
  go_wp2_with fail
  refine (H400.out _).mono ?_
  rintro e w3 ⟨rfl, rfl⟩
  go_wp2
  go_ret
  refine ⟨rfl, ?_⟩
  repeat' (first | with_reducible exact Below.refl _ _ | with_reducible refine Below.setCell ?_ ?_ _ | with_reducible refine Below.alloc ?_ ?_ _ | with_reducible refine below_drewN ?_ _ | with_reducible refine Below.drew ?_ | with_reducible refine Below.trans ?_ (Below.mono (by assumption) ?_) | with_reducible exact Nat.le_refl _ | with_reducible refine Nat.le_trans ?_ (Below.size (by assumption)) | with_reducible refine Nat.le_trans ?_ (size_alloc _ _) | with_reducible refine Nat.le_trans ?_ (size_set _ _ _) | with_reducible refine Nat.le_trans ?_ (size_drewN _ _) | with_reducible refine Nat.le_trans ?_ (size_drew _) | (simp; done) | (simp; omega) | omega)
set_option maxHeartbeats 1000000 in
theorem daysAhead_any (y : Int) (w : World) (h1 : -100000 ≤ y) (h2 : y ≤ 100000) :
    Calls Tryd.prog 38 #[.int .i64 y] w fun e w' => e = .returned (.int .i64 (dA y)) ∧ Below w.heap.size w w' := by
  have HY : Hid (∀ W : World, Calls Tryd.prog 44 #[.int .i64 y] W fun e w' => e = .returned (.int .i64 (lpA y)) ∧ Below W.heap.size W w') := fun W => leapsAhead_any y W (by omega) (by omega)
  have H0 : Hid (∀ W : World, Calls Tryd.prog 44 #[.int .i64 1900] W fun e w' => e = .returned (.int .i64 460) ∧ Below W.heap.size W w') := fun W => leapsAhead_any 1900 W (by omega) (by omega)
  obtain ⟨b1, b2⟩ := lp_bd y h1 h2
  unfold dA
  generalize lpA y = L at *
  go_enter Tryd.func38, Tryd.ntmps38
  go_wp2_with (first | (go_at_call_of 44 [Value.int IntKind.i64 y]; refine (HY.out _).mono ?_; rintro e w1 ⟨rfl, hb1⟩) | (go_at_call_of 44 [Value.int IntKind.i64 1900]; refine (H0.out _).mono ?_; rintro e w2 ⟨rfl, hb2⟩))
  go_ret
  refine ⟨rfl, ?_⟩
  repeat' (first | with_reducible exact Below.refl _ _ | with_reducible refine Below.setCell ?_ ?_ _ | with_reducible refine Below.alloc ?_ ?_ _ | with_reducible refine below_drewN ?_ _ | with_reducible refine Below.drew ?_ | with_reducible refine Below.trans ?_ (Below.mono (by assumption) ?_) | with_reducible exact Nat.le_refl _ | with_reducible refine Nat.le_trans ?_ (Below.size (by assumption)) | with_reducible refine Nat.le_trans ?_ (size_alloc _ _) | with_reducible refine Nat.le_trans ?_ (size_set _ _ _) | with_reducible refine Nat.le_trans ?_ (size_drewN _ _) | with_reducible refine Nat.le_trans ?_ (size_drew _) | (simp; done) | (simp; omega) | omega)
set_option maxHeartbeats 400000 in
theorem isDay_any (n : Int) (w : World) :
    Calls Tryd.prog 29 #[.int .i64 n] w fun e w' => e = .returned (.bool (decide (1 ≤ n ∧ n ≤ 2958464))) ∧ w' = w := by
  by_cases a : 1 ≤ n
  · by_cases b : n ≤ 2958464
    · rw [decide_eq_true (And.intro a b)]
      go_enter Tryd.func29, Tryd.ntmps29
      go_wp2
      go_ret
      exact ⟨rfl, rfl⟩
    · rw [decide_eq_false (fun h => b h.2)]
      go_enter Tryd.func29, Tryd.ntmps29
      go_wp2
      go_ret
      exact ⟨rfl, rfl⟩
  · rw [decide_eq_false (fun h => a h.1)]
    go_enter Tryd.func29, Tryd.ntmps29
    go_wp2
    go_ret
    exact ⟨rfl, rfl⟩
set_option maxHeartbeats 400000 in
theorem within_any (n m : Int) (w : World) (h1 : 0 ≤ m) (h2 : m ≤ 1000000) :
    Calls Tryd.prog 24 #[.int .i64 n, .int .i64 m] w fun e w' => e = .returned (.bool (decide (-m ≤ n ∧ n ≤ m))) ∧ w' = w := by
  by_cases a : -m ≤ n
  · by_cases b : n ≤ m
    · rw [decide_eq_true (And.intro a b)]
      go_enter Tryd.func24, Tryd.ntmps24
      go_wp2
      go_ret
      exact ⟨rfl, rfl⟩
    · rw [decide_eq_false (fun h => b h.2)]
      go_enter Tryd.func24, Tryd.ntmps24
      go_wp2
      go_ret
      exact ⟨rfl, rfl⟩
  · rw [decide_eq_false (fun h => a h.1)]
    go_enter Tryd.func24, Tryd.ntmps24
    go_wp2
    go_ret
    exact ⟨rfl, rfl⟩
set_option maxHeartbeats 400000 in
theorem daily_any (n : Int) (w : World) :
    Calls Tryd.prog 25 #[.int .i64 n] w fun e w' => e = .returned (.tuple #[.int .i64 (dailyR n).1, .int .i64 (dailyR n).2]) ∧ w' = w := by
  have HI : Hid (∀ W : World, Calls Tryd.prog 29 #[.int .i64 n] W fun e w' => e = .returned (.bool (decide (1 ≤ n ∧ n ≤ 2958464))) ∧ w' = W) := fun W => isDay_any n W
  by_cases a : 1 ≤ n ∧ n ≤ 2958464
  · rw [decide_eq_true a] at HI
    rw [daily_yes a.1 a.2]
    clear a
    go_enter Tryd.func25, Tryd.ntmps25
    go_wp2_with (go_at_call 29; refine (HI.out _).mono ?_; rintro e w' ⟨rfl, rfl⟩)
    go_ret2
    exact ⟨rfl, rfl⟩
  · rw [decide_eq_false a] at HI
    rw [daily_no (by omega)]
    clear a
    go_enter Tryd.func25, Tryd.ntmps25
    go_wp2_with (go_at_call 29; refine (HI.out _).mono ?_; rintro e w' ⟨rfl, rfl⟩)
    go_ret2
    exact ⟨rfl, rfl⟩
end Go.Proofs.YtlhpplhhdeifhaaDoor
