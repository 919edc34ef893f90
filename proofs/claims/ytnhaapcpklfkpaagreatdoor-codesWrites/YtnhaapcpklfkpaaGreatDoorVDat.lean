/-
  Out of Dt0, Dt1, Dt2, Dt3, Dt4, Dt5, what is asked for (laid by pack9.py).
-/
import Derived.Test.YtnhaapcpklfkpaaGreatDoorProg
import Derived.Test.YtnhaapcpklfkpaaGreatDoorShelf
import Derived.Deep.LoopGhost
import Derived.Deep.RegionHeld3
import Derived.Laws.IdiomStrings
import Derived.Lib.AppendIntMem
import Derived.Lib.LaidTab
import Derived.Lib.MinMax
import Derived.Lib.SmallJoins
import Derived.WalkKit
import Derived.WalkLawsBesides
import Derived.WalkSpells
namespace Go.Proofs.YtnhaapcpklfkpaaGreatDoor.Dat
section
open Go.RowKit
theorem hide {p : Prop} (h : p) : Hid p := h
theorem below_drewN {B : Nat} {w w' : World} (h : Below B w w') (n : Nat) : Below B w (w'.drewN n) := by
  induction n with
  | zero => exact h
  | succ n ih => exact ih.drew
/-- A leap year. -/
def leapB (y : Int) : Bool := decide (y % 4 = 0) && (decide (y % 100 ≠ 0) || decide (y % 400 = 0))
theorem leap_iff {y : Int} : leapB y = true ↔ y % 4 = 0 ∧ (y % 100 ≠ 0 ∨ y % 400 = 0) := by unfold leapB; simp
theorem leap_no {y : Int} : leapB y = false ↔ ¬ (y % 4 = 0 ∧ (y % 100 ≠ 0 ∨ y % 400 = 0)) := by rw [← leap_iff, Bool.not_eq_true]
/-- How many leap years lie ahead of a year. -/
def lpA (y : Int) : Int := (y - 1) / 4 - (y - 1) / 100 + (y - 1) / 400
/-- How many days lie ahead of a year, from the day 1 on. -/
def dA (y : Int) : Int := 365 * (y - 1900) + lpA y - 460
/-- How many days a month has. -/
def lenM (y : Int) (m : Nat) : Int := if m = 2 then (if leapB y then 29 else 28) else if m = 4 ∨ m = 6 ∨ m = 9 ∨ m = 11 then 30 else 31
/-- How many days the first months of a year have. -/
def cum (y : Int) : Nat → Int
  | 0 => 0
  | k + 1 => cum y k + lenM y (k + 1)
theorem len_bd (y : Int) (m : Nat) : 28 ≤ lenM y m ∧ lenM y m ≤ 31 := by
  unfold lenM
  split
  · split <;> omega
  · split <;> omega
theorem cum_le (y : Int) (k : Nat) : 28 * (k : Int) ≤ cum y k ∧ cum y k ≤ 31 * (k : Int) := by
  induction k with
  | zero => simp [cum]
  | succ k ih => have := len_bd y (k + 1); simp only [cum]; omega
theorem cum_mono (y : Int) {k j : Nat} (h : k ≤ j) : cum y k ≤ cum y j := by
  induction h with
  | refl => exact Int.le_refl _
  | @step m _ ih => have := len_bd y (m + 1); simp only [cum]; omega
theorem cum_twelve (y : Int) : cum y 12 = if leapB y then 366 else 365 := by
  cases h : leapB y <;> simp [cum, lenM, h]
theorem lp_succ (y : Int) : lpA (y + 1) = lpA y + if leapB y then 1 else 0 := by
  unfold lpA
  rw [show y + 1 - 1 = y by omega]
  cases h : leapB y
  · have h := leap_no.1 h
    rw [if_neg (by decide)]
    by_cases a : y % 4 = 0
    · have h1 : ¬ y % 100 ≠ 0 := fun q => h ⟨a, Or.inl q⟩
      have h2 : ¬ y % 400 = 0 := fun q => h ⟨a, Or.inr q⟩
      clear h
      omega
    · clear h
      omega
  · obtain ⟨a, h⟩ := leap_iff.1 h
    rw [if_pos rfl]
    by_cases b : y % 400 = 0
    · clear h; omega
    · have h1 : y % 100 ≠ 0 := by rcases h with h | h; exact h; exact absurd h b
      clear h; omega
theorem dA_succ (y : Int) : dA (y + 1) = dA y + cum y 12 := by
  unfold dA
  rw [lp_succ, cum_twelve]
  cases leapB y <;> simp <;> omega
theorem dA_lt {y z : Int} (h : y < z) : dA y + 362 ≤ dA z := by unfold dA lpA; omega
theorem dA_mono {y z : Int} (h : y ≤ z) : dA y ≤ dA z := by
  rcases Int.lt_or_eq_of_le h with h | h
  · have := dA_lt h; omega
  · rw [h]; exact Int.le_refl _
theorem dA_first : dA 1900 = 0 := by decide
theorem dA_last : dA 10000 = 2958464 := by decide
theorem dA_bd (y : Int) (h1 : -100000 ≤ y) (h2 : y ≤ 100000) : -40000000 ≤ dA y ∧ dA y ≤ 40000000 := by unfold dA lpA; omega
theorem lp_bd (y : Int) (h1 : -100000 ≤ y) (h2 : y ≤ 100000) : -100000 ≤ lpA y ∧ lpA y ≤ 100000 := by unfold lpA; omega
/-- The date (year, month k + 1, day) is the day n. -/
structure DayIs (y : Int) (k : Nat) (d n : Int) : Prop where
  y1 : 1900 ≤ y
  y2 : y ≤ 9999
  k1 : k < 12
  d1 : 1 ≤ d
  d2 : d ≤ lenM y (k + 1)
  n1 : n = dA y + cum y k + d
theorem DayIs.within {y : Int} {k : Nat} {d n : Int} (h : DayIs y k d n) : dA y < n ∧ n ≤ dA (y + 1) := by
  have h1 := h.d1; have h2 := h.d2; have h3 := h.n1; have h4 := h.k1
  have := cum_le y k
  have := cum_mono y (show k + 1 ≤ 12 by omega)
  simp only [cum] at this
  rw [dA_succ]
  simp only [cum] at *
  omega
theorem DayIs.day {y : Int} {k : Nat} {d n : Int} (h : DayIs y k d n) : 1 ≤ n ∧ n ≤ 2958464 := by
  have h0 := h.within
  have := dA_mono h.y1
  have := dA_mono (show y + 1 ≤ 10000 by have := h.y2; omega)
  rw [dA_first, dA_last] at *
  omega
theorem year_of (n : Int) (h0 : 0 < n) : ∀ j : Nat, n ≤ dA (1900 + j) → ∃ y : Int, 1900 ≤ y ∧ y < 1900 + j ∧ dA y < n ∧ n ≤ dA (y + 1)
  | 0, h => by rw [show (1900 : Int) + ((0 : Nat) : Int) = 1900 by omega, dA_first] at h; omega
  | j + 1, h => by
    by_cases a : n ≤ dA (1900 + j)
    · obtain ⟨y, h1, h2, h3⟩ := year_of n h0 j a
      exact ⟨y, h1, by omega, h3⟩
    · exact ⟨1900 + j, by omega, by omega, by omega, by rw [show (1900 : Int) + j + 1 = 1900 + ((j + 1 : Nat) : Int) by omega]; exact h⟩
theorem month_of (y r : Int) (h0 : 0 < r) : ∀ j : Nat, r ≤ cum y j → ∃ k : Nat, k < j ∧ cum y k < r ∧ r ≤ cum y k + lenM y (k + 1)
  | 0, h => by simp only [cum] at h; omega
  | j + 1, h => by
    by_cases a : r ≤ cum y j
    · obtain ⟨k, h1, h2⟩ := month_of y r h0 j a
      exact ⟨k, by omega, h2⟩
    · exact ⟨j, by omega, by omega, h⟩
theorem day_exists {n : Int} (h1 : 1 ≤ n) (h2 : n ≤ 2958464) : ∃ (y : Int) (k : Nat) (d : Int), DayIs y k d n := by
  obtain ⟨y, a1, a2, a3, a4⟩ := year_of n (by omega) 8100 (by rw [show (1900 : Int) + ((8100 : Nat) : Int) = 10000 by omega, dA_last]; exact h2)
  obtain ⟨k, b1, b2, b3⟩ := month_of y (n - dA y) (by omega) 12 (by rw [dA_succ] at a4; omega)
  exact ⟨y, k, n - dA y - cum y k, a1, by omega, b1, by omega, by omega, by omega⟩
theorem day_unique {y z : Int} {k j : Nat} {d c n : Int} (h : DayIs y k d n) (g : DayIs z j c n) : y = z ∧ k = j ∧ d = c := by
  have hw := h.within
  have gw := g.within
  have e1 : y = z := by
    rcases Int.lt_trichotomy y z with a | a | a
    · have := dA_mono (show y + 1 ≤ z by omega); omega
    · exact a
    · have := dA_mono (show z + 1 ≤ y by omega); omega
  subst e1
  have h1 := h.n1; have h2 := h.d1; have h3 := h.d2
  have g1 := g.n1; have g2 := g.d1; have g3 := g.d2
  have e2 : k = j := by
    rcases Nat.lt_trichotomy k j with a | a | a
    · have := cum_mono y (show k + 1 ≤ j by omega); simp only [cum] at this; omega
    · exact a
    · have := cum_mono y (show j + 1 ≤ k by omega); simp only [cum] at this; omega
  subst e2
  exact ⟨rfl, rfl, by omega⟩
end
section
open Go.RowKit
theorem tm_bd (y d : Int) (h : 0 < d) : -d < y.tmod d ∧ y.tmod d < d := by
  have h1 := Int.natAbs_tmod y d
  have h2 := Nat.mod_lt y.natAbs (show 0 < d.natAbs by omega)
  omega
theorem tm_zero (y d : Int) : (y.tmod d = 0) ↔ y % d = 0 := by rw [← Int.dvd_iff_tmod_eq_zero, ← Int.dvd_iff_emod_eq_zero]
theorem tm_yes {y d : Int} (h : y % d = 0) : (y.tmod d == 0) = true := by rw [beq_iff_eq, tm_zero]; exact h
theorem tm_no {y d : Int} (h : ¬ y % d = 0) : (y.tmod d == 0) = false := by rw [beq_eq_false_iff_ne, ne_eq, tm_zero]; exact h
theorem tm_yes' {y d : Int} (h : y % d = 0) : (y.tmod d != 0) = false := by rw [bne, tm_yes h]; rfl
theorem tm_no' {y d : Int} (h : ¬ y % d = 0) : (y.tmod d != 0) = true := by rw [bne, tm_no h]; rfl
theorem td_lo {n d : Int} (hd : 0 < d) (h : n.tmod d < 0) : n.tdiv d - 1 = n / d ∧ n.tmod d + d = n % d := by
  rw [Int.tdiv_eq_ediv, Int.tmod_eq_emod] at *
  by_cases a : 0 ≤ n ∨ d ∣ n
  · rw [if_pos a] at h
    have := Int.emod_nonneg n (show d ≠ 0 by omega)
    omega
  · rw [if_neg a, if_neg a, Int.sign_eq_one_of_pos hd]
    omega
theorem td_hi {n d : Int} (hd : 0 < d) (h : ¬ n.tmod d < 0) : n.tdiv d = n / d ∧ n.tmod d = n % d := by
  rw [Int.tdiv_eq_ediv, Int.tmod_eq_emod] at *
  by_cases a : 0 ≤ n ∨ d ∣ n
  · rw [if_pos a, if_pos a]
    omega
  · rw [if_neg a] at h
    have := Int.emod_lt_of_pos n hd
    omega
theorem td_bd {n d : Int} (h1 : -1000000000000000000 ≤ n) (h2 : n ≤ 1000000000000000000) : -1000000000000000001 ≤ n.tdiv d ∧ n.tdiv d ≤ 1000000000000000001 := by
  have h := Int.natAbs_tdiv n d
  have : (n.tdiv d).natAbs ≤ n.natAbs := by rw [h]; exact Nat.div_le_self _ _
  omega
set_option maxHeartbeats 1000000 in
theorem leap_any (y : Int) (w : World) :
    Calls Tryz.prog 145 #[.int .i64 y] w fun e w' => e = .returned (.bool (leapB y)) ∧ w' = w := by
  obtain ⟨a1, a2⟩ := tm_bd y 4 (by decide)
  obtain ⟨b1, b2⟩ := tm_bd y 100 (by decide)
  obtain ⟨c1, c2⟩ := tm_bd y 400 (by decide)
  by_cases a : y % 4 = 0
  · have a3 := tm_yes a
    by_cases b : y % 100 = 0
    · have b3 := tm_yes' b
      by_cases c : y % 400 = 0
      · have c3 := tm_yes c
        rw [leap_iff.2 ⟨a, Or.inr c⟩]
        clear a b c
        go_enter Tryz.func145, Tryz.ntmps145
        go_wp2
        go_ret
        exact ⟨rfl, rfl⟩
      · have c3 := tm_no c
        rw [leap_no.2 (by omega)]
        clear a b c
        go_enter Tryz.func145, Tryz.ntmps145
        go_wp2
        go_ret
        exact ⟨rfl, rfl⟩
    · have b3 := tm_no' b
      rw [leap_iff.2 ⟨a, Or.inl b⟩]
      clear a b
      go_enter Tryz.func145, Tryz.ntmps145
      go_wp2
      go_ret
      exact ⟨rfl, rfl⟩
  · have a3 := tm_no a
    rw [leap_no.2 (fun h => a h.1)]
    clear a
    go_enter Tryz.func145, Tryz.ntmps145
    go_wp2
    go_ret
    exact ⟨rfl, rfl⟩
set_option maxHeartbeats 1000000 in
theorem parted_any (n d : Int) (w : World) (h1 : -1000000000000000000 ≤ n) (h2 : n ≤ 1000000000000000000) (hd : 0 < d) (hd2 : d ≤ 1000) :
    Calls Tryz.prog 166 #[.int .i64 n, .int .i64 d] w fun e w' => e = .returned (.tuple #[.int .i64 (n / d), .int .i64 (n % d)]) ∧ w' = w.drew := by
  obtain ⟨a1, a2⟩ := tm_bd n d hd
  obtain ⟨b1, b2⟩ := td_bd (d := d) h1 h2
  have z3 : (d = 0) = False := eq_false (by omega)
  have hS0 : Below w.heap.size w w := Below.refl _ _
  have v1 : IntKind.i64.wrap (n.tdiv d) = n.tdiv d := by rw [IntKind.wrap_i64]; omega
  have v2 : IntKind.i64.wrap (n.tmod d) = n.tmod d := by rw [IntKind.wrap_i64]; omega
  by_cases a : n.tmod d < 0
  · obtain ⟨e1, e2⟩ := td_lo hd a
    rw [← e1, ← e2]
    clear e1 e2
    go_enter Tryz.func166, Tryz.ntmps166
    go_wp2
    go_region_held3 (fun w' => Below w.heap.size w w') (first | assumption | exact Below.drew (by assumption)) (fail)
    go_wp2
    go_ret2
    exact ⟨rfl, rfl⟩
  · obtain ⟨e1, e2⟩ := td_hi hd a
    rw [← e1, ← e2]
    clear e1 e2
    go_enter Tryz.func166, Tryz.ntmps166
    go_wp2
    go_region_held3 (fun w' => Below w.heap.size w w') (first | assumption | exact Below.drew (by assumption)) (fail)
    go_wp2
    go_ret2
    exact ⟨rfl, rfl⟩
set_option maxHeartbeats 1000000 in
theorem leapsAhead_any (y : Int) (w : World) (h1 : -1000000 ≤ y) (h2 : y ≤ 1000000) :
    Calls Tryz.prog 144 #[.int .i64 y] w fun e w' => e = .returned (.int .i64 (lpA y)) ∧ Below w.heap.size w w' := by
  have H4 : Hid (∀ W : World, Calls Tryz.prog 166 #[.int .i64 (y - 1), .int .i64 4] W fun e w' => e = .returned (.tuple #[.int .i64 ((y - 1) / 4), .int .i64 ((y - 1) % 4)]) ∧ w' = W.drew) := fun W => parted_any (y - 1) 4 W (by omega) (by omega) (by decide) (by decide)
  have H100 : Hid (∀ W : World, Calls Tryz.prog 166 #[.int .i64 (y - 1), .int .i64 100] W fun e w' => e = .returned (.tuple #[.int .i64 ((y - 1) / 100), .int .i64 ((y - 1) % 100)]) ∧ w' = W.drew) := fun W => parted_any (y - 1) 100 W (by omega) (by omega) (by decide) (by decide)
  have H400 : Hid (∀ W : World, Calls Tryz.prog 166 #[.int .i64 (y - 1), .int .i64 400] W fun e w' => e = .returned (.tuple #[.int .i64 ((y - 1) / 400), .int .i64 ((y - 1) % 400)]) ∧ w' = W.drew) := fun W => parted_any (y - 1) 400 W (by omega) (by omega) (by decide) (by decide)
  have a1 : -1000001 ≤ (y - 1) / 4 ∧ (y - 1) / 4 ≤ 1000000 := by omega
  have a2 : -1000001 ≤ (y - 1) / 100 ∧ (y - 1) / 100 ≤ 1000000 := by omega
  have a3 : -1000001 ≤ (y - 1) / 400 ∧ (y - 1) / 400 ≤ 1000000 := by omega
  unfold lpA
  generalize (y - 1) / 4 = A at *
  generalize (y - 1) / 100 = B at *
  generalize (y - 1) / 400 = C at *
  generalize (y - 1) % 4 = A' at *
  generalize (y - 1) % 100 = B' at *
  generalize (y - 1) % 400 = C' at *
  obtain ⟨p1, p2⟩ := a1
  obtain ⟨p3, p4⟩ := a2
  obtain ⟨p5, p6⟩ := a3
  go_enter Tryz.func144, Tryz.ntmps144
  go_wp2_with fail
  refine (H4.out _).mono ?_
  rintro e w1 ⟨rfl, rfl⟩
  go_wp2_with fail
  refine (H100.out _).mono ?_
  rintro e w2 ⟨rfl, rfl⟩
  go_wp2_with fail
  refine (H400.out _).mono ?_
  rintro e w3 ⟨rfl, rfl⟩
  go_wp2
  go_ret
  refine ⟨rfl, ?_⟩
  repeat' (first | with_reducible exact Below.refl _ _ | with_reducible refine Below.setCell ?_ ?_ _ | with_reducible refine Below.alloc ?_ ?_ _ | with_reducible refine below_drewN ?_ _ | with_reducible refine Below.drew ?_ | with_reducible refine Below.trans ?_ (Below.mono (by assumption) ?_) | with_reducible exact Nat.le_refl _ | with_reducible refine Nat.le_trans ?_ (Below.size (by assumption)) | with_reducible refine Nat.le_trans ?_ (size_alloc _ _) | with_reducible refine Nat.le_trans ?_ (size_set _ _ _) | with_reducible refine Nat.le_trans ?_ (size_drewN _ _) | with_reducible refine Nat.le_trans ?_ (size_drew _) | (simp; done) | (simp; omega) | omega)
set_option maxHeartbeats 1000000 in
theorem daysAhead_any (y : Int) (w : World) (h1 : -100000 ≤ y) (h2 : y ≤ 100000) :
    Calls Tryz.prog 120 #[.int .i64 y] w fun e w' => e = .returned (.int .i64 (dA y)) ∧ Below w.heap.size w w' := by
  have HY : Hid (∀ W : World, Calls Tryz.prog 144 #[.int .i64 y] W fun e w' => e = .returned (.int .i64 (lpA y)) ∧ Below W.heap.size W w') := fun W => leapsAhead_any y W (by omega) (by omega)
  have H0 : Hid (∀ W : World, Calls Tryz.prog 144 #[.int .i64 1900] W fun e w' => e = .returned (.int .i64 460) ∧ Below W.heap.size W w') := fun W => leapsAhead_any 1900 W (by omega) (by omega)
  obtain ⟨b1, b2⟩ := lp_bd y h1 h2
  unfold dA
  generalize lpA y = L at *
  go_enter Tryz.func120, Tryz.ntmps120
  go_wp2_with (first | (go_at_call_of 144 [Value.int IntKind.i64 y]; refine (HY.out _).mono ?_; rintro e w1 ⟨rfl, hb1⟩) | (go_at_call_of 144 [Value.int IntKind.i64 1900]; refine (H0.out _).mono ?_; rintro e w2 ⟨rfl, hb2⟩))
  go_ret
  refine ⟨rfl, ?_⟩
  repeat' (first | with_reducible exact Below.refl _ _ | with_reducible refine Below.setCell ?_ ?_ _ | with_reducible refine Below.alloc ?_ ?_ _ | with_reducible refine below_drewN ?_ _ | with_reducible refine Below.drew ?_ | with_reducible refine Below.trans ?_ (Below.mono (by assumption) ?_) | with_reducible exact Nat.le_refl _ | with_reducible refine Nat.le_trans ?_ (Below.size (by assumption)) | with_reducible refine Nat.le_trans ?_ (size_alloc _ _) | with_reducible refine Nat.le_trans ?_ (size_set _ _ _) | with_reducible refine Nat.le_trans ?_ (size_drewN _ _) | with_reducible refine Nat.le_trans ?_ (size_drew _) | (simp; done) | (simp; omega) | omega)
set_option maxHeartbeats 400000 in
theorem isDay_any (n : Int) (w : World) :
    Calls Tryz.prog 87 #[.int .i64 n] w fun e w' => e = .returned (.bool (decide (1 ≤ n ∧ n ≤ 2958464))) ∧ w' = w := by
  by_cases a : 1 ≤ n
  · by_cases b : n ≤ 2958464
    · rw [decide_eq_true (And.intro a b)]
      go_enter Tryz.func87, Tryz.ntmps87
      go_wp2
      go_ret
      exact ⟨rfl, rfl⟩
    · rw [decide_eq_false (fun h => b h.2)]
      go_enter Tryz.func87, Tryz.ntmps87
      go_wp2
      go_ret
      exact ⟨rfl, rfl⟩
  · rw [decide_eq_false (fun h => a h.1)]
    go_enter Tryz.func87, Tryz.ntmps87
    go_wp2
    go_ret
    exact ⟨rfl, rfl⟩
end
section
open Go.RowKit
/-- The months' lengths. -/
def lensL : List Int := [31, 28, 31, 30, 31, 30, 31, 31, 30, 31, 30, 31]
/-- The table of lengths lies as it was laid. -/
def LenOk (w : World) : Prop := Lib.TabIs Tryz.prog w "foolscap/dates.lengths" .i64 lensL
theorem gLen : Tryz.prog.globalNamed "foolscap/dates.lengths" = some 0 := by kernel_rfl
theorem len_below {w w' : World} (h : LenOk w) (hb : Below w.heap.size w w') : LenOk w' := Go.Joins.tab_stays gLen h hb (Nat.le_refl _)
theorem len_cell {w : World} (h : LenOk w) {k : Nat} (hk : k < 12) : w.cell? ⟨0, k, none⟩ = some (.int .i64 (lensL.getD k 0)) := by
  rw [World.var?_cell gLen h k]
  have : k = 0 ∨ k = 1 ∨ k = 2 ∨ k = 3 ∨ k = 4 ∨ k = 5 ∨ k = 6 ∨ k = 7 ∨ k = 8 ∨ k = 9 ∨ k = 10 ∨ k = 11 := by omega
  rcases this with rfl | rfl | rfl | rfl | rfl | rfl | rfl | rfl | rfl | rfl | rfl | rfl <;> rfl
theorem lens_other (y : Int) {k : Nat} (hk : k < 12) (h1 : k ≠ 1) : lensL.getD k 0 = lenM y (k + 1) := by
  have : k = 0 ∨ k = 2 ∨ k = 3 ∨ k = 4 ∨ k = 5 ∨ k = 6 ∨ k = 7 ∨ k = 8 ∨ k = 9 ∨ k = 10 ∨ k = 11 := by omega
  rcases this with rfl | rfl | rfl | rfl | rfl | rfl | rfl | rfl | rfl | rfl | rfl <;> rfl
set_option maxHeartbeats 1000000 in
theorem lengthOf_any (y : Int) (k : Nat) (w : World) (hk : k < 12) (ht : LenOk w) :
    Calls Tryz.prog 121 #[.int .i64 y, .int .i64 ((k : Int) + 1)] w fun e w' => e = .returned (.int .i64 (lenM y (k + 1))) ∧ w' = w := by
  have HL : Hid (∀ W : World, Calls Tryz.prog 145 #[.int .i64 y] W fun e w' => e = .returned (.bool (leapB y)) ∧ w' = W) := fun W => leap_any y W
  have hc := len_cell ht hk
  clear ht
  by_cases h1 : k = 1
  · subst h1
    cases h : leapB y
    · rw [h] at HL
      rw [show lenM y (1 + 1) = 28 by simp [lenM, h]]
      rw [show lensL.getD 1 0 = 28 from rfl] at hc
      clear h
      go_enter Tryz.func121, Tryz.ntmps121
      go_wp2_with (go_at_call 145; refine (HL.out _).mono ?_; rintro e w' ⟨rfl, rfl⟩)
      go_ret
      exact ⟨rfl, rfl⟩
    · rw [h] at HL
      rw [show lenM y (1 + 1) = 29 by simp [lenM, h]]
      rw [show lensL.getD 1 0 = 28 from rfl] at hc
      clear h
      go_enter Tryz.func121, Tryz.ntmps121
      go_wp2_with (go_at_call 145; refine (HL.out _).mono ?_; rintro e w' ⟨rfl, rfl⟩)
      go_ret
      exact ⟨rfl, rfl⟩
  · rw [lens_other y hk h1] at hc
    generalize lenM y (k + 1) = L at *
    have e1 : ((k : Int) + 1 == 2) = false := by rw [beq_eq_false_iff_ne]; omega
    have i1 : (0 : Int) ≤ (k : Int) := by omega
    have i2 : (k : Int) < 12 := by omega
    clear h1 hk HL
    go_enter Tryz.func121, Tryz.ntmps121
    go_wp2
    go_ret
    exact ⟨rfl, rfl⟩
/-- Three numbers lie in a block. -/
def At3 (w : World) (b : Nat) (x y z : Int) : Prop := b < w.heap.size ∧ w.cell? ⟨b, 0, none⟩ = some (.int .i64 x) ∧ w.cell? ⟨b, 1, none⟩ = some (.int .i64 y) ∧ w.cell? ⟨b, 2, none⟩ = some (.int .i64 z)
/-- .. that may be written. -/
def Has3 (w : World) (b : Nat) (x y z : Int) : Prop := At3 w b x y z ∧ w.frozen? ⟨b, 0, none⟩ = false ∧ w.frozen? ⟨b, 1, none⟩ = false ∧ w.frozen? ⟨b, 2, none⟩ = false
theorem Has3.new (w : World) (x y z : Int) (t : TypeId) : Has3 (w.alloc (.cells #[.int .i64 x, .int .i64 y, .int .i64 z] t)) w.heap.size x y z := ⟨⟨by simp, by simp [go_sem], by simp [go_sem], by simp [go_sem]⟩, by simp, by simp, by simp⟩
theorem At3.below {w w' : World} {b : Nat} {x y z : Int} (h : At3 w b x y z) (k : Below w.heap.size w w') : At3 w' b x y z :=
  ⟨Nat.lt_of_lt_of_le h.1 k.size, by rw [k.cell (p := ⟨b, 0, none⟩) h.1]; exact h.2.1, by rw [k.cell (p := ⟨b, 1, none⟩) h.1]; exact h.2.2.1, by rw [k.cell (p := ⟨b, 2, none⟩) h.1]; exact h.2.2.2⟩
theorem Has3.below {w w' : World} {b : Nat} {x y z : Int} (h : Has3 w b x y z) (k : Below w.heap.size w w') : Has3 w' b x y z :=
  ⟨h.1.below k, by rw [k.frozen (p := ⟨b, 0, none⟩) h.1.1]; exact h.2.1, by rw [k.frozen (p := ⟨b, 1, none⟩) h.1.1]; exact h.2.2.1, by rw [k.frozen (p := ⟨b, 2, none⟩) h.1.1]; exact h.2.2.2⟩
theorem Has3.drew {w : World} {b : Nat} {x y z : Int} (h : Has3 w b x y z) : Has3 w.drew b x y z := h.below (Below.refl _ _).drew
theorem Has3.alloc {w : World} {b : Nat} {x y z : Int} (h : Has3 w b x y z) (o : Obj) : Has3 (w.alloc o) b x y z := h.below ((Below.refl _ _).alloc (Nat.le_refl _) o)
/-- Three numbers lie in a block; all that was there at the start is as it was. -/
def S3 (w0 : World) (b : Nat) (x y z : Int) (w' : World) : Prop := w'.cell? ⟨b, 0, none⟩ = some (.int .i64 x) ∧ w'.cell? ⟨b, 1, none⟩ = some (.int .i64 y) ∧ w'.cell? ⟨b, 2, none⟩ = some (.int .i64 z) ∧ b < w'.heap.size ∧ Below w0.heap.size w0 w'
theorem S3.below {w0 w w' : World} {b : Nat} {x y z : Int} (h : S3 w0 b x y z w) (k : Below w.heap.size w w') : S3 w0 b x y z w' :=
  have ⟨h0, h1, h2, h3, h4⟩ := h
  ⟨by rw [k.cell (p := ⟨b, 0, none⟩) h3]; exact h0, by rw [k.cell (p := ⟨b, 1, none⟩) h3]; exact h1, by rw [k.cell (p := ⟨b, 2, none⟩) h3]; exact h2, Nat.lt_of_lt_of_le h3 k.size, h4.trans (k.mono h4.size)⟩
theorem S3.drew {w0 w : World} {b : Nat} {x y z : Int} (h : S3 w0 b x y z w) : S3 w0 b x y z w.drew := h.below (Below.refl _ _).drew
end
section
open Go.RowKit
theorem start_year {n y : Int} (h1 : 1900 ≤ y) (h2 : n ≤ dA (y + 1)) (h3 : 1 ≤ n) : 1900 + (n - 1) / 366 ≤ y := by
  unfold dA lpA at h2
  omega
/-- The parts in block b, the result in block a; all that was there at the start is as it was. -/
structure P2 (w0 : World) (a b : Nat) (x y z : Int) (w : World) : Prop where
  p : Has3 w b x y z
  r : Has3 w a 0 0 0
  k : Below w0.heap.size w0 w
  ab : a ≠ b
  b0 : w0.heap.size ≤ b
  a0 : w0.heap.size ≤ a
theorem P2.below {w0 w w' : World} {a b : Nat} {x y z : Int} (h : P2 w0 a b x y z w) (q : Below w.heap.size w w') : P2 w0 a b x y z w' :=
  ⟨h.p.below q, h.r.below q, h.k.trans (q.mono h.k.size), h.ab, h.b0, h.a0⟩
theorem P2.drew {w0 w : World} {a b : Nat} {x y z : Int} (h : P2 w0 a b x y z w) : P2 w0 a b x y z w.drew := h.below (Below.refl _ _).drew
theorem P2.set0 {w0 w : World} {a b : Nat} {x y z : Int} (h : P2 w0 a b x y z w) (v : Int) : P2 w0 a b v y z (w.setCell ⟨b, 0, none⟩ (.int .i64 v)) := by
  obtain ⟨⟨⟨h0, h1, h2, h3⟩, f0, f1, f2⟩, ⟨⟨g0, g1, g2, g3⟩, e0, e1, e2⟩, k, ab, b0, a0⟩ := h
  refine ⟨⟨⟨by simpa using h0, ?_, ?_, ?_⟩, ?_, ?_, ?_⟩, ⟨⟨by simpa using g0, ?_, ?_, ?_⟩, ?_, ?_, ?_⟩, Below.setCell k b0 _, ab, b0, a0⟩ <;> simp [go_sem, *]
theorem P2.set1 {w0 w : World} {a b : Nat} {x y z : Int} (h : P2 w0 a b x y z w) (v : Int) : P2 w0 a b x v z (w.setCell ⟨b, 1, none⟩ (.int .i64 v)) := by
  obtain ⟨⟨⟨h0, h1, h2, h3⟩, f0, f1, f2⟩, ⟨⟨g0, g1, g2, g3⟩, e0, e1, e2⟩, k, ab, b0, a0⟩ := h
  refine ⟨⟨⟨by simpa using h0, ?_, ?_, ?_⟩, ?_, ?_, ?_⟩, ⟨⟨by simpa using g0, ?_, ?_, ?_⟩, ?_, ?_, ?_⟩, Below.setCell k b0 _, ab, b0, a0⟩ <;> simp [go_sem, *]
theorem P2.set2 {w0 w : World} {a b : Nat} {x y z : Int} (h : P2 w0 a b x y z w) (v : Int) : P2 w0 a b x y v (w.setCell ⟨b, 2, none⟩ (.int .i64 v)) := by
  obtain ⟨⟨⟨h0, h1, h2, h3⟩, f0, f1, f2⟩, ⟨⟨g0, g1, g2, g3⟩, e0, e1, e2⟩, k, ab, b0, a0⟩ := h
  refine ⟨⟨⟨by simpa using h0, ?_, ?_, ?_⟩, ?_, ?_, ?_⟩, ⟨⟨by simpa using g0, ?_, ?_, ?_⟩, ?_, ?_, ?_⟩, Below.setCell k b0 _, ab, b0, a0⟩ <;> simp [go_sem, *]
theorem P2.new (w : World) (x y z : Int) (t t' : TypeId) : P2 w w.heap.size (w.heap.size + 1) x y z ((w.alloc (.cells #[.int .i64 0, .int .i64 0, .int .i64 0] t)).alloc (.cells #[.int .i64 x, .int .i64 y, .int .i64 z] t')) := by
  have := Has3.new (w.alloc (.cells #[.int .i64 0, .int .i64 0, .int .i64 0] t)) x y z t'
  exact ⟨by simpa using this, (Has3.new w 0 0 0 t).alloc _, ((Below.refl _ _).alloc (Nat.le_refl _) _).alloc (by simp) _, by omega, by omega, Nat.le_refl _⟩
theorem P2.t {w0 w : World} {a b : Nat} {x y z : Int} (h : P2 w0 a b x y z w) : w.cell? ⟨b, 0, none⟩ = some (.int .i64 x) ∧ w.cell? ⟨b, 1, none⟩ = some (.int .i64 y) ∧ w.cell? ⟨b, 2, none⟩ = some (.int .i64 z) ∧ P2 w0 a b x y z w := ⟨h.p.1.2.1, h.p.1.2.2.1, h.p.1.2.2.2, h⟩
theorem T2.drew {w0 w : World} {a b : Nat} {x y z : Int} (h : w.cell? ⟨b, 0, none⟩ = some (.int .i64 x) ∧ w.cell? ⟨b, 1, none⟩ = some (.int .i64 y) ∧ w.cell? ⟨b, 2, none⟩ = some (.int .i64 z) ∧ P2 w0 a b x y z w) : w.drew.cell? ⟨b, 0, none⟩ = some (.int .i64 x) ∧ w.drew.cell? ⟨b, 1, none⟩ = some (.int .i64 y) ∧ w.drew.cell? ⟨b, 2, none⟩ = some (.int .i64 z) ∧ P2 w0 a b x y z w.drew := h.2.2.2.drew.t
theorem T2.out {w0 w : World} {a b : Nat} {x y z : Int} (h : w.cell? ⟨b, 0, none⟩ = some (.int .i64 x) ∧ w.cell? ⟨b, 1, none⟩ = some (.int .i64 y) ∧ w.cell? ⟨b, 2, none⟩ = some (.int .i64 z) ∧ P2 w0 a b x y z w) : P2 w0 a b x y z w := h.2.2.2
set_option maxHeartbeats 2000000 in
theorem partsOf_any (y : Int) (k : Nat) (d n : Int) (w : World) (h : DayIs y k d n) (ht : LenOk w) :
    Calls Tryz.prog 88 #[.int .i64 n] w fun e w' => e = .returned (.agg #[.int .i64 y, .int .i64 ((k : Int) + 1), .int .i64 d]) ∧ Below w.heap.size w w' := by
  have HT := hide ht
  clear ht
  obtain ⟨n1, n2⟩ := h.day
  obtain ⟨r1, r2⟩ := h.within
  have y1 := h.y1
  have y2 := h.y2
  have s0 := start_year y1 r2 n1
  have s1 : 0 ≤ n - 1 := by omega
  have HH := hide h
  clear h
  go_enter Tryz.func88, Tryz.ntmps88
  go_wp2
  have hP := P2.new w (1900 + (n - 1) / 366) 1 1 136 136
  generalize ((w.alloc (Obj.cells #[.int .i64 0, .int .i64 0, .int .i64 0] 136)).alloc (Obj.cells #[.int .i64 (1900 + (n - 1) / 366), .int .i64 1, .int .i64 1] 136)) = W0 at *
  obtain ⟨G, hG⟩ : ∃ G : Nat, 1900 + (n - 1) / 366 + (G : Int) = y := ⟨(y - (1900 + (n - 1) / 366)).toNat, by omega⟩
  go_loopg [] G (fun g wx => ∃ q : Int, 1900 ≤ q ∧ q + (g : Int) = y ∧ P2 w w.heap.size (w.heap.size + 1) q 1 1 wx)
  case atStart => exact ⟨_, by omega, hG, hP⟩
  case round =>
    obtain ⟨q, hq, hqg, hp⟩ := hrel
    have ⟨⟨⟨z0, c0, c1, c2⟩, f0, f1, f2⟩, ⟨⟨z1, d0, d1, d2⟩, g0, g1, g2⟩, hB, _, _, _⟩ := hp
    have HP := hide hp
    have HD : Hid (∀ W : World, Calls Tryz.prog 120 #[.int .i64 (q + 1)] W fun e w' => e = .returned (.int .i64 (dA (q + 1))) ∧ Below W.heap.size W w') := fun W => daysAhead_any (q + 1) W (by omega) (by omega)
    cases gk with
    | zero =>
      obtain rfl : q = y := by omega
      have l1 : ¬ dA (q + 1) < n := by omega
      go_wp2_with fail
      refine (HD.out _).mono ?_
      rintro e w1 ⟨rfl, hb1⟩
      have HP1 := hide (HP.out.below hb1)
      have ⟨⟨⟨z0, c0, c1, c2⟩, f0, f1, f2⟩, ⟨⟨z1, d0, d1, d2⟩, g0, g1, g2⟩, hB, _, _, _⟩ := HP1.out
      have HD2 : Hid (∀ W : World, Calls Tryz.prog 120 #[.int .i64 q] W fun e w' => e = .returned (.int .i64 (dA q)) ∧ Below W.heap.size W w') := fun W => daysAhead_any q W (by omega) (by omega)
      have ⟨b1, b2⟩ := dA_bd q (by omega) (by omega)
      go_wp2_with fail
      refine (HD2.out _).mono ?_
      rintro e w2 ⟨rfl, hb2⟩
      have HP2 := hide (HP1.out.below hb2)
      clear z0 c0 c1 c2 f0 f1 f2 z1 d0 d1 d2 g0 g1 g2 hB HP1 HP
      have ⟨⟨⟨z0, c0, c1, c2⟩, f0, f1, f2⟩, ⟨⟨z1, d0, d1, d2⟩, g0, g1, g2⟩, hB, _, _, _⟩ := HP2.out
      go_wp2
      have HP3 := hide (HP2.out.set2 (n - dA q))
      clear z0 c0 c1 c2 f0 f1 f2 z1 d0 d1 d2 g0 g1 g2 hB HP2
      generalize w2.setCell ⟨w.heap.size + 1, 2, none⟩ (.int .i64 (n - dA q)) = w3 at *
      have HN := hide HH.out.n1
      have HK := hide HH.out.k1
      have HE1 := hide HH.out.d1
      have HE2 := hide HH.out.d2
      generalize dA q = D at *
      go_loopg [] k (fun g wx => ∃ j : Nat, j + g = k ∧ P2 w w.heap.size (w.heap.size + 1) q ((j : Int) + 1) (n - D - cum q j) wx)
      case atStart => exact ⟨0, by omega, by have := HP3.out; simpa [cum] using this⟩
      case round =>
        obtain ⟨j, hjg, hp⟩ := hrel
        have HP := hide hp
        clear hp HP3
        have q0 := cum_le q j
        have HJ : Hid (j < 12) := by have := HK.out; show j < 12; omega
        have hj : (j : Int) < 12 := by have := HJ.out; omega
        have HL : Hid (∀ W : World, P2 w w.heap.size (w.heap.size + 1) q ((j : Int) + 1) (n - D - cum q j) W → Calls Tryz.prog 121 #[.int .i64 q, .int .i64 ((j : Int) + 1)] W fun e w' => e = .returned (.int .i64 (lenM q (j + 1))) ∧ w' = W) := fun W hW => lengthOf_any q j W HJ.out (len_below HT.out hW.k)
        have HCu : Hid (cum q (j + 1) = cum q j + lenM q (j + 1)) := rfl
        have hl := len_bd q (j + 1)
        cases gk with
        | zero =>
          obtain rfl : j = k := by omega
          have l1 : ¬ lenM q (j + 1) < n - D - cum q j := by have := HN.out; have := HE2.out; omega
          have l2 : n - D - cum q j = d := by have := HN.out; omega
          rw [l2] at l1 HP HL
          generalize lenM q (j + 1) = L at *
          have ⟨⟨⟨z0, c0, c1, c2⟩, f0, f1, f2⟩, ⟨⟨z1, d0, d1, d2⟩, g0, g1, g2⟩, hB, _, _, _⟩ := HP.out
          clear l2
          have HS := hide HP.out.t
          clear z0 c0 c1 c2 f0 f1 f2 z1 d0 d1 d2 g0 g1 g2 hB
          go_wp2_with fail
          go_region_held3 (fun w' => w'.cell? ⟨w.heap.size + 1, 0, none⟩ = some (.int .i64 q) ∧ w'.cell? ⟨w.heap.size + 1, 1, none⟩ = some (.int .i64 ((j : Int) + 1)) ∧ w'.cell? ⟨w.heap.size + 1, 2, none⟩ = some (.int .i64 d) ∧ P2 w w.heap.size (w.heap.size + 1) q ((j : Int) + 1) d w') (first | exact HS.out | assumption | exact T2.drew (by assumption)) (first | (go_at_call 121; refine (HL.out _ (T2.out (by assumption))).mono ?_; rintro e wz ⟨rfl, hz⟩; subst wz))
          have HP4 := hide HP.out.drew
          clear HS
          generalize wr.drew = w4 at *
          have ⟨⟨⟨z0, c0, c1, c2⟩, f0, f1, f2⟩, ⟨⟨z1, d0, d1, d2⟩, g0, g1, g2⟩, hB, _, _, _⟩ := HP4.out
          go_wp2
          refine bodyPost_ret (v := .agg #[.int .i64 q, .int .i64 ((j : Int) + 1), .int .i64 d]) (by simp [results, Tryz.results88, go_sem, *]) rfl ⟨rfl, ?_⟩
          repeat' (first | with_reducible exact Below.refl _ _ | with_reducible refine Below.setCell ?_ ?_ _ | with_reducible refine Below.alloc ?_ ?_ _ | with_reducible refine below_drewN ?_ _ | with_reducible refine Below.drew ?_ | with_reducible refine Below.trans ?_ (Below.mono (by assumption) ?_) | with_reducible exact Nat.le_refl _ | with_reducible refine Nat.le_trans ?_ (Below.size (by assumption)) | with_reducible refine Nat.le_trans ?_ (size_alloc _ _) | with_reducible refine Nat.le_trans ?_ (size_set _ _ _) | with_reducible refine Nat.le_trans ?_ (size_drewN _ _) | with_reducible refine Nat.le_trans ?_ (size_drew _) | (simp; done) | (simp; omega) | omega)
        | succ g =>
          have l1 : lenM q (j + 1) < n - D - cum q j := by have := HN.out; have := HE1.out; have := cum_mono q (show j + 1 ≤ k by omega); rw [HCu.out] at this; omega
          obtain ⟨V, hV⟩ : ∃ V : Int, V = n - D - cum q j := ⟨_, rfl⟩
          rw [← hV] at l1 HP HL
          have HV : Hid (V - lenM q (j + 1) = n - D - cum q (j + 1)) := by show _ = _; rw [HCu.out, hV]; omega
          have v1 : V ≤ 1000 := by have := HN.out; have := HE2.out; have := cum_le q k; have := len_bd q (k + 1); have := HK.out; omega
          generalize lenM q (j + 1) = L at *
          have ⟨⟨⟨z0, c0, c1, c2⟩, f0, f1, f2⟩, ⟨⟨z1, d0, d1, d2⟩, g0, g1, g2⟩, hB, _, _, _⟩ := HP.out
          clear hV
          obtain ⟨q5, q6⟩ := hl
          have v2 : IntKind.i64.wrap (V - L) = V - L := by rw [IntKind.wrap_i64]; omega
          have HS := hide HP.out.t
          clear z0 c0 c1 c2 f0 f1 f2 z1 d0 d1 d2 g0 g1 g2 hB
          go_wp2_with fail
          go_region_held3 (fun w' => w'.cell? ⟨w.heap.size + 1, 0, none⟩ = some (.int .i64 q) ∧ w'.cell? ⟨w.heap.size + 1, 1, none⟩ = some (.int .i64 ((j : Int) + 1)) ∧ w'.cell? ⟨w.heap.size + 1, 2, none⟩ = some (.int .i64 V) ∧ P2 w w.heap.size (w.heap.size + 1) q ((j : Int) + 1) V w') (first | exact HS.out | assumption | exact T2.drew (by assumption)) (first | (go_at_call 121; refine (HL.out _ (T2.out (by assumption))).mono ?_; rintro e wz ⟨rfl, hz⟩; subst wz))
          have HP4 := hide HP.out.drew
          clear HS
          generalize wr.drew = w4 at *
          have ⟨⟨⟨z0, c0, c1, c2⟩, f0, f1, f2⟩, ⟨⟨z1, d0, d1, d2⟩, g0, g1, g2⟩, hB, _, _, _⟩ := HP4.out
          go_wp2_with fail
          go_region_with (first | (go_at_call 121; refine (HL.out _ (by first | exact HP4.out | exact HP4.out.drew | exact HP4.out.drew.drew)).mono ?_; rintro e wz ⟨rfl, hz⟩; subst wz))
          all_goals go_wp2
          all_goals go_roundg g
          all_goals first | (show g < g + 1; omega) | skip
          all_goals
            refine ⟨j + 1, by omega, ?_⟩
            have HQ := (HP4.out.set2 (V - L)).drew.set1 ((j : Int) + 1 + 1)
            rw [HV.out] at HQ ⊢
            rw [show ((j + 1 : Nat) : Int) + 1 = (j : Int) + 1 + 1 by omega]
            first | exact HQ | exact ((HP4.out.set2 _).set1 _).drew
    | succ g =>
      have l1 : dA (q + 1) < n := by have := dA_mono (show q + 1 ≤ y by omega); omega
      go_wp2_with fail
      refine (HD.out _).mono ?_
      rintro e w1 ⟨rfl, hb1⟩
      have HP1 := hide (HP.out.below hb1)
      have ⟨⟨⟨z0, c0, c1, c2⟩, f0, f1, f2⟩, ⟨⟨z1, d0, d1, d2⟩, g0, g1, g2⟩, hB, _, _, _⟩ := HP1.out
      go_wp2
      go_roundg g
      case measure => omega
      case rel => exact ⟨q + 1, by omega, by omega, HP1.out.set0 _⟩
end
section
open Go.RowKit
/-- The parts in block b; all that was there at the start is as it was. -/
structure Q3 (w0 : World) (b : Nat) (x y z : Int) (w : World) : Prop where
  p : Has3 w b x y z
  k : Below w0.heap.size w0 w
  b0 : w0.heap.size ≤ b
theorem Q3.below {w0 w w' : World} {b : Nat} {x y z : Int} (h : Q3 w0 b x y z w) (q : Below w.heap.size w w') : Q3 w0 b x y z w' := ⟨h.p.below q, h.k.trans (q.mono h.k.size), h.b0⟩
theorem Q3.drew {w0 w : World} {b : Nat} {x y z : Int} (h : Q3 w0 b x y z w) : Q3 w0 b x y z w.drew := h.below (Below.refl _ _).drew
theorem Q3.set1 {w0 w : World} {b : Nat} {x y z : Int} (h : Q3 w0 b x y z w) (v : Int) : Q3 w0 b x v z (w.setCell ⟨b, 1, none⟩ (.int .i64 v)) := by
  obtain ⟨⟨⟨h0, h1, h2, h3⟩, f0, f1, f2⟩, k, b0⟩ := h
  refine ⟨⟨⟨by simpa using h0, ?_, ?_, ?_⟩, ?_, ?_, ?_⟩, Below.setCell k b0 _, b0⟩ <;> simp [go_sem, *]
theorem Q3.set2 {w0 w : World} {b : Nat} {x y z : Int} (h : Q3 w0 b x y z w) (v : Int) : Q3 w0 b x y v (w.setCell ⟨b, 2, none⟩ (.int .i64 v)) := by
  obtain ⟨⟨⟨h0, h1, h2, h3⟩, f0, f1, f2⟩, k, b0⟩ := h
  refine ⟨⟨⟨by simpa using h0, ?_, ?_, ?_⟩, ?_, ?_, ?_⟩, Below.setCell k b0 _, b0⟩ <;> simp [go_sem, *]
theorem Q3.new {w0 w : World} (k : Below w0.heap.size w0 w) (x y z : Int) (t : TypeId) : Q3 w0 w.heap.size x y z (w.alloc (.cells #[.int .i64 x, .int .i64 y, .int .i64 z] t)) := ⟨Has3.new w x y z t, k.alloc k.size _, k.size⟩
theorem Q3.t {w0 w : World} {b : Nat} {x y z : Int} (h : Q3 w0 b x y z w) : w.cell? ⟨b, 0, none⟩ = some (.int .i64 x) ∧ w.cell? ⟨b, 1, none⟩ = some (.int .i64 y) ∧ w.cell? ⟨b, 2, none⟩ = some (.int .i64 z) ∧ Q3 w0 b x y z w := ⟨h.p.1.2.1, h.p.1.2.2.1, h.p.1.2.2.2, h⟩
theorem U3.drew {w0 w : World} {b : Nat} {x y z : Int} (h : w.cell? ⟨b, 0, none⟩ = some (.int .i64 x) ∧ w.cell? ⟨b, 1, none⟩ = some (.int .i64 y) ∧ w.cell? ⟨b, 2, none⟩ = some (.int .i64 z) ∧ Q3 w0 b x y z w) : w.drew.cell? ⟨b, 0, none⟩ = some (.int .i64 x) ∧ w.drew.cell? ⟨b, 1, none⟩ = some (.int .i64 y) ∧ w.drew.cell? ⟨b, 2, none⟩ = some (.int .i64 z) ∧ Q3 w0 b x y z w.drew := h.2.2.2.drew.t
set_option maxHeartbeats 1000000 in
theorem parts_yes (y : Int) (k : Nat) (d n : Int) (w : World) (h : DayIs y k d n) (ht : LenOk w) :
    Calls Tryz.prog 60 #[.int .i64 n] w fun e w' => e = .returned (.tuple #[.int .i64 y, .int .i64 ((k : Int) + 1), .int .i64 d, .int .i64 0]) ∧ Below w.heap.size w w' := by
  have HI : Hid (∀ W : World, Calls Tryz.prog 87 #[.int .i64 n] W fun e w' => e = .returned (.bool true) ∧ w' = W) := fun W => by have := isDay_any n W; rw [decide_eq_true h.day] at this; exact this
  have HP : Hid (∀ W : World, Below w.heap.size w W → Calls Tryz.prog 88 #[.int .i64 n] W fun e w' => e = .returned (.agg #[.int .i64 y, .int .i64 ((k : Int) + 1), .int .i64 d]) ∧ Below W.heap.size W w') := fun W hW => partsOf_any y k d n W h (len_below ht hW)
  clear h ht
  go_enter Tryz.func60, Tryz.ntmps60
  go_wp2_with (first | (go_at_call 87; refine (HI.out _).mono ?_; rintro e wz ⟨rfl, hz⟩; subst wz) | (go_at_call 88; refine (HP.out _ (by repeat' (first | with_reducible exact Below.refl _ _ | with_reducible refine Below.setCell ?_ ?_ _ | with_reducible refine Below.alloc ?_ ?_ _ | with_reducible refine below_drewN ?_ _ | with_reducible refine Below.drew ?_ | with_reducible refine Below.trans ?_ (Below.mono (by assumption) ?_) | with_reducible exact Nat.le_refl _ | with_reducible refine Nat.le_trans ?_ (Below.size (by assumption)) | with_reducible refine Nat.le_trans ?_ (size_alloc _ _) | with_reducible refine Nat.le_trans ?_ (size_set _ _ _) | with_reducible refine Nat.le_trans ?_ (size_drewN _ _) | with_reducible refine Nat.le_trans ?_ (size_drew _) | (simp; done) | (simp; omega) | omega))).mono ?_; rintro e w1 ⟨rfl, hb1⟩))
  have HS := hide (Q3.new hb1 y ((k : Int) + 1) d 136).t
  go_region_held3 (fun w' => w'.cell? ⟨w1.heap.size, 0, none⟩ = some (.int .i64 y) ∧ w'.cell? ⟨w1.heap.size, 1, none⟩ = some (.int .i64 ((k : Int) + 1)) ∧ w'.cell? ⟨w1.heap.size, 2, none⟩ = some (.int .i64 d) ∧ Q3 w w1.heap.size y ((k : Int) + 1) d w') (first | exact HS.out | assumption | exact U3.drew (by assumption)) (fail)
  go_wp2
  refine bodyPost_ret (v := .tuple #[.int .i64 y, .int .i64 ((k : Int) + 1), .int .i64 d, .int .i64 0]) (by simp [results, Tryz.results60, go_sem, *]) rfl ⟨rfl, ?_⟩
  repeat' (first | with_reducible exact Below.refl _ _ | with_reducible refine Below.setCell ?_ ?_ _ | with_reducible refine Below.alloc ?_ ?_ _ | with_reducible refine below_drewN ?_ _ | with_reducible refine Below.drew ?_ | with_reducible refine Below.trans ?_ (Below.mono (by assumption) ?_) | with_reducible exact Nat.le_refl _ | with_reducible refine Nat.le_trans ?_ (Below.size (by assumption)) | with_reducible refine Nat.le_trans ?_ (size_alloc _ _) | with_reducible refine Nat.le_trans ?_ (size_set _ _ _) | with_reducible refine Nat.le_trans ?_ (size_drewN _ _) | with_reducible refine Nat.le_trans ?_ (size_drew _) | (simp; done) | (simp; omega) | omega)
set_option maxHeartbeats 1000000 in
theorem parts_no (n : Int) (w : World) (h : ¬ (1 ≤ n ∧ n ≤ 2958464)) :
    Calls Tryz.prog 60 #[.int .i64 n] w fun e w' => e = .returned (.tuple #[.int .i64 0, .int .i64 0, .int .i64 0, .int .i64 2]) ∧ Below w.heap.size w w' := by
  have HI : Hid (∀ W : World, Calls Tryz.prog 87 #[.int .i64 n] W fun e w' => e = .returned (.bool false) ∧ w' = W) := fun W => by have := isDay_any n W; rw [decide_eq_false h] at this; exact this
  clear h
  go_enter Tryz.func60, Tryz.ntmps60
  go_wp2_with (first | (go_at_call 87; refine (HI.out _).mono ?_; rintro e wz ⟨rfl, hz⟩; subst wz))
  refine bodyPost_ret (v := .tuple #[.int .i64 0, .int .i64 0, .int .i64 0, .int .i64 2]) (by simp [results, Tryz.results60, go_sem]) rfl ⟨rfl, ?_⟩
  repeat' (first | with_reducible exact Below.refl _ _ | with_reducible refine Below.setCell ?_ ?_ _ | with_reducible refine Below.alloc ?_ ?_ _ | with_reducible refine below_drewN ?_ _ | with_reducible refine Below.drew ?_ | with_reducible refine Below.trans ?_ (Below.mono (by assumption) ?_) | with_reducible exact Nat.le_refl _ | with_reducible refine Nat.le_trans ?_ (Below.size (by assumption)) | with_reducible refine Nat.le_trans ?_ (size_alloc _ _) | with_reducible refine Nat.le_trans ?_ (size_set _ _ _) | with_reducible refine Nat.le_trans ?_ (size_drewN _ _) | with_reducible refine Nat.le_trans ?_ (size_drew _) | (simp; done) | (simp; omega) | omega)
end
section
open Go.RowKit
/-- The library's table of powers of ten lies as it was laid. -/
def TabOk (w : World) : Prop := Lib.TabIs Tryz.prog w "internal/strconv.uint64pow10" .u64 Lib.pow10Tab
theorem S3.out {w0 w : World} {b : Nat} {x y z : Int} (h : S3 w0 b x y z w) : Below w0.heap.size w0 w := h.2.2.2.2
end
end Go.Proofs.YtnhaapcpklfkpaaGreatDoor.Dat
