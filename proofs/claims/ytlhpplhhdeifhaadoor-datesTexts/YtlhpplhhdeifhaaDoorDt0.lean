/-
  Layer 11, the plain words: leap years, how many days lie ahead of a year and of a month, which day a date is; each day has one date, and each date is one day.
-/
import Derived.Test.YtlhpplhhdeifhaaDoorProg
import Derived.WalkKit
import Derived.WalkSpells
import Derived.WalkLawsBesides
import Derived.Lib.MinMax
import Derived.Deep.RegionHeld3
namespace Go.Proofs.YtlhpplhhdeifhaaDoor
open Go.RowKit

theorem hide {p : Prop} (h : p) : Hid p := h
theorem size_alloc (w : World) (o : Obj) : w.heap.size ≤ (w.alloc o).heap.size := by simp
theorem size_set (w : World) (a : Addr) (v : Value) : w.heap.size ≤ (w.setCell a v).heap.size := by simp
theorem size_drewN (w : World) (n : Nat) : w.heap.size ≤ (w.drewN n).heap.size := by simp
theorem size_drew (w : World) : w.heap.size ≤ w.drew.heap.size := by simp
theorem below_drewN {B : Nat} {w w' : World} (h : Below B w w') (n : Nat) : Below B w (w'.drewN n) := by
  induction n with
  | zero => exact h
  | succ n ih => exact ih.drew
/-- A leap year. -/
def leapB (y : Int) : Bool := decide (y % 4 = 0) && (decide (y % 100 ≠ 0) || decide (y % 400 = 0))
theorem leap_iff {y : Int} : leapB y = true ↔ y % 4 = 0 ∧ (y % 100 ≠ 0 ∨ y % 400 = 0) := by unfold leapB; simp
theorem leap_no {y : Int} : leapB y = false ↔ ¬ (y % 4 = 0 ∧ (y % 100 ≠ 0 ∨ y % 400 = 0)) := by rw [← leap_iff, Bool.not_eq_true]
/-- How many leap years lie ahead of a year. -/
def lpA (y : Int) : Int := (y - 1) / 4 - (y - 1) / 100 + (y - 1) / 400
/-- How many days lie ahead of a year, from the day 1 on. -/
def dA (y : Int) : Int := 365 * (y - 1900) + lpA y - 460
/-- How many days a month has. -/
def lenM (y : Int) (m : Nat) : Int := if m = 2 then (if leapB y then 29 else 28) else if m = 4 ∨ m = 6 ∨ m = 9 ∨ m = 11 then 30 else 31
/-- How many days the first months of a year have. -/
def cum (y : Int) : Nat → Int
  | 0 => 0
  | k + 1 => cum y k + lenM y (k + 1)
theorem len_bd (y : Int) (m : Nat) : 28 ≤ lenM y m ∧ lenM y m ≤ 31 := by
  unfold lenM
  split
  · split <;> omega
  · split <;> omega
theorem cum_le (y : Int) (k : Nat) : 28 * (k : Int) ≤ cum y k ∧ cum y k ≤ 31 * (k : Int) := by
  induction k with
  | zero => simp [cum]
  | succ k ih => have := len_bd y (k + 1); simp only [cum]; omega
theorem cum_mono (y : Int) {k j : Nat} (h : k ≤ j) : cum y k ≤ cum y j := by
  induction h with
  | refl => exact Int.le_refl _
  | @step m _ ih => have := len_bd y (m + 1); simp only [cum]; omega
theorem cum_twelve (y : Int) : cum y 12 = if leapB y then 366 else 365 := by
  cases h : leapB y <;> simp [cum, lenM, h]
theorem lp_succ (y : Int) : lpA (y + 1) = lpA y + if leapB y then 1 else 0 := by
  unfold lpA
  rw [show y + 1 - 1 = y by omega]
  cases h : leapB y
  · have h := leap_no.1 h
    rw [if_neg (by decide)]
    by_cases a : y % 4 = 0
    · have h1 : ¬ y % 100 ≠ 0 := fun q => h ⟨a, Or.inl q⟩
      have h2 : ¬ y % 400 = 0 := fun q => h ⟨a, Or.inr q⟩
      clear h
      omega
    · clear h
      omega
  · obtain ⟨a, h⟩ := leap_iff.1 h
    rw [if_pos rfl]
    by_cases b : y % 400 = 0
    · clear h; omega
    · have h1 : y % 100 ≠ 0 := by rcases h with h | h; exact h; exact absurd h b
      clear h; omega
theorem dA_succ (y : Int) : dA (y + 1) = dA y + cum y 12 := by
  unfold dA
  rw [lp_succ, cum_twelve]
  cases leapB y <;> simp <;> omega
theorem dA_lt {y z : Int} (h : y < z) : dA y + 362 ≤ dA z := by unfold dA lpA; omega
theorem dA_mono {y z : Int} (h : y ≤ z) : dA y ≤ dA z := by
  rcases Int.lt_or_eq_of_le h with h | h
  · have := dA_lt h; omega
  · rw [h]; exact Int.le_refl _
theorem dA_first : dA 1900 = 0 := by decide
theorem dA_last : dA 10000 = 2958464 := by decide
theorem dA_bd (y : Int) (h1 : -100000 ≤ y) (h2 : y ≤ 100000) : -40000000 ≤ dA y ∧ dA y ≤ 40000000 := by unfold dA lpA; omega
theorem lp_bd (y : Int) (h1 : -100000 ≤ y) (h2 : y ≤ 100000) : -100000 ≤ lpA y ∧ lpA y ≤ 100000 := by unfold lpA; omega
/-- The date (year, month k + 1, day) is the day n. -/
structure DayIs (y : Int) (k : Nat) (d n : Int) : Prop where
  y1 : 1900 ≤ y
  y2 : y ≤ 9999
  k1 : k < 12
  d1 : 1 ≤ d
  d2 : d ≤ lenM y (k + 1)
  n1 : n = dA y + cum y k + d
theorem DayIs.within {y : Int} {k : Nat} {d n : Int} (h : DayIs y k d n) : dA y < n ∧ n ≤ dA (y + 1) := by
  have h1 := h.d1; have h2 := h.d2; have h3 := h.n1; have h4 := h.k1
  have := cum_le y k
  have := cum_mono y (show k + 1 ≤ 12 by omega)
  simp only [cum] at this
  rw [dA_succ]
  simp only [cum] at *
  omega
theorem DayIs.day {y : Int} {k : Nat} {d n : Int} (h : DayIs y k d n) : 1 ≤ n ∧ n ≤ 2958464 := by
  have h0 := h.within
  have := dA_mono h.y1
  have := dA_mono (show y + 1 ≤ 10000 by have := h.y2; omega)
  rw [dA_first, dA_last] at *
  omega
theorem DayIs.dle {y : Int} {k : Nat} {d n : Int} (h : DayIs y k d n) : d ≤ 31 := by have := h.d2; have := len_bd y (k + 1); omega
theorem year_of (n : Int) (h0 : 0 < n) : ∀ j : Nat, n ≤ dA (1900 + j) → ∃ y : Int, 1900 ≤ y ∧ y < 1900 + j ∧ dA y < n ∧ n ≤ dA (y + 1)
  | 0, h => by rw [show (1900 : Int) + ((0 : Nat) : Int) = 1900 by omega, dA_first] at h; omega
  | j + 1, h => by
    by_cases a : n ≤ dA (1900 + j)
    · obtain ⟨y, h1, h2, h3⟩ := year_of n h0 j a
      exact ⟨y, h1, by omega, h3⟩
    · exact ⟨1900 + j, by omega, by omega, by omega, by rw [show (1900 : Int) + j + 1 = 1900 + ((j + 1 : Nat) : Int) by omega]; exact h⟩
theorem month_of (y r : Int) (h0 : 0 < r) : ∀ j : Nat, r ≤ cum y j → ∃ k : Nat, k < j ∧ cum y k < r ∧ r ≤ cum y k + lenM y (k + 1)
  | 0, h => by simp only [cum] at h; omega
  | j + 1, h => by
    by_cases a : r ≤ cum y j
    · obtain ⟨k, h1, h2⟩ := month_of y r h0 j a
      exact ⟨k, by omega, h2⟩
    · exact ⟨j, by omega, by omega, h⟩
theorem day_exists {n : Int} (h1 : 1 ≤ n) (h2 : n ≤ 2958464) : ∃ (y : Int) (k : Nat) (d : Int), DayIs y k d n := by
  obtain ⟨y, a1, a2, a3, a4⟩ := year_of n (by omega) 8100 (by rw [show (1900 : Int) + ((8100 : Nat) : Int) = 10000 by omega, dA_last]; exact h2)
  obtain ⟨k, b1, b2, b3⟩ := month_of y (n - dA y) (by omega) 12 (by rw [dA_succ] at a4; omega)
  exact ⟨y, k, n - dA y - cum y k, a1, by omega, b1, by omega, by omega, by omega⟩
theorem day_unique {y z : Int} {k j : Nat} {d c n : Int} (h : DayIs y k d n) (g : DayIs z j c n) : y = z ∧ k = j ∧ d = c := by
  have hw := h.within
  have gw := g.within
  have e1 : y = z := by
    rcases Int.lt_trichotomy y z with a | a | a
    · have := dA_mono (show y + 1 ≤ z by omega); omega
    · exact a
    · have := dA_mono (show z + 1 ≤ y by omega); omega
  subst e1
  have h1 := h.n1; have h2 := h.d1; have h3 := h.d2
  have g1 := g.n1; have g2 := g.d1; have g3 := g.d2
  have e2 : k = j := by
    rcases Nat.lt_trichotomy k j with a | a | a
    · have := cum_mono y (show k + 1 ≤ j by omega); simp only [cum] at this; omega
    · exact a
    · have := cum_mono y (show j + 1 ≤ k by omega); simp only [cum] at this; omega
  subst e2
  exact ⟨rfl, rfl, by omega⟩
/-- The number of the day of any parts. -/
def countR (y m d : Int) : Int := dA (y + (m - 1) / 12) + d + cum (y + (m - 1) / 12) ((m - 1) % 12).toNat
/-- A number that was reckoned, if it is a day, and why not. -/
def dailyR (n : Int) : Int × Int := if 1 ≤ n ∧ n ≤ 2958464 then (n, 0) else (0, 3)
theorem daily_yes {n : Int} (h1 : 1 ≤ n) (h2 : n ≤ 2958464) : dailyR n = (n, 0) := by unfold dailyR; rw [if_pos ⟨h1, h2⟩]
theorem daily_no {n : Int} (h : n < 1 ∨ 2958464 < n) : dailyR n = (0, 3) := by unfold dailyR; rw [if_neg (by omega)]
theorem count_date (y d : Int) {k : Nat} (h : k < 12) : countR y (k + 1) d = dA y + cum y k + d := by
  unfold countR
  rw [show y + ((k : Int) + 1 - 1) / 12 = y by omega, show (((k : Int) + 1 - 1) % 12).toNat = k by omega]
  omega
theorem DayIs.count {y : Int} {k : Nat} {d n : Int} (h : DayIs y k d n) : countR y (k + 1) d = n := by rw [count_date y d h.k1, h.n1]
theorem count_more (y m d : Int) : countR y m (d + 1) = countR y m d + 1 := by unfold countR; omega
theorem count_year (y m d : Int) : countR y (m + 12) d = countR (y + 1) m d := by
  unfold countR
  rw [show y + (m + 12 - 1) / 12 = y + 1 + (m - 1) / 12 by omega, show (m + 12 - 1) % 12 = (m - 1) % 12 by omega]
theorem count_bd (y m d : Int) (h1 : -20000 ≤ y) (h2 : y ≤ 20000) (h3 : -300000 ≤ m) (h4 : m ≤ 300000) (h5 : -300000 ≤ d) (h6 : d ≤ 300000) : -50000000 ≤ countR y m d ∧ countR y m d ≤ 50000000 := by
  unfold countR
  have := dA_bd (y + (m - 1) / 12) (by omega) (by omega)
  have := cum_le (y + (m - 1) / 12) ((m - 1) % 12).toNat
  omega
/-- What Serial tells. -/
def serialR (y m d : Int) : Int × Int := if 1900 ≤ y ∧ y ≤ 9999 ∧ -100000 ≤ m ∧ m ≤ 100000 ∧ -100000 ≤ d ∧ d ≤ 100000 then dailyR (countR y m d) else (0, 2)
theorem serial_yes {y m d : Int} (h : 1900 ≤ y ∧ y ≤ 9999 ∧ -100000 ≤ m ∧ m ≤ 100000 ∧ -100000 ≤ d ∧ d ≤ 100000) : serialR y m d = dailyR (countR y m d) := by unfold serialR; rw [if_pos h]
theorem serial_no {y m d : Int} (h : ¬ (1900 ≤ y ∧ y ≤ 9999 ∧ -100000 ≤ m ∧ m ≤ 100000 ∧ -100000 ≤ d ∧ d ≤ 100000)) : serialR y m d = (0, 2) := by unfold serialR; rw [if_neg h]
/-- The year and the month so many months further. -/
def stepY (y : Int) (k : Nat) (s : Int) : Int := y + ((k : Int) + s) / 12
def stepM (k : Nat) (s : Int) : Nat := (((k : Int) + s) % 12).toNat
/-- The number of the day so many months further. -/
def stepN (y : Int) (k : Nat) (d s : Int) : Int := dA (stepY y k s) + cum (stepY y k s) (stepM k s) + min d (lenM (stepY y k s) (stepM k s + 1))
theorem stepM_lt (k : Nat) (s : Int) : stepM k s < 12 := by unfold stepM; omega
theorem step_in {y : Int} {k : Nat} {d n : Int} (h : DayIs y k d n) (s : Int) (h1 : 1900 ≤ stepY y k s) (h2 : stepY y k s ≤ 9999) :
    DayIs (stepY y k s) (stepM k s) (min d (lenM (stepY y k s) (stepM k s + 1))) (stepN y k d s) := by
  have := h.d1
  have := len_bd (stepY y k s) (stepM k s + 1)
  exact ⟨h1, h2, stepM_lt k s, by omega, by omega, rfl⟩
theorem step_out {y : Int} {k : Nat} {d n : Int} (h : DayIs y k d n) (s : Int) (h1 : ¬ (1900 ≤ stepY y k s ∧ stepY y k s ≤ 9999)) : stepN y k d s < 1 ∨ 2958464 < stepN y k d s := by
  have a1 := h.d1
  have a2 := len_bd (stepY y k s) (stepM k s + 1)
  have a3 := cum_le (stepY y k s) (stepM k s)
  have a4 := cum_mono (stepY y k s) (show stepM k s + 1 ≤ 12 by have := stepM_lt k s; omega)
  simp only [cum] at a4
  have a5 := dA_succ (stepY y k s)
  simp only [cum] at a5
  unfold stepN
  by_cases b : 1900 ≤ stepY y k s
  · right
    have := dA_mono (show 10000 ≤ stepY y k s by omega)
    rw [dA_last] at this
    omega
  · left
    have := dA_mono (show stepY y k s + 1 ≤ 1900 by omega)
    rw [dA_first] at this
    omega
/-- What Months tells. -/
def monthsR (y : Int) (k : Nat) (d s : Int) : Int × Int := dailyR (stepN y k d s)
/-- A digit's byte. -/
def digB (c : UInt8) : Bool := decide (48 ≤ c.toNat) && decide (c.toNat ≤ 57)
theorem digB_iff {c : UInt8} : digB c = true ↔ 48 ≤ c.toNat ∧ c.toNat ≤ 57 := by unfold digB; simp
theorem digB_no {c : UInt8} : digB c = false ↔ ¬ (48 ≤ c.toNat ∧ c.toNat ≤ 57) := by rw [← Bool.not_eq_true, digB_iff]
end Go.Proofs.YtlhpplhhdeifhaaDoor
