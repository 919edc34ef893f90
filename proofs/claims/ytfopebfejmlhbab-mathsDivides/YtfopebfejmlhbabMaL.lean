/-
  Plain facts: divisors and multiples of many numbers.
-/
import Derived.Test.YtfopebfejmlhbabMaM
namespace Go.Proofs.Ytfopebfejmlhbab
open Go.RowKit

/-- A list that is gone through, each time with what came ahead, up to the first error. -/
def foldR (F : Int → Int → Int × Int) : Int → List Int → Int × Int
  | s, [] => (s, 0)
  | s, n :: l => if (F s n).2 = 0 then foldR F (F s n).1 l else (0, (F s n).2)
def whN (n : Int) : Nat := (n / 1000000).toNat
def gcdL (m : Nat) : List Int → Nat
  | [] => m
  | n :: l => gcdL (Nat.gcd m (whN n)) l
def lcmL (m : Nat) : List Int → Option Nat
  | [] => some m
  | n :: l => if 1000000000000 < Nat.lcm m (whN n) then none else lcmL (Nat.lcm m (whN n)) l
def gcdI (a b : Int) : Int := (Nat.gcd a.toNat b.toNat : Int)
def lcmT : Option Nat → Int × Int
  | some r => ((r : Int) * 1000000, 0)
  | none => (0, 3)
/-- What divisor's and multiple's rounds make. -/
def divF (s n : Int) : Int × Int := (gcdI s (inR n 1000000), 0)
def mulF (s n : Int) : Int × Int := mulR (s / gcdI s (inR n 1000000) * 1000000) (inR n 1000000)
def mdivR (xs : List Int) : Int × Int := if xs.any (fun n => decide (n < 0)) then (0, 2) else ((gcdL 0 xs : Int) * 1000000, 0)
def mmulR (xs : List Int) : Int × Int :=
  if xs.any (fun n => decide (n < 0)) then (0, 2) else if xs.any (fun n => decide (n < 1000000)) then (0, 0) else
    lcmT (lcmL 1 xs)
def shownL (xs : List Int) (x : Int × Int) : Int × Int := if xs.all fitsB then shown x else (0, 5)

theorem whole_is {n : Int} (h : 0 ≤ n) : inR n 1000000 = (whN n : Int) * 1000000 := by
  unfold inR whN
  rw [Int.tmod_eq_emod_of_nonneg h]
  omega
theorem gcdI_whole (m k : Nat) : gcdI ((m : Int) * 1000000) ((k : Int) * 1000000) = (Nat.gcd m k : Int) * 1000000 := by
  unfold gcdI
  rw [show ((m : Int) * 1000000).toNat = m * 1000000 by omega, show ((k : Int) * 1000000).toNat = k * 1000000 by omega, Nat.gcd_mul_right]
  rfl
theorem divF_is {m : Nat} {n : Int} (h : 0 ≤ n) : divF ((m : Int) * 1000000) n = ((Nat.gcd m (whN n) : Int) * 1000000, 0) := by
  unfold divF
  rw [whole_is h, gcdI_whole]
theorem div_fold : ∀ (xs : List Int) (m : Nat), (∀ n ∈ xs, 0 ≤ n) → foldR divF ((m : Int) * 1000000) xs = ((gcdL m xs : Int) * 1000000, 0)
  | [], _, _ => rfl
  | n :: l, m, h => by
    show (if (divF ((m : Int) * 1000000) n).2 = 0 then foldR divF (divF ((m : Int) * 1000000) n).1 l else _) = _
    rw [divF_is (h n (by simp)), if_pos rfl]
    exact div_fold l _ fun k hk => h k (by simp [hk])
theorem mulF_is {m : Nat} {n : Int} (h : 1000000 ≤ n) (h2 : n ≤ 1000000000000000000) (hm : 1 ≤ m) (hm2 : m ≤ 1000000000000) :
    mulF ((m : Int) * 1000000) n = if 1000000000000 < Nat.lcm m (whN n) then (0, 3) else ((Nat.lcm m (whN n) : Int) * 1000000, 0) := by
  have hk : 1 ≤ whN n ∧ whN n ≤ 1000000000000 := by unfold whN; omega
  unfold mulF
  rw [whole_is (by omega), gcdI_whole]
  generalize whN n = k at *
  have g0 : 0 < Nat.gcd m k := Nat.gcd_pos_of_pos_left _ (by omega)
  have e1 : (m : Int) * 1000000 / ((Nat.gcd m k : Int) * 1000000) = ((m / Nat.gcd m k : Nat) : Int) := by
    rw [Int.mul_ediv_mul_of_pos_left _ _ (by decide)]; rfl
  have q1 : m / Nat.gcd m k ≤ m := Nat.div_le_self _ _
  have e2 : Nat.lcm m k = m / Nat.gcd m k * k := by
    rw [Nat.lcm, Nat.mul_comm m k, Nat.mul_div_assoc k (Nat.gcd_dvd_left m k), Nat.mul_comm]
  rw [e1, e2]
  generalize m / Nat.gcd m k = q at *
  rw [mul_whole (fitsB_of (by omega) (by omega)) (by omega) (by omega), absI_pos (by omega)]
  have e3 : (q : Int) * 1000000 * (k : Int) = ((q * k : Nat) : Int) * 1000000 := by
    rw [Int.natCast_mul, Int.mul_assoc, Int.mul_comm 1000000, ← Int.mul_assoc]
  rw [e3]
  generalize q * k = z at *
  by_cases c : 1000000000000 < z
  · rw [if_pos c, if_pos (by omega)]
  · rw [if_neg c, if_neg (by omega)]
theorem lcm_pos {m k : Nat} (h1 : 1 ≤ m) (h2 : 1 ≤ k) : 1 ≤ Nat.lcm m k := Nat.lcm_pos (by omega) (by omega)
theorem mul_fold : ∀ (xs : List Int) (m : Nat), (∀ n ∈ xs, 1000000 ≤ n ∧ n ≤ 1000000000000000000) → 1 ≤ m → m ≤ 1000000000000 → foldR mulF ((m : Int) * 1000000) xs = lcmT (lcmL m xs)
  | [], _, _, _, _ => rfl
  | n :: l, m, h, h1, h2 => by
    have hn := h n (by simp)
    show (if (mulF ((m : Int) * 1000000) n).2 = 0 then foldR mulF (mulF ((m : Int) * 1000000) n).1 l else _) = _
    rw [mulF_is hn.1 hn.2 h1 h2]
    have hk : 1 ≤ whN n := by unfold whN; omega
    by_cases c : 1000000000000 < Nat.lcm m (whN n)
    · rw [if_pos c, if_neg (by decide)]
      show _ = lcmT (if 1000000000000 < Nat.lcm m (whN n) then none else lcmL (Nat.lcm m (whN n)) l)
      rw [if_pos c]; rfl
    · rw [if_neg c, if_pos rfl]
      show _ = lcmT (if 1000000000000 < Nat.lcm m (whN n) then none else lcmL (Nat.lcm m (whN n)) l)
      rw [if_neg c]
      exact mul_fold l _ (fun k hk => h k (by simp [hk])) (lcm_pos h1 hk) (by omega)
theorem all_getD {P : Int → Bool} {xs : List Int} (h : ∀ j, j < xs.length → P (xs.getD j 0) = true) : xs.all P = true := by
  rw [List.all_eq_true]
  intro x hx
  obtain ⟨i, hi, rfl⟩ := List.mem_iff_getElem.1 hx
  have := h i hi
  rwa [List.getD_eq_getElem?_getD, List.getElem?_eq_getElem hi] at this
theorem mem_getD {xs : List Int} {j : Nat} (h : j < xs.length) : xs.getD j 0 ∈ xs := by
  rw [List.getD_eq_getElem?_getD, List.getElem?_eq_getElem h]
  exact List.getElem_mem h
theorem any_getD {P : Int → Bool} {xs : List Int} {j : Nat} (h : j < xs.length) (hp : P (xs.getD j 0) = true) : xs.any P = true := List.any_eq_true.2 ⟨_, mem_getD h, hp⟩
theorem none_getD {P : Int → Bool} {xs : List Int} (h : ∀ j, j < xs.length → P (xs.getD j 0) = false) : xs.any P = false := by
  rw [List.any_eq_false]
  intro x hx
  obtain ⟨i, hi, rfl⟩ := List.mem_iff_getElem.1 hx
  have := h i hi
  rw [List.getD_eq_getElem?_getD, List.getElem?_eq_getElem hi] at this
  simpa using this
theorem drop_getD {xs : List Int} {k : Nat} (h : k < xs.length) : xs.drop k = xs.getD k 0 :: xs.drop (k + 1) := by
  rw [List.drop_eq_getElem_cons h, List.getD_eq_getElem?_getD, List.getElem?_eq_getElem h]; rfl
theorem not_all {xs : List Int} {j : Nat} (h : j < xs.length) (hp : fitsB (xs.getD j 0) = false) : xs.all fitsB = false := by
  rw [List.all_eq_false]
  exact ⟨_, mem_getD h, by rw [hp]; decide⟩
/-- A row of numbers that is read. -/
def RowI (w : World) (a : Option Addr) (xs : List Int) : Prop :=
  xs.length ≤ 9223372036854775807 ∧ ∀ i, i < xs.length → ∃ x, a = some x ∧ w.cell? (x.add i) = some (.int .i64 (xs.getD i 0))
theorem RowI.below {w w' : World} {a : Option Addr} {xs : List Int} (h : RowI w a xs) (k : Below w.heap.size w w') : RowI w' a xs :=
  ⟨h.1, fun i hi => by
    obtain ⟨x, e, c⟩ := h.2 i hi
    exact ⟨x, e, (k.cell (World.block_lt_of_cell? _ _ c)).trans c⟩⟩
end Go.Proofs.Ytfopebfejmlhbab
