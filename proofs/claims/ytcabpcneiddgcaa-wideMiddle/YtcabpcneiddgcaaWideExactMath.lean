/-
  Sums of rows of numbers, and what Add and Sub make of a right sum.
-/
import Derived.Test.YtcabpcneiddgcaaWideMath
namespace Go.Proofs.Ytcabpcneiddgcaa
open Go.RowKit

/-- The sum of the first k. -/
def sumTo (f : Nat → Int) : Nat → Int
  | 0 => 0
  | k + 1 => sumTo f k + f k
theorem sumTo_congr {f g : Nat → Int} : ∀ n : Nat, (∀ j, j < n → f j = g j) → sumTo f n = sumTo g n
  | 0, _ => rfl
  | n + 1, h => by
    show sumTo f n + f n = sumTo g n + g n
    rw [sumTo_congr n (fun j hj => h j (by omega)), h n (by omega)]
theorem sumTo_front (f : Nat → Int) : ∀ n : Nat, sumTo f (n + 1) = f 0 + sumTo (fun j => f (j + 1)) n
  | 0 => by show 0 + f 0 = f 0 + 0; omega
  | n + 1 => by
    show sumTo f (n + 1) + f (n + 1) = f 0 + (sumTo (fun j => f (j + 1)) n + f (n + 1))
    rw [sumTo_front f n]; omega
/-- From behind it is the same sum. -/
theorem sumTo_back : ∀ (n : Nat) (f : Nat → Int), sumTo (fun j => f (n - 1 - j)) n = sumTo f n
  | 0, _ => rfl
  | n + 1, f => by
    rw [sumTo_front f n, ← sumTo_back n (fun j => f (j + 1))]
    show sumTo (fun j => f (n + 1 - 1 - j)) n + f (n + 1 - 1 - n) = f 0 + sumTo (fun j => f (n - 1 - j + 1)) n
    rw [show n + 1 - 1 - n = 0 by omega, sumTo_congr n (fun j hj => by show f (n + 1 - 1 - j) = f (n - 1 - j + 1); congr 1; omega)]
    omega
/-- The value of a sum. -/
def valW (h l : Int) : Int := h * 1000000000000000000 + l
theorem addW_cases {h l n : Int} (r : rightB h l = true) :
    ((addW h l n).2.2 = 0 ∧ fitsB n = true ∧ rightB (addW h l n).1 (addW h l n).2.1 = true ∧ valW (addW h l n).1 (addW h l n).2.1 = valW h l + n) ∨
    (((addW h l n).2.2 == 0) = false ∧ (addW h l n).1 = 0 ∧ (addW h l n).2.1 = 0) := by
  cases f : fitsB n
  · right; rw [addW_no2 f]; exact ⟨rfl, rfl, rfl⟩
  · rw [addW_yes r f]
    rcases madeR_cases h (l + n) with e | e
    · left
      obtain ⟨m1, m2⟩ := madeR_ok e
      exact ⟨e, rfl, m1, by unfold valW; omega⟩
    · right; rw [e]; exact ⟨rfl, rfl, rfl⟩
theorem subW_cases {h l n : Int} (r : rightB h l = true) (f : fitsB n = true) :
    ((subW h l n).2.2 = 0 ∧ rightB (subW h l n).1 (subW h l n).2.1 = true ∧ valW (subW h l n).1 (subW h l n).2.1 = valW h l - n) ∨ (subW h l n).2.2 = 3 := by
  rw [subW_yes r f]
  rcases madeR_cases h (l - n) with e | e
  · left
    obtain ⟨m1, m2⟩ := madeR_ok e
    exact ⟨e, m1, by unfold valW; omega⟩
  · right; rw [e]
theorem valW_one {h l g k : Int} (r : rightB h l = true) (s : rightB g k = true) (e : valW h l = valW g k) : h = g ∧ l = k := right_one r s e
end Go.Proofs.Ytcabpcneiddgcaa
