/-
  The contracts of num.tenTo, Round's closure, quotient with it, num.Round, num.Floor.
-/
import Derived.Test.YtaokibkeoomfjaaDoorMulDiv
import Derived.Laws.EntriesVeiled
import Derived.Deep.RegionWith
namespace Go.Proofs.YtaokibkeoomfjaaDoor
open Go.RowKit

/-- A power of ten. -/
def p10 (k : Nat) : Int := 10 ^ k
theorem p10_zero : p10 0 = 1 := rfl
theorem p10_succ (k : Nat) : p10 (k + 1) = p10 k * 10 := by unfold p10; rw [Int.pow_succ]
theorem p10_pos (k : Nat) : 0 < p10 k := by unfold p10; exact Int.pow_pos (by decide)
theorem p10_le {k : Nat} (h : k ≤ 18) : p10 k ≤ 1000000000000000000 := by
  have h1 : (10 : Int) ^ k ≤ 10 ^ 18 := by
    have := Nat.pow_le_pow_right (n := 10) (by decide) h
    exact_mod_cast this
  unfold p10
  have h2 : (10 : Int) ^ 18 = 1000000000000000000 := by decide
  omega

theorem halfEven_mul {N d : Int} (hN : 0 ≤ N) (hd : 0 < d) : 0 ≤ halfEven N d * d ∧ halfEven N d * d ≤ N + d := by
  have h1 := Int.mul_ediv_add_emod N d
  have h2 := Int.emod_nonneg N (b := d) (by omega)
  have h3 := Int.ediv_nonneg hN (Int.le_of_lt hd)
  have h4 : N / d * d = d * (N / d) := Int.mul_comm _ _
  have h5 : 0 ≤ d * (N / d) := Int.mul_nonneg (by omega) h3
  unfold halfEven
  split
  · rw [Int.add_mul]; omega
  · omega

theorem cell_third (W : World) (A B : Obj) (c : Value) (t : TypeId) : (((W.alloc A).alloc B).alloc (.cells #[c] t)).cell? ⟨W.heap.size + 1 + 1, 0, none⟩ = some c := by
  have h := World.cell?_alloc_new ((W.alloc A).alloc B) #[c] t 0
  simpa using h
theorem cell_second (W : World) (A C : Obj) (c : Value) (t : TypeId) : (((W.alloc A).alloc (.cells #[c] t)).alloc C).cell? ⟨W.heap.size + 1, 0, none⟩ = some c := by
  rw [World.cell?_alloc_lt _ _ _ (by simp)]
  simp
theorem cell_first (W : World) (B C : Obj) (c : Value) (t : TypeId) : (((W.alloc (.cells #[c] t)).alloc B).alloc C).cell? ⟨W.heap.size, 0, none⟩ = some c := by
  rw [World.cell?_alloc_lt _ _ _ (by simp; omega), World.cell?_alloc_lt _ _ _ (by simp)]
  simp

/-- Does Round take the places? -/
def plB (p : Int) : Bool := decide (-12 ≤ p) && decide (p ≤ 6)
/-- The number, rounded to places, or why not. -/
def roundR (n p : Int) : Int × Int := if fitsB n && plB p then told (put (decide (n < 0)) (halfEven (absI n) (p10 (6 - p).toNat) * p10 (6 - p).toNat)) else (0, 2)

end Go.Proofs.YtaokibkeoomfjaaDoor
