/-
  A sum and a number in memory, behind stores elsewhere; least and greatest.
-/
import Derived.Test.YtcabpcneiddgcaaWideMem
namespace Go.Proofs.Ytcabpcneiddgcaa
open Go.RowKit

theorem row_cell {w : World} {c b i : Nat} {x y : Int} {v : Value} (a : At w c x y) (z : w.cell? ⟨b, i, none⟩ = some v) : w.cell? ⟨c, 0, none⟩ = some (.int .i64 x) ∧ w.cell? ⟨c, 1, none⟩ = some (.int .i64 y) ∧ w.cell? ⟨b, i, none⟩ = some v := ⟨a.2.1, a.2.2, z⟩
theorem cell_far {w : World} {b i c o : Nat} {v u : Value} (z : w.cell? ⟨b, i, none⟩ = some v) (n : c ≠ b) : (w.setCell ⟨c, o, none⟩ u).cell? ⟨b, i, none⟩ = some v := by
  rw [World.cell?_setCell_other (h := show (⟨c, o, none⟩ : Addr) ≠ ⟨b, i, none⟩ from fun e => n (congrArg Addr.block e))]; exact z
theorem cell_drew {w : World} {a : Addr} {v : Value} (z : w.cell? a = some v) : w.drew.cell? a = some v := z
theorem fits_or {a b c : Int} (h : a = b ∨ a = c) (f : fitsB b = true) (g : fitsB c = true) : fitsB a = true := by
  rcases h with h | h
  · rw [h]; exact f
  · rw [h]; exact g
theorem times_bd {n : Int} {m : Nat} (f : fitsB n = true) (hm : m ≤ 200) : -1000000000000000000000 ≤ n * m ∧ n * m ≤ 1000000000000000000000 := by
  have g := fitsB_true f
  have a : n * m ≤ 1000000000000000000 * (m : Int) := Int.mul_le_mul_of_nonneg_right g.2 (by omega)
  have b : (-1000000000000000000) * (m : Int) ≤ n * m := Int.mul_le_mul_of_nonneg_right g.1 (by omega)
  omega
end Go.Proofs.Ytcabpcneiddgcaa
