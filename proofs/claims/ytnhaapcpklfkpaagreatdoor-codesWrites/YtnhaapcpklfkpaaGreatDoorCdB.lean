/-
  A byte found in a text, and a text cut there.
-/
import Derived.Test.YtnhaapcpklfkpaaGreatDoorCd10
namespace Go.Proofs.YtnhaapcpklfkpaaGreatDoor
open Go.RowKit

theorem index_byte {x : UInt8} : ∀ (W F : List UInt8), (∀ c ∈ W, c ≠ x) → Lib.index (W ++ x :: F) [x] = W.length
  | [], F, _ => by simp [Lib.index]
  | c :: W, F, h => by
    have hne : x ≠ c := fun e => h c (by simp) e.symm
    have ih := index_byte W F (fun d hd => h d (List.mem_cons_of_mem _ hd))
    rw [List.cons_append, Lib.index, ih]
    have e : List.isPrefixOf [x] (c :: (W ++ x :: F)) = false := by simp [List.isPrefixOf, hne]
    rw [e]
    have e2 : ((W.length : Int) == -1) = false := by rw [beq_eq_false_iff_ne]; omega
    rw [e2]; simp
theorem cut_byte {x : UInt8} {W F : List UInt8} (h : ∀ c ∈ W, c ≠ x) : Lib.cut (W ++ x :: F) [x] = (W, F, true) := by
  unfold Lib.cut
  rw [index_byte W F h, if_pos (by omega), Int.toNat_natCast]
  simp
end Go.Proofs.YtnhaapcpklfkpaaGreatDoor
