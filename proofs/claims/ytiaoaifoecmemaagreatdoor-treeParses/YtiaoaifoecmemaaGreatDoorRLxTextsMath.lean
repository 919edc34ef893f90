/-
  Plain words for LexTexts: a text with its quotes doubled, in quotes, is told as it is.
-/
import Derived.Test.YtiaoaifoecmemaaGreatDoorRLxM2
namespace Go.Proofs.YtiaoaifoecmemaaGreatDoor
open Go.RowKit
def dbl : List UInt8 → List UInt8
 | [] => []
 | c :: r => if c.toNat = 34 then 34 :: c :: dbl r else c :: dbl r
theorem dbl_len : ∀ (l : List UInt8), (dbl l).length ≤ 2 * l.length
 | [] => by simp [dbl]
 | c :: r => by
  have := dbl_len r
  simp only [dbl]
  split <;> simp <;> omega
theorem blank_none {c : UInt8} {r : List UInt8} (h : blankB c = false) : runN blankB (c :: r) = 0 := by
 unfold runN; rw [List.takeWhile_cons, if_neg (by rw [h]; simp)]; rfl
theorem run_last {f p : Nat} {l : List UInt8} {b : Nat} (hb : runN blankB l = b) {x : Tok × Nat × Int} (hx : firstT (l.drop b) = x) (h0 : x.1.kind = 0) : runG (f + 1) p l = [(x.1.put ((p + b : Nat) : Int), x.2.2)] := by
 rw [run_step f p l b hb x hx, if_pos h0]
theorem run_more {f p : Nat} {l : List UInt8} {b : Nat} (hb : runN blankB l = b) {x : Tok × Nat × Int} (hx : firstT (l.drop b) = x) (h0 : x.1.kind ≠ 0) : runG (f + 1) p l = (x.1.put ((p + b : Nat) : Int), x.2.2) :: runG f (p + b + x.2.1) ((l.drop b).drop x.2.1) := by
 rw [run_step f p l b hb x hx, if_neg h0]
end Go.Proofs.YtiaoaifoecmemaaGreatDoor
