/-
  The contract of the answer's slide at a cell and at a range (made by slidegen.py).
-/
import Derived.Test.YtfpmmckpobpokaaGreatMRwS1
namespace Go.Proofs.YtfpmmckpobpokaaGreat
open Go.RowKit
theorem Box.one {w : World} {b : Nat} {cs : List Value} (k : Box w b cs) (o : Nat) (u : Value) : Box (w.setCell ⟨b, o, none⟩ u) b (cs.set o u) := by
 rw [setCell_row k o u]
 exact k.set _
theorem Box.soft {w : World} {b : Nat} {cs : List Value} (k : Box w b cs) (o : Nat) : w.frozen? ⟨b, o, none⟩ = false := by
 unfold Box at k
 simp [World.frozen?, k]
end Go.Proofs.YtfpmmckpobpokaaGreat
