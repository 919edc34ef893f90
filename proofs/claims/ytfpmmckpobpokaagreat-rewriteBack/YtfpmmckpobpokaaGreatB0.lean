/-
  A block more, a cell written, an order drawn: no block is lost.
-/
import Derived.Test.YtfpmmckpobpokaaGreatShelf
import Derived.WalkKit
import Derived.WalkSmall
namespace Go.Proofs.YtfpmmckpobpokaaGreat
open Go.RowKit
theorem zzA {w : World} {o : Obj} {n : Nat} (h : n ≤ w.heap.size) : n ≤ (w.alloc o).heap.size := Nat.le_trans h (by simp)
theorem zzB {w : World} {p : Addr} {v : Value} {n : Nat} (h : n ≤ w.heap.size) : n ≤ (w.setCell p v).heap.size := Nat.le_trans h (by simp)
theorem zzC {w : World} {k n : Nat} (h : n ≤ w.heap.size) : n ≤ (w.drewN k).heap.size := h
theorem zzD {w : World} {n : Nat} (h : n ≤ w.heap.size) : n ≤ w.drew.heap.size := h
end Go.Proofs.YtfpmmckpobpokaaGreat
