/-
  How great a heap is behind a step.
-/
import Derived.Test.YtcabpcneiddgcaaWideLaws
namespace Go.Proofs.Ytcabpcneiddgcaa
open Go.RowKit

theorem size_alloc (w : World) (o : Obj) : w.heap.size ≤ (w.alloc o).heap.size := by simp
theorem size_set (w : World) (a : Addr) (v : Value) : w.heap.size ≤ (w.setCell a v).heap.size := by simp
theorem size_drewN (w : World) (n : Nat) : w.heap.size ≤ (w.drewN n).heap.size := by simp
theorem size_drew (w : World) : w.heap.size ≤ w.drew.heap.size := by simp
end Go.Proofs.Ytcabpcneiddgcaa
