/-
  A block more, a cell written, an order drawn: no block is lost.
-/
import Derived.Test.YtfpmmckpobpokaaGreatShelf
import Derived.WalkKit
import Derived.WalkSmall
namespace Go.Proofs.YtfpmmckpobpokaaGreat
open Go.RowKit
theorem zzA {w : World} {o : Obj} {n : Nat} (h : n ≤ w.heap.size) : n ≤ (w.alloc o).heap.size := Nat.le_trans h (by simp)
theorem zzB {w : World} {p : Addr} {v : Value} {n : Nat} (h : n ≤ w.heap.size) : n ≤ (w.setCell p v).heap.size := Nat.le_trans h (by simp)
theorem zzC {w : World} {k n : Nat} (h : n ≤ w.heap.size) : n ≤ (w.drewN k).heap.size := h
theorem zzD {w : World} {n : Nat} (h : n ≤ w.heap.size) : n ≤ w.drew.heap.size := h
theorem bl {p : Prop} (h : p := by repeat' (first | with_reducible (first | exact Below.refl _ _ | refine Below.setCell ?_ ?_ _ | refine Below.alloc ?_ ?_ _ | refine below_drewN ?_ _ | refine Below.drew ?_ | refine Below.trans ?_ (Below.mono (by assumption) ?_) | exact Nat.le_refl _ | refine Nat.le_trans ?_ (Below.size (by assumption)) | refine zzA ?_ | refine zzB ?_ | refine zzC ?_ | refine zzD ?_) | (simp; done) | (simp; omega) | omega)) : p := h
end Go.Proofs.YtfpmmckpobpokaaGreat
