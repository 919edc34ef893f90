/-
  Out of Mr1, Mr2, Mr3, Mr4, Mr5, what is asked for (laid by pack9.py).
-/
import Derived.Test.YtfpmmckpobpokaaGreatBVMv5
import Derived.Test.YtfpmmckpobpokaaGreatBVVal3
namespace Go.Proofs.YtfpmmckpobpokaaGreat.Pla
section
open Go.RowKit
def EdS (w : World) (k a n : Int) (w' : World) : Prop := At3 w' w.heap.size k a n ∧ Below w.heap.size w w'
theorem EdS.below {w w1 w' : World} {k a n : Int} (h : EdS w k a n w1) (m : Below w1.heap.size w1 w') : EdS w k a n w' := ⟨h.1.below m, h.2.trans (m.mono h.2.size)⟩
theorem EdS.drew {w w1 : World} {k a n : Int} (h : EdS w k a n w1) : EdS w k a n w1.drew := h.below ((Below.refl _ _).drew)
theorem EdS.start (w : World) (k a n : Int) (t : TypeId) : EdS w k a n (w.alloc (.cells #[.int .i64 k, .int .i64 a, .int .i64 n] t)) := ⟨At3.new w k a n t, (Below.refl _ _).alloc (Nat.le_refl _) _⟩
theorem EdS.out {w w' : World} {k a n : Int} (h : EdS w k a n w') : Below w.heap.size w w' := h.2
end
section
open Go.RowKit
end
section
open Go.RowKit
end
section
open Go.RowKit
end
section
open Go.RowKit
def RwS (w : World) (k a n t l b r : Int) (w' : World) : Prop := At3 w' w.heap.size k a n ∧ Has4 w' (w.heap.size + 1) t l b r ∧ Has4 w' (w.heap.size + 1 + 1) 0 0 0 0 ∧ Below w.heap.size w w'
theorem RwS.below {w w1 w' : World} {k a n t l b r : Int} (h : RwS w k a n t l b r w1) (m : Below w1.heap.size w1 w') : RwS w k a n t l b r w' :=
 ⟨h.1.below m, h.2.1.below m, h.2.2.1.below m, h.2.2.2.trans (m.mono h.2.2.2.size)⟩
theorem RwS.drew {w w1 : World} {k a n t l b r : Int} (h : RwS w k a n t l b r w1) : RwS w k a n t l b r w1.drew := h.below ((Below.refl _ _).drew)
theorem RwS.start (w : World) (k a n t l b r : Int) (t1 t2 t3 : TypeId) : RwS w k a n t l b r (((w.alloc (.cells #[.int .i64 k, .int .i64 a, .int .i64 n] t1)).alloc (.cells #[.int .i64 t, .int .i64 l, .int .i64 b, .int .i64 r] t2)).alloc (.cells #[.int .i64 0, .int .i64 0, .int .i64 0, .int .i64 0] t3)) := by
 refine ⟨((At3.new w k a n t1).alloc _).alloc _, ?_, ?_, ?_⟩
 ·
  have := (Has4.new (w.alloc (.cells #[.int .i64 k, .int .i64 a, .int .i64 n] t1)) t l b r t2).alloc (.cells #[.int .i64 0, .int .i64 0, .int .i64 0, .int .i64 0] t3)
  simpa using this
 ·
  have := Has4.new ((w.alloc (.cells #[.int .i64 k, .int .i64 a, .int .i64 n] t1)).alloc (.cells #[.int .i64 t, .int .i64 l, .int .i64 b, .int .i64 r] t2)) 0 0 0 0 t3
  simpa using this
 ·
  repeat' (first | with_reducible (first | exact Below.refl _ _ | refine Below.setCell ?_ ?_ _ | refine Below.alloc ?_ ?_ _ | refine below_drewN ?_ _ | refine Below.drew ?_ | refine Below.trans ?_ (Below.mono (by assumption) ?_) | exact Nat.le_refl _ | refine Nat.le_trans ?_ (Below.size (by assumption)) | refine zzA ?_ | refine zzB ?_ | refine zzC ?_ | refine zzD ?_) | (simp; done) | (simp; omega) | omega)
end
end Go.Proofs.YtfpmmckpobpokaaGreat.Pla
