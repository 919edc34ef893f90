/-
  Small laws for the walks of layer 3's statements.
-/
import Derived.Test.YtcabpcneiddgcaaWideLives
import Derived.Test.YtcabpcneiddgcaaWide5
namespace Go.Proofs.Ytcabpcneiddgcaa
open Go.RowKit

theorem At.at (w : World) (b : Nat) (x y : Int) (t : TypeId) (hb : b = w.heap.size) : At (w.alloc (.cells #[.int .i64 x, .int .i64 y] t)) b x y := by
  subst hb; exact At.new w x y t
theorem At.drew {w : World} {b : Nat} {x y : Int} (h : At w b x y) (n : Nat) : At (w.drewN n) b x y := h
end Go.Proofs.Ytcabpcneiddgcaa
