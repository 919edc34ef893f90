/-
  The walk of MathsNear. (By neargen.py.)
-/
import Derived.Test.YtfopebfejmlhbaaMaN1
import Derived.Test.YtfopebfejmlhbaaMaN2
import Derived.Test.YtfopebfejmlhbaaMaN3
import Derived.Test.YtfopebfejmlhbaaMaN4
import Derived.OpenShut
namespace Go.Proofs.Ytfopebfejmlhbaa
open Go.RowKit

theorem mathsNear_walk (n p s : Int) (_ : (Lit.int .i64 n).wf = true) (wp : (Lit.int .i64 p).wf = true) (_ : (Lit.int .i64 s).wf = true) (w : World) :
    Calls Try.prog 7 #[.int .i64 n, .int .i64 p, .int .i64 s] w fun e w' => e = .returned (.bool true) ∧ Below w.heap.size w w' := by
  obtain ⟨p1, p2⟩ := bounds_i64 wp
  by_cases hin : fitsB n = false ∨ p < -12 ∨ 6 < p
  · exact near_no n p s w p1 p2 hin
  · have hf : fitsB n = true := by
      cases h : fitsB n
      · exact absurd (Or.inl h) hin
      · rfl
    have q1 : -12 ≤ p := Int.not_lt.1 fun h => hin (Or.inr (Or.inl h))
    have q2 : p ≤ 6 := Int.not_lt.1 fun h => hin (Or.inr (Or.inr h))
    by_cases hd : inR n (unitR p) = n
    · exact near_self n p s w p1 p2 hf q1 q2 hd
    · cases hfu : fitsB (outR n (unitR p))
      · exact near_over n p s w p1 p2 hf q1 q2 hd hfu
      · exact near_off n p s w p1 p2 hf q1 q2 hd hfu
end Go.Proofs.Ytfopebfejmlhbaa
