/-
  num.Mul and num.Div at every two numbers.
-/
import Derived.Test.YtjhldifilfkebaaDoorMulDiv
import Derived.Test.YtjhldifilfkebaaDoorDiv64Any
namespace Go.Proofs.YtjhldifilfkebaaDoor
open Go.RowKit

theorem mul_full (a b : Int) (w : World) :
    Calls Tryd.prog 16 #[.int .i64 a, .int .i64 b] w fun e w' => e = .returned (.tuple #[.int .i64 (mulR a b).1, .int .i64 (mulR a b).2]) ∧ Below w.heap.size w w' := by
  refine mul_any a b w (fun _ _ h => ?_)
  have n0 : 0 ≤ absI a * absI b := Int.mul_nonneg (absI_nn a) (absI_nn b)
  exact div64_any _ _ _ (by omega) h (by decide) (by omega) (by omega)

theorem div_full (a b : Int) (w : World) :
    Calls Tryd.prog 18 #[.int .i64 a, .int .i64 b] w fun e w' => e = .returned (.tuple #[.int .i64 (divR a b).1, .int .i64 (divR a b).2]) ∧ Below w.heap.size w w' := by
  refine div_any a b w (fun hz h => ?_)
  have n0 := absI_nn a
  obtain ⟨_, hb, _⟩ := divisR_zero hz
  obtain ⟨b1, b2⟩ := fitsB_true hb
  exact div64_any _ _ _ (by omega) h (absI_le b1 b2) (by omega) (by omega)
end Go.Proofs.YtjhldifilfkebaaDoor
