/-
  The walk of RealNumbers: for every float's bits it returns true.
-/
import Derived.Test.YtnjnbhfpgoondaaRealRisesWalk
import Derived.Test.YtnjnbhfpgoondaaRefRealOf
namespace Go.Proofs.Ytnjnbhfpgoondaa
open Go.RowKit

set_option maxHeartbeats 4000000 in
theorem realNumbers_walk (a0 : Int) (w0 : (Lit.int .u64 a0).wf = true) (w : World) :
    Calls Try.prog 4 #[.int .u64 a0] w fun e w' => e = .returned (.bool true) ∧ Below w.heap.size w w' := by
  obtain ⟨b, rfl, h⟩ := word_nat2 w0
  have hB := Below.refl w.heap.size w
  have HT : Hid (∀ W : World, Calls Try.prog 13 #[.float .f64 b] W fun e w' => e = .returned (.tuple #[.int .i64 (ofR b).1, .int .i64 (ofR b).2]) ∧ Below W.heap.size W w') := fun W => ofF_any b W h
  have HR : Hid (∀ W : World, Calls Try.prog 14 #[.int .u64 (b : Int)] W fun e w' => e = .returned (.tuple #[.int .i64 (ofR b).1, .int .i64 (ofR b).2]) ∧ Below W.heap.size W w') := fun W => rof_any b W h
  generalize (ofR b).1 = y at *
  generalize (ofR b).2 = f at *
  clear w0 h
  go_enter Try.func4, Try.ntmps4
  go_wp2_with (first | (go_at_call_of 10 [Value.int IntKind.u64 (b : Int)]; refine (of_nat2 b _).mono ?_; rintro e wn ⟨rfl, hz⟩; subst wn) | (go_at_call_of 13 [Value.float FloatKind.f64 b]; refine (HT.out _).mono ?_; rintro e wn ⟨rfl, hbn⟩; replace hB := hB.trans (hbn.mono hB.size); clear hbn) | (go_at_call_of 14 [Value.int IntKind.u64 (b : Int)]; refine (HR.out _).mono ?_; rintro e wn ⟨rfl, hbn⟩; replace hB := hB.trans (hbn.mono hB.size); clear hbn) | (go_at_call 12; refine (lives2_any _).mono ?_; rintro e wn ⟨rfl, hbn⟩; replace hB := hB.trans (hbn.mono hB.size); clear hbn))
  go_ret
  exact ⟨rfl, hB⟩
end Go.Proofs.Ytnjnbhfpgoondaa
