/-
  The walk of RealFloats: for every number it returns true.
-/
import Derived.Test.YtnjnbhfpgoondaaRealBackWalk
import Derived.Test.YtnjnbhfpgoondaaRefRealTo
namespace Go.Proofs.Ytnjnbhfpgoondaa
open Go.RowKit

set_option maxHeartbeats 4000000 in
theorem realFloats_walk (a0 : Int) (_w0 : (Lit.int .i64 a0).wf = true) (w : World) :
    Calls Try.prog 5 #[.int .i64 a0] w fun e w' => e = .returned (.bool true) ∧ Below w.heap.size w w' := by
  have hB := Below.refl w.heap.size w
  have HT : Hid (∀ W : World, Calls Try.prog 15 #[.int .i64 a0] W fun e w' => e = .returned (.tuple #[.float .f64 (toR a0).1.toNat, .int .i64 (toR a0).2]) ∧ Below W.heap.size W w') := fun W => toF_any a0 W
  have HR : Hid (∀ W : World, Calls Try.prog 16 #[.int .i64 a0] W fun e w' => e = .returned (.tuple #[.int .u64 (toR a0).1, .int .i64 (toR a0).2]) ∧ w' = W) := fun W => rto_any a0 W
  have HX : Hid (∀ W : World, Calls Try.prog 17 #[.float .f64 (toR a0).1.toNat] W fun e w' => e = .returned (.int .u64 (toR a0).1) ∧ w' = W) := fun W => bits_to a0 W
  generalize (toR a0).1.toNat = x at *
  generalize (toR a0).1 = y at *
  generalize (toR a0).2 = f at *
  go_enter Try.func5, Try.ntmps5
  go_wp2_with (first | (go_at_call_of 15 [Value.int IntKind.i64 a0]; refine (HT.out _).mono ?_; rintro e wn ⟨rfl, hbn⟩; replace hB := hB.trans (hbn.mono hB.size); clear hbn) | (go_at_call_of 16 [Value.int IntKind.i64 a0]; refine (HR.out _).mono ?_; rintro e wn ⟨rfl, hz⟩; subst wn) | (go_at_call_of 17 [Value.float FloatKind.f64 x]; refine (HX.out _).mono ?_; rintro e wn ⟨rfl, hz⟩; subst wn) | (go_at_call 12; refine (lives2_any _).mono ?_; rintro e wn ⟨rfl, hbn⟩; replace hB := hB.trans (hbn.mono hB.size); clear hbn))
  go_ret
  exact ⟨rfl, hB⟩
end Go.Proofs.Ytnjnbhfpgoondaa
