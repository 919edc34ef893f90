/-
  The walk of MathsSteps. (By mawalk.py.)
-/
import Derived.Test.YtfopebfejmlhbaaMa13
import Derived.Test.YtfopebfejmlhbaaMb2
import Derived.OpenShut
namespace Go.Proofs.Ytfopebfejmlhbaa
open Go.RowKit

set_option maxRecDepth 100000 in
set_option maxHeartbeats 4000000 in
theorem mathsSteps_walk (n s : Int) (wn : (Lit.int .i64 n).wf = true) (ws : (Lit.int .i64 s).wf = true) (w : World) :
    Calls Try.prog 4 #[.int .i64 n, .int .i64 s] w fun e w' => e = .returned (.bool true) ∧ Below w.heap.size w w' := by
  have bn := bounds_i64 wn
  have bs := bounds_i64 ws
  have HM0 : Hid (∀ W : World, Calls Try.prog 22 #[.int .i64 n, .int .i64 s] W fun e w' => e = .returned (.tuple #[.int .i64 (shown2 n s (stepsR upwR n s)).1, .int .i64 (shown2 n s (stepsR upwR n s)).2]) ∧ Below W.heap.size W w') := fun W => Ceiling_any n s W
  have HR0 : Hid (∀ W : World, Calls Try.prog 23 #[.int .i64 n, .int .i64 s] W fun e w' => e = .returned (.tuple #[.int .i64 (shown2 n s (stepsR upwR n s)).1, .int .i64 (shown2 n s (stepsR upwR n s)).2]) ∧ w' = W) := fun W => rceiling_any n s W
  have HM1 : Hid (∀ W : World, Calls Try.prog 24 #[.int .i64 n, .int .i64 s] W fun e w' => e = .returned (.tuple #[.int .i64 (shown2 n s (stepsR dwnR n s)).1, .int .i64 (shown2 n s (stepsR dwnR n s)).2]) ∧ Below W.heap.size W w') := fun W => Floor_any n s W
  have HR1 : Hid (∀ W : World, Calls Try.prog 25 #[.int .i64 n, .int .i64 s] W fun e w' => e = .returned (.tuple #[.int .i64 (shown2 n s (stepsR dwnR n s)).1, .int .i64 (shown2 n s (stepsR dwnR n s)).2]) ∧ w' = W) := fun W => rfloor_any n s W
  have HM2 : Hid (∀ W : World, Calls Try.prog 26 #[.int .i64 n, .int .i64 s] W fun e w' => e = .returned (.tuple #[.int .i64 (shown2 n s (mquotR n s)).1, .int .i64 (shown2 n s (mquotR n s)).2]) ∧ Below W.heap.size W w') := fun W => Quotient_any n s W
  have HR2 : Hid (∀ W : World, Calls Try.prog 27 #[.int .i64 n, .int .i64 s] W fun e w' => e = .returned (.tuple #[.int .i64 (shown2 n s (mquotR n s)).1, .int .i64 (shown2 n s (mquotR n s)).2]) ∧ w' = W) := fun W => rquotient_any n s W
  have HL := hide (fun W : World => lives_any W)
  have HB0 := hide (Below.refl w.heap.size w)
  clear bn wn
  clear bs ws
  generalize shown2 n s (stepsR upwR n s) = x0 at *
  obtain ⟨x0a, x0b⟩ := x0
  generalize shown2 n s (stepsR dwnR n s) = x1 at *
  obtain ⟨x1a, x1b⟩ := x1
  generalize shown2 n s (mquotR n s) = x2 at *
  obtain ⟨x2a, x2b⟩ := x2
  go_enter Try.func4, Try.ntmps4
  go_wp2_with (first
    | (go_at_call 22; refine (HM0.out _).mono ?_; rintro e v0 ⟨rfl, hb0⟩; have HX0 := hide (up HB0.out hb0); clear hb0)
    | (go_at_call 23; refine (HR0.out _).mono ?_; rintro e wz ⟨rfl, hz⟩; subst wz)
    | (go_at_call 24; refine (HM1.out _).mono ?_; rintro e v1 ⟨rfl, hb1⟩; have HX1 := hide (up HX0.out hb1); clear hb1)
    | (go_at_call 25; refine (HR1.out _).mono ?_; rintro e wz ⟨rfl, hz⟩; subst wz)
    | (go_at_call 26; refine (HM2.out _).mono ?_; rintro e v2 ⟨rfl, hb2⟩; have HX2 := hide (up HX1.out hb2); clear hb2)
    | (go_at_call 27; refine (HR2.out _).mono ?_; rintro e wz ⟨rfl, hz⟩; subst wz)
    | (go_at_call 21; refine (HL.out _).mono ?_; rintro e vl ⟨rfl, hbl⟩; have HXL := hide (up HX2.out hbl); clear hbl))
  go_ret
  exact ⟨rfl, HXL.out⟩
end Go.Proofs.Ytfopebfejmlhbaa
