/-
  The walk of MathsRounds. (By mawalk.py.)
-/
import Derived.Test.YtfopebfejmlhbaaMa13
import Derived.Test.YtfopebfejmlhbaaMb1
import Derived.OpenShut
namespace Go.Proofs.Ytfopebfejmlhbaa
open Go.RowKit

set_option maxRecDepth 100000 in
set_option maxHeartbeats 4000000 in
theorem mathsRounds_walk (n p : Int) (wn : (Lit.int .i64 n).wf = true) (wp : (Lit.int .i64 p).wf = true) (w : World) :
    Calls Try.prog 3 #[.int .i64 n, .int .i64 p] w fun e w' => e = .returned (.bool true) ∧ Below w.heap.size w w' := by
  have bn := bounds_i64 wn
  have bp := bounds_i64 wp
  have HM0 : Hid (∀ W : World, Calls Try.prog 9 #[.int .i64 n, .int .i64 p] W fun e w' => e = .returned (.tuple #[.int .i64 (shown1 n (placesR outR n p)).1, .int .i64 (shown1 n (placesR outR n p)).2]) ∧ Below W.heap.size W w') := fun W => Up_any n p W bp.1 bp.2
  have HR0 : Hid (∀ W : World, Calls Try.prog 10 #[.int .i64 n, .int .i64 p] W fun e w' => e = .returned (.tuple #[.int .i64 (shown1 n (placesR outR n p)).1, .int .i64 (shown1 n (placesR outR n p)).2]) ∧ w' = W) := fun W => rup_any n p W bp.1 bp.2
  have HM1 : Hid (∀ W : World, Calls Try.prog 11 #[.int .i64 n, .int .i64 p] W fun e w' => e = .returned (.tuple #[.int .i64 (shown1 n (placesR inR n p)).1, .int .i64 (shown1 n (placesR inR n p)).2]) ∧ Below W.heap.size W w') := fun W => Down_any n p W bp.1 bp.2
  have HR1 : Hid (∀ W : World, Calls Try.prog 12 #[.int .i64 n, .int .i64 p] W fun e w' => e = .returned (.tuple #[.int .i64 (shown1 n (placesR inR n p)).1, .int .i64 (shown1 n (placesR inR n p)).2]) ∧ w' = W) := fun W => rdown_any n p W bp.1 bp.2
  have HM2 : Hid (∀ W : World, Calls Try.prog 13 #[.int .i64 n] W fun e w' => e = .returned (.tuple #[.int .i64 (shown1 n (mevenR n)).1, .int .i64 (shown1 n (mevenR n)).2]) ∧ Below W.heap.size W w') := fun W => Even_any n W
  have HR2 : Hid (∀ W : World, Calls Try.prog 14 #[.int .i64 n] W fun e w' => e = .returned (.tuple #[.int .i64 (shown1 n (mevenR n)).1, .int .i64 (shown1 n (mevenR n)).2]) ∧ w' = W) := fun W => reven_any n W
  have HM3 : Hid (∀ W : World, Calls Try.prog 15 #[.int .i64 n] W fun e w' => e = .returned (.tuple #[.int .i64 (shown1 n (moddR n)).1, .int .i64 (shown1 n (moddR n)).2]) ∧ Below W.heap.size W w') := fun W => Odd_any n W
  have HR3 : Hid (∀ W : World, Calls Try.prog 16 #[.int .i64 n] W fun e w' => e = .returned (.tuple #[.int .i64 (shown1 n (moddR n)).1, .int .i64 (shown1 n (moddR n)).2]) ∧ w' = W) := fun W => rodd_any n W
  have HM4 : Hid (∀ W : World, Calls Try.prog 17 #[.int .i64 n] W fun e w' => e = .returned (.tuple #[.int .i64 (shown1 n (absI n, 0)).1, .int .i64 (shown1 n (absI n, 0)).2]) ∧ Below W.heap.size W w') := fun W => Abs_any n W
  have HR4 : Hid (∀ W : World, Calls Try.prog 18 #[.int .i64 n] W fun e w' => e = .returned (.tuple #[.int .i64 (shown1 n (absI n, 0)).1, .int .i64 (shown1 n (absI n, 0)).2]) ∧ w' = W) := fun W => rabs_any n W
  have HM5 : Hid (∀ W : World, Calls Try.prog 19 #[.int .i64 n] W fun e w' => e = .returned (.tuple #[.int .i64 (shown1 n (msignR n, 0)).1, .int .i64 (shown1 n (msignR n, 0)).2]) ∧ Below W.heap.size W w') := fun W => Sign_any n W
  have HR5 : Hid (∀ W : World, Calls Try.prog 20 #[.int .i64 n] W fun e w' => e = .returned (.tuple #[.int .i64 (shown1 n (msignR n, 0)).1, .int .i64 (shown1 n (msignR n, 0)).2]) ∧ w' = W) := fun W => rsign_any n W
  have HL := hide (fun W : World => lives_any W)
  have HB0 := hide (Below.refl w.heap.size w)
  clear bn wn
  clear bp wp
  generalize shown1 n (placesR outR n p) = x0 at *
  obtain ⟨x0a, x0b⟩ := x0
  generalize shown1 n (placesR inR n p) = x1 at *
  obtain ⟨x1a, x1b⟩ := x1
  generalize shown1 n (mevenR n) = x2 at *
  obtain ⟨x2a, x2b⟩ := x2
  generalize shown1 n (moddR n) = x3 at *
  obtain ⟨x3a, x3b⟩ := x3
  generalize shown1 n (absI n, 0) = x4 at *
  obtain ⟨x4a, x4b⟩ := x4
  generalize shown1 n (msignR n, 0) = x5 at *
  obtain ⟨x5a, x5b⟩ := x5
  go_enter Try.func3, Try.ntmps3
  go_wp2_with (first
    | (go_at_call 9; refine (HM0.out _).mono ?_; rintro e v0 ⟨rfl, hb0⟩; have HX0 := hide (up HB0.out hb0); clear hb0)
    | (go_at_call 10; refine (HR0.out _).mono ?_; rintro e wz ⟨rfl, hz⟩; subst wz)
    | (go_at_call 11; refine (HM1.out _).mono ?_; rintro e v1 ⟨rfl, hb1⟩; have HX1 := hide (up HX0.out hb1); clear hb1)
    | (go_at_call 12; refine (HR1.out _).mono ?_; rintro e wz ⟨rfl, hz⟩; subst wz)
    | (go_at_call 13; refine (HM2.out _).mono ?_; rintro e v2 ⟨rfl, hb2⟩; have HX2 := hide (up HX1.out hb2); clear hb2)
    | (go_at_call 14; refine (HR2.out _).mono ?_; rintro e wz ⟨rfl, hz⟩; subst wz)
    | (go_at_call 15; refine (HM3.out _).mono ?_; rintro e v3 ⟨rfl, hb3⟩; have HX3 := hide (up HX2.out hb3); clear hb3)
    | (go_at_call 16; refine (HR3.out _).mono ?_; rintro e wz ⟨rfl, hz⟩; subst wz)
    | (go_at_call 17; refine (HM4.out _).mono ?_; rintro e v4 ⟨rfl, hb4⟩; have HX4 := hide (up HX3.out hb4); clear hb4)
    | (go_at_call 18; refine (HR4.out _).mono ?_; rintro e wz ⟨rfl, hz⟩; subst wz)
    | (go_at_call 19; refine (HM5.out _).mono ?_; rintro e v5 ⟨rfl, hb5⟩; have HX5 := hide (up HX4.out hb5); clear hb5)
    | (go_at_call 20; refine (HR5.out _).mono ?_; rintro e wz ⟨rfl, hz⟩; subst wz)
    | (go_at_call 21; refine (HL.out _).mono ?_; rintro e vl ⟨rfl, hbl⟩; have HXL := hide (up HX5.out hbl); clear hbl))
  go_ret
  exact ⟨rfl, HXL.out⟩
end Go.Proofs.Ytfopebfejmlhbaa
