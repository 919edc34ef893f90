/-
  The walk of MathsPowers. (By mawalk.py.)
-/
import Derived.Test.YtfopebfejmlhbaaMa13
import Derived.Test.YtfopebfejmlhbaaMb4
import Derived.OpenShut
namespace Go.Proofs.Ytfopebfejmlhbaa
open Go.RowKit

set_option maxRecDepth 100000 in
set_option maxHeartbeats 4000000 in
theorem mathsPowers_walk (n k : Int) (wn : (Lit.int .i64 n).wf = true) (wk : (Lit.int .i64 k).wf = true) (w : World) :
    Calls Try.prog 5 #[.int .i64 n, .int .i64 k] w fun e w' => e = .returned (.bool true) ∧ Below w.heap.size w w' := by
  have bn := bounds_i64 wn
  have bk := bounds_i64 wk
  obtain ⟨r, hr⟩ : ∃ r, fitsB n = true → 0 ≤ n → RootIs (n * 1000000) r := by
    by_cases h : 0 ≤ n
    · obtain ⟨r, hr⟩ := root_exists (N := n * 1000000) (by omega)
      exact ⟨r, fun _ _ => hr⟩
    · exact ⟨0, fun _ h2 => absurd h2 h⟩
  have HM0 : Hid (∀ W : World, Calls Try.prog 28 #[.int .i64 n, .int .i64 k] W fun e w' => e = .returned (.tuple #[.int .i64 (shown2 n k (mpowR n k)).1, .int .i64 (shown2 n k (mpowR n k)).2]) ∧ Below W.heap.size W w') := fun W => Power_any n k W
  have HR0 : Hid (∀ W : World, Calls Try.prog 29 #[.int .i64 n, .int .i64 k] W fun e w' => e = .returned (.tuple #[.int .i64 (shown2 n k (mpowR n k)).1, .int .i64 (shown2 n k (mpowR n k)).2]) ∧ Below W.heap.size W w') := fun W => rpower_any n k W
  have HM1 : Hid (∀ W : World, Calls Try.prog 30 #[.int .i64 n] W fun e w' => e = .returned (.tuple #[.int .i64 (shown1 n (mrootR n r)).1, .int .i64 (shown1 n (mrootR n r)).2]) ∧ Below W.heap.size W w') := fun W => Root_any n r W hr
  have HR1 : Hid (∀ W : World, Calls Try.prog 31 #[.int .i64 n] W fun e w' => e = .returned (.tuple #[.int .i64 (shown1 n (mrootR n r)).1, .int .i64 (shown1 n (mrootR n r)).2]) ∧ w' = W) := fun W => rroot_any n r W hr
  have HM2 : Hid (∀ W : World, Calls Try.prog 32 #[.int .i64 n] W fun e w' => e = .returned (.tuple #[.int .i64 (shown1 n (mfactR n)).1, .int .i64 (shown1 n (mfactR n)).2]) ∧ Below W.heap.size W w') := fun W => Fact_any n W
  have HR2 : Hid (∀ W : World, Calls Try.prog 33 #[.int .i64 n] W fun e w' => e = .returned (.tuple #[.int .i64 (shown1 n (mfactR n)).1, .int .i64 (shown1 n (mfactR n)).2]) ∧ w' = W) := fun W => rfact_any n W
  have HL := hide (fun W : World => lives_any W)
  have HB0 := hide (Below.refl w.heap.size w)
  clear bn wn
  clear bk wk
  generalize shown2 n k (mpowR n k) = x0 at *
  obtain ⟨x0a, x0b⟩ := x0
  generalize shown1 n (mrootR n r) = x1 at *
  obtain ⟨x1a, x1b⟩ := x1
  generalize shown1 n (mfactR n) = x2 at *
  obtain ⟨x2a, x2b⟩ := x2
  go_enter Try.func5, Try.ntmps5
  go_wp2_with (first
    | (go_at_call 28; refine (HM0.out _).mono ?_; rintro e v0 ⟨rfl, hb0⟩; have HX0 := hide (up HB0.out hb0); clear hb0)
    | (go_at_call 29; refine (HR0.out _).mono ?_; rintro e u0 ⟨rfl, hc0⟩; have HY0 := hide (up HX0.out hc0); clear hc0)
    | (go_at_call 30; refine (HM1.out _).mono ?_; rintro e v1 ⟨rfl, hb1⟩; have HX1 := hide (up HY0.out hb1); clear hb1)
    | (go_at_call 31; refine (HR1.out _).mono ?_; rintro e wz ⟨rfl, hz⟩; subst wz)
    | (go_at_call 32; refine (HM2.out _).mono ?_; rintro e v2 ⟨rfl, hb2⟩; have HX2 := hide (up HX1.out hb2); clear hb2)
    | (go_at_call 33; refine (HR2.out _).mono ?_; rintro e wz ⟨rfl, hz⟩; subst wz)
    | (go_at_call 21; refine (HL.out _).mono ?_; rintro e vl ⟨rfl, hbl⟩; have HXL := hide (up HX2.out hbl); clear hbl))
  go_ret
  exact ⟨rfl, HXL.out⟩
end Go.Proofs.Ytfopebfejmlhbaa
