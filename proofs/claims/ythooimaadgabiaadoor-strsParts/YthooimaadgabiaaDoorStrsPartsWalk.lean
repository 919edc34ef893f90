/-
  The walk of StrsParts.
-/
import Derived.Test.YthooimaadgabiaaDoorStL
import Derived.Test.YthooimaadgabiaaDoorSt11
namespace Go.Proofs.YthooimaadgabiaaDoor
open Go.RowKit
set_option linter.unusedSimpArgs false
set_option linter.unusedVariables false

set_option maxRecDepth 100000 in
set_option maxHeartbeats 4000000 in
theorem strsParts_walk (ss : ByteArray) (at_ : Int) (n : Int) (w : World) (hc : CellOk w) (ws : ss.size ≤ maxLen) (wat_ : -9223372036854775808 ≤ at_ ∧ at_ ≤ 9223372036854775807) (wn : -9223372036854775808 ≤ n ∧ n ≤ 9223372036854775807) :
    Calls Tryd.prog 3 #[.string ss, .int .i64 at_, .int .i64 n] w fun e w' => e = .returned (.bool true) ∧ Below w.heap.size w w' := by
  obtain ⟨s, rfl⟩ := by_form ss
  rw [mk_size] at ws
  have HL : Hid (∀ W : World, Below w.heap.size w W → Calls Tryd.prog 15 #[] W fun e w' => e = .returned (.bool true) ∧ Below W.heap.size W w') := fun W hW => lives_any W (cellOk_below hc hW)
  have HP0 : Hid (∀ W : World, Below w.heap.size w W → Calls Tryd.prog 9 #[.string ⟨s.toArray⟩, .int .i64 n] W fun e w' => e = .returned (tupT (lfS s n)) ∧ Below W.heap.size W w') := fun W hW => Left_any s n W ws
  have HR0 : Hid (∀ W : World, Below w.heap.size w W → Calls Tryd.prog 10 #[.string ⟨s.toArray⟩, .int .i64 n] W fun e w' => e = .returned (tupT (lfS s n)) ∧ Below W.heap.size W w') := fun W hW => rLeft_any s n W ws
  obtain ⟨t0, c0, e0, x0⟩ := tup_form (lfS s n)
  rw [e0] at HP0 HR0
  clear e0
  have HP1 : Hid (∀ W : World, Below w.heap.size w W → Calls Tryd.prog 11 #[.string ⟨s.toArray⟩, .int .i64 n] W fun e w' => e = .returned (tupT (rgS s n)) ∧ Below W.heap.size W w') := fun W hW => Right_any s n W ws wn.2
  have HR1 : Hid (∀ W : World, Below w.heap.size w W → Calls Tryd.prog 12 #[.string ⟨s.toArray⟩, .int .i64 n] W fun e w' => e = .returned (tupT (rgS s n)) ∧ Below W.heap.size W w') := fun W hW => rRight_any s n W ws
  obtain ⟨t1, c1, e1, x1⟩ := tup_form (rgS s n)
  rw [e1] at HP1 HR1
  clear e1
  have HP2 : Hid (∀ W : World, Below w.heap.size w W → Calls Tryd.prog 13 #[.string ⟨s.toArray⟩, .int .i64 at_, .int .i64 n] W fun e w' => e = .returned (tupT (mdS s at_ n)) ∧ Below W.heap.size W w') := fun W hW => Mid_any s at_ n W ws wat_.2
  have HR2 : Hid (∀ W : World, Below w.heap.size w W → Calls Tryd.prog 14 #[.string ⟨s.toArray⟩, .int .i64 at_, .int .i64 n] W fun e w' => e = .returned (tupT (mdS s at_ n)) ∧ Below W.heap.size W w') := fun W hW => rMid_any s at_ n W ws wat_.2
  obtain ⟨t2, c2, e2, x2⟩ := tup_form (mdS s at_ n)
  rw [e2] at HP2 HR2
  clear e2
  have szs := mk_size s
  have HB := hide (Below.refl w.heap.size w)
  clear hc
  go_enter Tryd.func3, Tryd.ntmps3
  go_wp2_with (first
    | (go_at_call 9; refine (HP0.out _ HB.out).mono ?_; rintro e wz ⟨rfl, hz⟩; replace HB := hide (upR HB.out hz); clear hz)
    | (go_at_call 10; refine (HR0.out _ HB.out).mono ?_; rintro e wz ⟨rfl, hz⟩; replace HB := hide (upR HB.out hz); clear hz)
    | (go_at_call 11; refine (HP1.out _ HB.out).mono ?_; rintro e wz ⟨rfl, hz⟩; replace HB := hide (upR HB.out hz); clear hz)
    | (go_at_call 12; refine (HR1.out _ HB.out).mono ?_; rintro e wz ⟨rfl, hz⟩; replace HB := hide (upR HB.out hz); clear hz)
    | (go_at_call 13; refine (HP2.out _ HB.out).mono ?_; rintro e wz ⟨rfl, hz⟩; replace HB := hide (upR HB.out hz); clear hz)
    | (go_at_call 14; refine (HR2.out _ HB.out).mono ?_; rintro e wz ⟨rfl, hz⟩; replace HB := hide (upR HB.out hz); clear hz)
    | (go_at_call 15; refine (HL.out _ HB.out).mono ?_; rintro e wz ⟨rfl, hz⟩; replace HB := hide (upR HB.out hz); clear hz))
  go_ret
  exact ⟨by first | rfl | simp, HB.out⟩
end Go.Proofs.YthooimaadgabiaaDoor
