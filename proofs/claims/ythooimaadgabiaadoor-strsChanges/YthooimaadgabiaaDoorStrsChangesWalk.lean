/-
  The walk of StrsChanges.
-/
import Derived.Test.YthooimaadgabiaaDoorStL
import Derived.Test.YthooimaadgabiaaDoorSt14
import Derived.Test.YthooimaadgabiaaDoorSt16
namespace Go.Proofs.YthooimaadgabiaaDoor
open Go.RowKit
set_option linter.unusedSimpArgs false
set_option linter.unusedVariables false

set_option maxRecDepth 100000 in
set_option maxHeartbeats 4000000 in
theorem strsChanges_walk (ss : ByteArray) (at_ : Int) (n : Int) (so : ByteArray) (st : ByteArray) (w : World) (hc : CellOk w) (ws : ss.size ≤ maxLen) (wat_ : -9223372036854775808 ≤ at_ ∧ at_ ≤ 9223372036854775807) (wn : -9223372036854775808 ≤ n ∧ n ≤ 9223372036854775807) (wo : so.size ≤ maxLen) (wt : st.size ≤ maxLen) :
    Calls Tryd.prog 5 #[.string ss, .int .i64 at_, .int .i64 n, .string so, .string st] w fun e w' => e = .returned (.bool true) ∧ Below w.heap.size w w' := by
  obtain ⟨s, rfl⟩ := by_form ss
  rw [mk_size] at ws
  obtain ⟨o, rfl⟩ := by_form so
  rw [mk_size] at wo
  obtain ⟨t, rfl⟩ := by_form st
  rw [mk_size] at wt
  have HL : Hid (∀ W : World, Below w.heap.size w W → Calls Tryd.prog 15 #[] W fun e w' => e = .returned (.bool true) ∧ Below W.heap.size W w') := fun W hW => lives_any W (cellOk_below hc hW)
  have HP0 : Hid (∀ W : World, Below w.heap.size w W → Calls Tryd.prog 20 #[.string ⟨s.toArray⟩, .int .i64 at_, .int .i64 n, .string ⟨t.toArray⟩] W fun e w' => e = .returned (tupT (rpS s at_ n t)) ∧ Below W.heap.size W w') := fun W hW => Replace_any s at_ n t W ws wat_.2 wt
  have HR0 : Hid (∀ W : World, Below w.heap.size w W → Calls Tryd.prog 21 #[.string ⟨s.toArray⟩, .int .i64 at_, .int .i64 n, .string ⟨t.toArray⟩] W fun e w' => e = .returned (tupT (rpS s at_ n t)) ∧ Below W.heap.size W w') := fun W hW => rReplace_any s at_ n t W ws wat_.2 wt
  obtain ⟨t0, c0, e0, x0⟩ := tup_form (rpS s at_ n t)
  rw [e0] at HP0 HR0
  clear e0
  have HP1 : Hid (∀ W : World, Below w.heap.size w W → Calls Tryd.prog 22 #[.string ⟨s.toArray⟩, .string ⟨o.toArray⟩, .string ⟨t.toArray⟩, .int .i64 n] W fun e w' => e = .returned (tupT (sbS s o t n)) ∧ Below W.heap.size W w') := fun W hW => Substitute_any s o t n W ws wo wt (cellOk_below hc hW)
  have HR1 : Hid (∀ W : World, Below w.heap.size w W → Calls Tryd.prog 23 #[.string ⟨s.toArray⟩, .string ⟨o.toArray⟩, .string ⟨t.toArray⟩, .int .i64 n] W fun e w' => e = .returned (tupT (sbS s o t n)) ∧ Below W.heap.size W w') := fun W hW => rSubst_any s o t n W ws wo wt wn.2
  obtain ⟨t1, c1, e1, x1⟩ := tup_form (sbS s o t n)
  rw [e1] at HP1 HR1
  clear e1
  have szs := mk_size s
  have szo := mk_size o
  have szt := mk_size t
  have HB := hide (Below.refl w.heap.size w)
  clear hc
  go_enter Tryd.func5, Tryd.ntmps5
  go_wp2_with (first
    | (go_at_call 20; refine (HP0.out _ HB.out).mono ?_; rintro e wz ⟨rfl, hz⟩; replace HB := hide (upR HB.out hz); clear hz)
    | (go_at_call 21; refine (HR0.out _ HB.out).mono ?_; rintro e wz ⟨rfl, hz⟩; replace HB := hide (upR HB.out hz); clear hz)
    | (go_at_call 22; refine (HP1.out _ HB.out).mono ?_; rintro e wz ⟨rfl, hz⟩; replace HB := hide (upR HB.out hz); clear hz)
    | (go_at_call 23; refine (HR1.out _ HB.out).mono ?_; rintro e wz ⟨rfl, hz⟩; replace HB := hide (upR HB.out hz); clear hz)
    | (go_at_call 15; refine (HL.out _ HB.out).mono ?_; rintro e wz ⟨rfl, hz⟩; replace HB := hide (upR HB.out hz); clear hz))
  go_ret
  exact ⟨by first | rfl | simp, HB.out⟩
end Go.Proofs.YthooimaadgabiaaDoor
