/-
  The walk of StrsFinds.
-/
import Derived.Test.YthooimaadgabiaaDoorStL
import Derived.Test.YthooimaadgabiaaDoorSt12
namespace Go.Proofs.YthooimaadgabiaaDoor
open Go.RowKit
set_option linter.unusedSimpArgs false
set_option linter.unusedVariables false

set_option maxRecDepth 100000 in
set_option maxHeartbeats 4000000 in
theorem strsFinds_walk (sp : ByteArray) (ss : ByteArray) (f : Int) (w : World) (hc : CellOk w) (wp : sp.size ≤ maxLen) (ws : ss.size ≤ maxLen) (wf : -9223372036854775808 ≤ f ∧ f ≤ 9223372036854775807) :
    Calls Tryd.prog 4 #[.string sp, .string ss, .int .i64 f] w fun e w' => e = .returned (.bool true) ∧ Below w.heap.size w w' := by
  obtain ⟨p, rfl⟩ := by_form sp
  rw [mk_size] at wp
  obtain ⟨s, rfl⟩ := by_form ss
  rw [mk_size] at ws
  have HL : Hid (∀ W : World, Below w.heap.size w W → Calls Tryd.prog 15 #[] W fun e w' => e = .returned (.bool true) ∧ Below W.heap.size W w') := fun W hW => lives_any W (cellOk_below hc hW)
  have HP0 : Hid (∀ W : World, Below w.heap.size w W → Calls Tryd.prog 16 #[.string ⟨p.toArray⟩, .string ⟨s.toArray⟩, .int .i64 f] W fun e w' => e = .returned (tupI (fdS p s f)) ∧ Below W.heap.size W w') := fun W hW => Find_any p s f W wp ws wf.2
  have HR0 : Hid (∀ W : World, Below w.heap.size w W → Calls Tryd.prog 17 #[.string ⟨p.toArray⟩, .string ⟨s.toArray⟩, .int .i64 f] W fun e w' => e = .returned (tupI (fdS p s f)) ∧ Below W.heap.size W w') := fun W hW => rFind_any p s f W wp ws wf.2
  obtain ⟨t0, c0, e0, x0⟩ := tupI_form (fdS p s f)
  rw [e0] at HP0 HR0
  clear e0
  have HP1 : Hid (∀ W : World, Below w.heap.size w W → Calls Tryd.prog 18 #[.string ⟨p.toArray⟩, .string ⟨s.toArray⟩, .int .i64 f] W fun e w' => e = .returned (tupI (srS p s f)) ∧ Below W.heap.size W w') := fun W hW => Search_any p s f W wp ws wf.2
  have HR1 : Hid (∀ W : World, Below w.heap.size w W → Calls Tryd.prog 19 #[.string ⟨p.toArray⟩, .string ⟨s.toArray⟩, .int .i64 f] W fun e w' => e = .returned (tupI (srS p s f)) ∧ Below W.heap.size W w') := fun W hW => rSearch_any p s f W wp ws wf.2
  obtain ⟨t1, c1, e1, x1⟩ := tupI_form (srS p s f)
  rw [e1] at HP1 HR1
  clear e1
  have szp := mk_size p
  have szs := mk_size s
  have HB := hide (Below.refl w.heap.size w)
  clear hc
  by_cases k1 : 40 < p.length
  · have gk1 : (40 < (p.length : Int)) = True := eq_true (by omega)
    go_enter Tryd.func4, Tryd.ntmps4
    go_wp2_with (first
      | (go_at_call 16; refine (HP0.out _ HB.out).mono ?_; rintro e wz ⟨rfl, hz⟩; replace HB := hide (upR HB.out hz); clear hz)
      | (go_at_call 17; refine (HR0.out _ HB.out).mono ?_; rintro e wz ⟨rfl, hz⟩; replace HB := hide (upR HB.out hz); clear hz)
      | (go_at_call 18; refine (HP1.out _ HB.out).mono ?_; rintro e wz ⟨rfl, hz⟩; replace HB := hide (upR HB.out hz); clear hz)
      | (go_at_call 19; refine (HR1.out _ HB.out).mono ?_; rintro e wz ⟨rfl, hz⟩; replace HB := hide (upR HB.out hz); clear hz)
      | (go_at_call 15; refine (HL.out _ HB.out).mono ?_; rintro e wz ⟨rfl, hz⟩; replace HB := hide (upR HB.out hz); clear hz))
    go_ret
    exact ⟨by first | rfl | simp, HB.out⟩
  have gk1 : (40 < (p.length : Int)) = False := eq_false (by omega)
  by_cases k2 : 60 < s.length
  · have gk2 : (60 < (s.length : Int)) = True := eq_true (by omega)
    by_cases k3 : s.length ≤ 255
    · have gk3 : ((s.length : Int) ≤ 255) = True := eq_true (by omega)
      go_enter Tryd.func4, Tryd.ntmps4
      go_wp2_with (first
        | (go_at_call 16; refine (HP0.out _ HB.out).mono ?_; rintro e wz ⟨rfl, hz⟩; replace HB := hide (upR HB.out hz); clear hz)
        | (go_at_call 17; refine (HR0.out _ HB.out).mono ?_; rintro e wz ⟨rfl, hz⟩; replace HB := hide (upR HB.out hz); clear hz)
        | (go_at_call 18; refine (HP1.out _ HB.out).mono ?_; rintro e wz ⟨rfl, hz⟩; replace HB := hide (upR HB.out hz); clear hz)
        | (go_at_call 19; refine (HR1.out _ HB.out).mono ?_; rintro e wz ⟨rfl, hz⟩; replace HB := hide (upR HB.out hz); clear hz)
        | (go_at_call 15; refine (HL.out _ HB.out).mono ?_; rintro e wz ⟨rfl, hz⟩; replace HB := hide (upR HB.out hz); clear hz))
      go_ret
      exact ⟨by first | rfl | simp, HB.out⟩
    · have gk3 : ((s.length : Int) ≤ 255) = False := eq_false (by omega)
      go_enter Tryd.func4, Tryd.ntmps4
      go_wp2_with (first
        | (go_at_call 16; refine (HP0.out _ HB.out).mono ?_; rintro e wz ⟨rfl, hz⟩; replace HB := hide (upR HB.out hz); clear hz)
        | (go_at_call 17; refine (HR0.out _ HB.out).mono ?_; rintro e wz ⟨rfl, hz⟩; replace HB := hide (upR HB.out hz); clear hz)
        | (go_at_call 18; refine (HP1.out _ HB.out).mono ?_; rintro e wz ⟨rfl, hz⟩; replace HB := hide (upR HB.out hz); clear hz)
        | (go_at_call 19; refine (HR1.out _ HB.out).mono ?_; rintro e wz ⟨rfl, hz⟩; replace HB := hide (upR HB.out hz); clear hz)
        | (go_at_call 15; refine (HL.out _ HB.out).mono ?_; rintro e wz ⟨rfl, hz⟩; replace HB := hide (upR HB.out hz); clear hz))
      go_ret
      exact ⟨by first | rfl | simp, HB.out⟩
  · have gk2 : (60 < (s.length : Int)) = False := eq_false (by omega)
    go_enter Tryd.func4, Tryd.ntmps4
    go_wp2_with (first
      | (go_at_call 16; refine (HP0.out _ HB.out).mono ?_; rintro e wz ⟨rfl, hz⟩; replace HB := hide (upR HB.out hz); clear hz)
      | (go_at_call 17; refine (HR0.out _ HB.out).mono ?_; rintro e wz ⟨rfl, hz⟩; replace HB := hide (upR HB.out hz); clear hz)
      | (go_at_call 18; refine (HP1.out _ HB.out).mono ?_; rintro e wz ⟨rfl, hz⟩; replace HB := hide (upR HB.out hz); clear hz)
      | (go_at_call 19; refine (HR1.out _ HB.out).mono ?_; rintro e wz ⟨rfl, hz⟩; replace HB := hide (upR HB.out hz); clear hz)
      | (go_at_call 15; refine (HL.out _ HB.out).mono ?_; rintro e wz ⟨rfl, hz⟩; replace HB := hide (upR HB.out hz); clear hz))
    go_ret
    exact ⟨by first | rfl | simp, HB.out⟩
end Go.Proofs.YthooimaadgabiaaDoor
