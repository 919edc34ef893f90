/-
  The walk of StrsMakes.
-/
import Derived.Test.YthooimaadgabiaaDoorStL
import Derived.Test.YthooimaadgabiaaDoorSt13
import Derived.Test.YthooimaadgabiaaDoorSt14
import Derived.Test.YthooimaadgabiaaDoorSt15
namespace Go.Proofs.YthooimaadgabiaaDoor
open Go.RowKit
set_option linter.unusedSimpArgs false
set_option linter.unusedVariables false

set_option maxRecDepth 100000 in
set_option maxHeartbeats 4000000 in
theorem strsMakes_walk (ss : ByteArray) (n : Int) (l : List By) (v : Value) (w : World) (hc : CellOk w) (ws : ss.size ≤ maxLen) (wn : -9223372036854775808 ≤ n ∧ n ≤ 9223372036854775807) (wv : SlIs w v l) (nv : l.length ≤ maxLen) (zv : ∀ y ∈ l, y.length ≤ maxLen) :
    Calls Tryd.prog 6 #[.string ss, .int .i64 n, v] w fun e w' => e = .returned (.bool true) ∧ Below w.heap.size w w' := by
  obtain ⟨s, rfl⟩ := by_form ss
  rw [mk_size] at ws
  obtain ⟨pv, cv, rfl⟩ := wv.form
  have HL : Hid (∀ W : World, Below w.heap.size w W → Calls Tryd.prog 15 #[] W fun e w' => e = .returned (.bool true) ∧ Below W.heap.size W w') := fun W hW => lives_any W (cellOk_below hc hW)
  have HP0 : Hid (∀ W : World, Below w.heap.size w W → Calls Tryd.prog 24 #[.string ⟨s.toArray⟩] W fun e w' => e = .returned (tupT (trS s)) ∧ Below W.heap.size W w') := fun W hW => Trim_any s W ws (cellOk_below hc hW)
  have HR0 : Hid (∀ W : World, Below w.heap.size w W → Calls Tryd.prog 25 #[.string ⟨s.toArray⟩] W fun e w' => e = .returned (tupT (trS s)) ∧ Below W.heap.size W w') := fun W hW => rTrim_any s W ws
  obtain ⟨t0, c0, e0, x0⟩ := tup_form (trS s)
  rw [e0] at HP0 HR0
  clear e0
  have HP1 : Hid (∀ W : World, Below w.heap.size w W → Calls Tryd.prog 26 #[.string ⟨s.toArray⟩, .int .i64 n] W fun e w' => e = .returned (tupT (rtS s n)) ∧ Below W.heap.size W w') := fun W hW => Repeat_any s n W ws wn.2
  have HR1 : Hid (∀ W : World, Below w.heap.size w W → Calls Tryd.prog 27 #[.string ⟨s.toArray⟩, .int .i64 n] W fun e w' => e = .returned (tupT (rtS s n)) ∧ Below W.heap.size W w') := fun W hW => rRepeat_any s n W ws wn.2
  obtain ⟨t1, c1, e1, x1⟩ := tup_form (rtS s n)
  rw [e1] at HP1 HR1
  clear e1
  have HP2 : Hid (∀ W : World, Below w.heap.size w W → Calls Tryd.prog 28 #[.slice pv l.length cv] W fun e w' => e = .returned (tupT (jnS l)) ∧ Below W.heap.size W w') := fun W hW => Join_any l _ W (wv.below hW) nv
  have HR2 : Hid (∀ W : World, Below w.heap.size w W → Calls Tryd.prog 29 #[.slice pv l.length cv] W fun e w' => e = .returned (tupT (jnS l)) ∧ Below W.heap.size W w') := fun W hW => rJoin_any l _ W (wv.below hW) nv
  obtain ⟨t2, c2, e2, x2⟩ := tup_form (jnS l)
  rw [e2] at HP2 HR2
  clear e2
  have HP3 : Hid (∀ W : World, Below w.heap.size w W → Calls Tryd.prog 30 #[.string ⟨s.toArray⟩] W fun e w' => e = .returned (tupT (loS s)) ∧ Below W.heap.size W w') := fun W hW => Lower_any s W ws
  have HR3 : Hid (∀ W : World, Below w.heap.size w W → Calls Tryd.prog 31 #[.string ⟨s.toArray⟩] W fun e w' => e = .returned (tupT (loS s)) ∧ Below W.heap.size W w') := fun W hW => rLower_any s W ws
  obtain ⟨t3, c3, e3, x3⟩ := tup_form (loS s)
  rw [e3] at HP3 HR3
  clear e3
  have HP4 : Hid (∀ W : World, Below w.heap.size w W → Calls Tryd.prog 32 #[.int .i64 n] W fun e w' => e = .returned (tupT (chS n)) ∧ Below W.heap.size W w') := fun W hW => Char_any n W
  have HR4 : Hid (∀ W : World, Below w.heap.size w W → Calls Tryd.prog 33 #[.int .i64 n] W fun e w' => e = .returned (tupT (chS n)) ∧ Below W.heap.size W w') := fun W hW => rChar_any n W
  obtain ⟨t4, c4, e4, x4⟩ := tup_form (chS n)
  rw [e4] at HP4 HR4
  clear e4
  have HP5 : Hid (∀ W : World, Below w.heap.size w W → Calls Tryd.prog 34 #[.string ⟨s.toArray⟩] W fun e w' => e = .returned (tupI (cdS s)) ∧ Below W.heap.size W w') := fun W hW => Code_any s W ws
  have HR5 : Hid (∀ W : World, Below w.heap.size w W → Calls Tryd.prog 35 #[.string ⟨s.toArray⟩] W fun e w' => e = .returned (tupI (cdS s)) ∧ Below W.heap.size W w') := fun W hW => rCode_any s W ws
  obtain ⟨t5, c5, e5, x5⟩ := tupI_form (cdS s)
  rw [e5] at HP5 HR5
  clear e5
  have szs := mk_size s
  have HB := hide (Below.refl w.heap.size w)
  clear hc
  by_cases k1 : 300 < l.length
  · have gk1 : (300 < (l.length : Int)) = True := eq_true (by omega)
    go_enter Tryd.func6, Tryd.ntmps6
    go_wp2_with (first
      | (go_at_call 24; refine (HP0.out _ HB.out).mono ?_; rintro e wz ⟨rfl, hz⟩; replace HB := hide (upR HB.out hz); clear hz)
      | (go_at_call 25; refine (HR0.out _ HB.out).mono ?_; rintro e wz ⟨rfl, hz⟩; replace HB := hide (upR HB.out hz); clear hz)
      | (go_at_call 26; refine (HP1.out _ HB.out).mono ?_; rintro e wz ⟨rfl, hz⟩; replace HB := hide (upR HB.out hz); clear hz)
      | (go_at_call 27; refine (HR1.out _ HB.out).mono ?_; rintro e wz ⟨rfl, hz⟩; replace HB := hide (upR HB.out hz); clear hz)
      | (go_at_call 28; refine (HP2.out _ HB.out).mono ?_; rintro e wz ⟨rfl, hz⟩; replace HB := hide (upR HB.out hz); clear hz)
      | (go_at_call 29; refine (HR2.out _ HB.out).mono ?_; rintro e wz ⟨rfl, hz⟩; replace HB := hide (upR HB.out hz); clear hz)
      | (go_at_call 30; refine (HP3.out _ HB.out).mono ?_; rintro e wz ⟨rfl, hz⟩; replace HB := hide (upR HB.out hz); clear hz)
      | (go_at_call 31; refine (HR3.out _ HB.out).mono ?_; rintro e wz ⟨rfl, hz⟩; replace HB := hide (upR HB.out hz); clear hz)
      | (go_at_call 32; refine (HP4.out _ HB.out).mono ?_; rintro e wz ⟨rfl, hz⟩; replace HB := hide (upR HB.out hz); clear hz)
      | (go_at_call 33; refine (HR4.out _ HB.out).mono ?_; rintro e wz ⟨rfl, hz⟩; replace HB := hide (upR HB.out hz); clear hz)
      | (go_at_call 34; refine (HP5.out _ HB.out).mono ?_; rintro e wz ⟨rfl, hz⟩; replace HB := hide (upR HB.out hz); clear hz)
      | (go_at_call 35; refine (HR5.out _ HB.out).mono ?_; rintro e wz ⟨rfl, hz⟩; replace HB := hide (upR HB.out hz); clear hz)
      | (go_at_call 15; refine (HL.out _ HB.out).mono ?_; rintro e wz ⟨rfl, hz⟩; replace HB := hide (upR HB.out hz); clear hz))
    go_ret
    exact ⟨by first | rfl | simp, HB.out⟩
  have gk1 : (300 < (l.length : Int)) = False := eq_false (by omega)
  go_enter Tryd.func6, Tryd.ntmps6
  go_wp2_with (first
    | (go_at_call 24; refine (HP0.out _ HB.out).mono ?_; rintro e wz ⟨rfl, hz⟩; replace HB := hide (upR HB.out hz); clear hz)
    | (go_at_call 25; refine (HR0.out _ HB.out).mono ?_; rintro e wz ⟨rfl, hz⟩; replace HB := hide (upR HB.out hz); clear hz)
    | (go_at_call 26; refine (HP1.out _ HB.out).mono ?_; rintro e wz ⟨rfl, hz⟩; replace HB := hide (upR HB.out hz); clear hz)
    | (go_at_call 27; refine (HR1.out _ HB.out).mono ?_; rintro e wz ⟨rfl, hz⟩; replace HB := hide (upR HB.out hz); clear hz)
    | (go_at_call 28; refine (HP2.out _ HB.out).mono ?_; rintro e wz ⟨rfl, hz⟩; replace HB := hide (upR HB.out hz); clear hz)
    | (go_at_call 29; refine (HR2.out _ HB.out).mono ?_; rintro e wz ⟨rfl, hz⟩; replace HB := hide (upR HB.out hz); clear hz)
    | (go_at_call 30; refine (HP3.out _ HB.out).mono ?_; rintro e wz ⟨rfl, hz⟩; replace HB := hide (upR HB.out hz); clear hz)
    | (go_at_call 31; refine (HR3.out _ HB.out).mono ?_; rintro e wz ⟨rfl, hz⟩; replace HB := hide (upR HB.out hz); clear hz)
    | (go_at_call 32; refine (HP4.out _ HB.out).mono ?_; rintro e wz ⟨rfl, hz⟩; replace HB := hide (upR HB.out hz); clear hz)
    | (go_at_call 33; refine (HR4.out _ HB.out).mono ?_; rintro e wz ⟨rfl, hz⟩; replace HB := hide (upR HB.out hz); clear hz)
    | (go_at_call 34; refine (HP5.out _ HB.out).mono ?_; rintro e wz ⟨rfl, hz⟩; replace HB := hide (upR HB.out hz); clear hz)
    | (go_at_call 35; refine (HR5.out _ HB.out).mono ?_; rintro e wz ⟨rfl, hz⟩; replace HB := hide (upR HB.out hz); clear hz)
    | (go_at_call 15; refine (HL.out _ HB.out).mono ?_; rintro e wz ⟨rfl, hz⟩; replace HB := hide (upR HB.out hz); clear hz))
  go_ret
  exact ⟨by first | rfl | simp, HB.out⟩
end Go.Proofs.YthooimaadgabiaaDoor
