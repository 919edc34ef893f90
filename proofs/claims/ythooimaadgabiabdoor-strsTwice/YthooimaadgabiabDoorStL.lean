/-
  lives, layer 14's.
-/
import Derived.Test.YthooimaadgabiabDoorSt10
namespace Go.Proofs.YthooimaadgabiabDoor
open Go.RowKit
set_option linter.unusedSimpArgs false
set_option linter.unusedVariables false

theorem ex_mid : tupT (mdS [97, 98, 99, 100, 101, 102] 2 3) = .tuple #[.string ⟨#[98, 99, 100]⟩, .int .i64 0] := by kernel_rfl
theorem ex_find : tupI (fdS [98] [97, 98, 99, 98] 3) = .tuple #[.int .i64 4, .int .i64 0] := by kernel_rfl
theorem ex_search : tupI (srS [63, 99, 42] [97, 98, 99] 1) = .tuple #[.int .i64 2, .int .i64 0] := by kernel_rfl
theorem ex_replace : tupT (rpS [97, 98, 99, 100, 101, 102] 2 3 [88]) = .tuple #[.string ⟨#[97, 88, 101, 102]⟩, .int .i64 0] := by kernel_rfl
theorem ex_subst : tupT (sbS [97, 97, 97] [97] [98] 2) = .tuple #[.string ⟨#[97, 98, 97]⟩, .int .i64 0] := by kernel_rfl
theorem ex_trim : tupT (trS [32, 32, 97, 32, 32, 98, 32]) = .tuple #[.string ⟨#[97, 32, 98]⟩, .int .i64 0] := by kernel_rfl
theorem len_ok (l : By) (h : l.length ≤ 255) : l.length ≤ maxLen := by unfold maxLen; omega
set_option maxRecDepth 100000 in
set_option maxHeartbeats 2000000 in
theorem lives_any (w : World) (hc : CellOk w) : Calls Tryd.prog 6 #[] w fun e w' => e = .returned (.bool true) ∧ Below w.heap.size w w' := by
  have H1 : Hid (∀ W : World, Calls Tryd.prog 8 #[.string ⟨#[97, 98, 99, 100, 101, 102]⟩, .int .i64 2, .int .i64 3] W fun e w' => e = .returned (.tuple #[.string ⟨#[98, 99, 100]⟩, .int .i64 0]) ∧ Below W.heap.size W w') := fun W => by
    have := Mid_any [97, 98, 99, 100, 101, 102] 2 3 W (len_ok _ (by decide)) (by omega)
    rwa [ex_mid] at this
  have H2 : Hid (∀ W : World, Calls Tryd.prog 14 #[.string ⟨#[98]⟩, .string ⟨#[97, 98, 99, 98]⟩, .int .i64 3] W fun e w' => e = .returned (.tuple #[.int .i64 4, .int .i64 0]) ∧ Below W.heap.size W w') := fun W => by
    have := Find_any [98] [97, 98, 99, 98] 3 W (len_ok _ (by decide)) (len_ok _ (by decide)) (by omega)
    rwa [ex_find] at this
  have H3 : Hid (∀ W : World, Calls Tryd.prog 15 #[.string ⟨#[63, 99, 42]⟩, .string ⟨#[97, 98, 99]⟩, .int .i64 1] W fun e w' => e = .returned (.tuple #[.int .i64 2, .int .i64 0]) ∧ Below W.heap.size W w') := fun W => by
    have := Search_any [63, 99, 42] [97, 98, 99] 1 W (len_ok _ (by decide)) (len_ok _ (by decide)) (by omega)
    rwa [ex_search] at this
  have H4 : Hid (∀ W : World, Calls Tryd.prog 7 #[.string ⟨#[97, 98, 99, 100, 101, 102]⟩, .int .i64 2, .int .i64 3, .string ⟨#[88]⟩] W fun e w' => e = .returned (.tuple #[.string ⟨#[97, 88, 101, 102]⟩, .int .i64 0]) ∧ Below W.heap.size W w') := fun W => by
    have := Replace_any [97, 98, 99, 100, 101, 102] 2 3 [88] W (len_ok _ (by decide)) (by omega) (len_ok _ (by decide))
    rwa [ex_replace] at this
  have H5 : Hid (∀ W : World, Below w.heap.size w W → Calls Tryd.prog 16 #[.string ⟨#[97, 97, 97]⟩, .string ⟨#[97]⟩, .string ⟨#[98]⟩, .int .i64 2] W fun e w' => e = .returned (.tuple #[.string ⟨#[97, 98, 97]⟩, .int .i64 0]) ∧ Below W.heap.size W w') := fun W hW => by
    have := Substitute_any [97, 97, 97] [97] [98] 2 W (len_ok _ (by decide)) (len_ok _ (by decide)) (len_ok _ (by decide)) (cellOk_below hc hW)
    rwa [ex_subst] at this
  have H6 : Hid (∀ W : World, Below w.heap.size w W → Calls Tryd.prog 10 #[.string ⟨#[32, 32, 97, 32, 32, 98, 32]⟩] W fun e w' => e = .returned (.tuple #[.string ⟨#[97, 32, 98]⟩, .int .i64 0]) ∧ Below W.heap.size W w') := fun W hW => by
    have := Trim_any [32, 32, 97, 32, 32, 98, 32] W (len_ok _ (by decide)) (cellOk_below hc hW)
    rwa [ex_trim] at this
  have HB := hide (Below.refl w.heap.size w)
  clear hc
  go_enter Tryd.func6, Tryd.ntmps6
  go_wp2_with (first
    | (go_at_call 8; refine (H1.out _).mono ?_; rintro e wz ⟨rfl, hz⟩; replace HB := hide (upR HB.out hz); clear hz)
    | (go_at_call 14; refine (H2.out _).mono ?_; rintro e wz ⟨rfl, hz⟩; replace HB := hide (upR HB.out hz); clear hz)
    | (go_at_call 15; refine (H3.out _).mono ?_; rintro e wz ⟨rfl, hz⟩; replace HB := hide (upR HB.out hz); clear hz)
    | (go_at_call 7; refine (H4.out _).mono ?_; rintro e wz ⟨rfl, hz⟩; replace HB := hide (upR HB.out hz); clear hz)
    | (go_at_call 16; refine (H5.out _ HB.out).mono ?_; rintro e wz ⟨rfl, hz⟩; replace HB := hide (upR HB.out hz); clear hz)
    | (go_at_call 10; refine (H6.out _ HB.out).mono ?_; rintro e wz ⟨rfl, hz⟩; replace HB := hide (upR HB.out hz); clear hz))
  go_ret
  exact ⟨rfl, HB.out⟩
theorem tup_form (o : Option By) : ∃ (t : By) (c : Int), tupT o = .tuple #[.string ⟨t.toArray⟩, .int .i64 c] ∧ IntKind.i64.wrap c = c := by
  cases o with
  | none => exact ⟨[], 2, rfl, by rw [IntKind.wrap_i64]; omega⟩
  | some t => exact ⟨t, 0, rfl, by rw [IntKind.wrap_i64]; omega⟩
theorem tupI_form (o : Option Int) : ∃ (n c : Int), tupI o = .tuple #[.int .i64 n, .int .i64 c] ∧ IntKind.i64.wrap c = c := by
  cases o with
  | none => exact ⟨0, 2, rfl, by rw [IntKind.wrap_i64]; omega⟩
  | some t => exact ⟨t, 0, rfl, by rw [IntKind.wrap_i64]; omega⟩
theorem by_form (s : ByteArray) : ∃ l : By, s = ⟨l.toArray⟩ := ⟨s.data.toList, by simp⟩
theorem wf_le {n : Int} (h : (Lit.int .i64 n).wf = true) : -9223372036854775808 ≤ n ∧ n ≤ 9223372036854775807 := by
  simp [Lit.wf] at h
  have h0 : IntKind.i64.min = -9223372036854775808 := rfl
  rw [h0] at h
  exact h
end Go.Proofs.YthooimaadgabiabDoor
