/-
  The walk of CodesReads.
-/
import Derived.Test.YtmjjdcfobdcdpaaGreatDoorRc10
namespace Go.Proofs.YtmjjdcfobdcdpaaGreatDoor
open Go.RowKit
set_option linter.unusedSimpArgs false

set_option maxRecDepth 100000 in
set_option maxHeartbeats 4000000 in
theorem codesReads_walk (c : ByteArray) (w : World) (h : EnvC w) (hc : c.size ≤ maxLen) :
    Calls Tryz.prog 3 #[.string c] w fun e w' => e = .returned (.bool true) ∧ Below w.heap.size w w' := by
  have HL : Hid (∀ W : World, Below w.heap.size w W → Calls Tryz.prog 13 #[] W fun e w' => e = .returned (.bool true) ∧ Below W.heap.size W w') := fun W hW => lives_any W (h.below hW)
  obtain ⟨C, rfl⟩ : ∃ C : List UInt8, c = ⟨C.toArray⟩ := ⟨c.data.toList, by simp⟩
  rw [mk_size] at hc
  have HC1 : Hid (∀ W : World, Below w.heap.size w W → Calls Tryz.prog 9 #[.string ⟨C.toArray⟩] W fun e w' => e = .returned (.int .i64 (checkR C)) ∧ Below W.heap.size W w') := fun W hW => Check_any C W (by unfold maxLen at hc; omega) (h.below hW).cell
  have HP1 : Hid (∀ W : World, Below w.heap.size w W → Calls Tryz.prog 11 #[.string ⟨C.toArray⟩] W fun e w' => e = .returned (.bool (plainR C)) ∧ Below W.heap.size W w') := fun W hW => Plain_any C W (by unfold maxLen at hc; omega) (h.below hW).cell
  have HC2 : Hid (∀ W : World, Calls Tryz.prog 10 #[.string ⟨C.toArray⟩] W fun e w' => e = .returned (.int .i64 (checkR C)) ∧ Below W.heap.size W w') := fun W => rCheck_any C W
  have HP2 : Hid (∀ W : World, Calls Tryz.prog 12 #[.string ⟨C.toArray⟩] W fun e w' => e = .returned (.bool (plainR C)) ∧ Below W.heap.size W w') := fun W => rPlain_any C W
  have hw : IntKind.i64.wrap (checkR C) = checkR C := by
    rw [IntKind.wrap_i64]
    unfold checkR
    (repeat' split) <;> omega
  obtain ⟨E, hE⟩ : ∃ E, checkR C = E := ⟨_, rfl⟩
  obtain ⟨P, hP⟩ : ∃ P, plainR C = P := ⟨_, rfl⟩
  rw [hE] at HC1 HC2 hw
  rw [hP] at HP1 HP2
  clear hE hP h hc
  have HB := hide (Below.refl w.heap.size w)
  have hee : (E == E) = true := by simp
  cases P
  all_goals
    go_enter Tryz.func3, Tryz.ntmps3
    go_wp2_with (first | (go_at_call 9; refine (HC1.out _ HB.out).mono ?_; rintro e w1 ⟨rfl, hb1⟩; replace HB := hide (up HB.out hb1); clear hb1) | (go_at_call 10; refine (HC2.out _).mono ?_; rintro e w2 ⟨rfl, hb1⟩; replace HB := hide (up HB.out hb1); clear hb1) | (go_at_call 11; refine (HP1.out _ HB.out).mono ?_; rintro e w3 ⟨rfl, hb1⟩; replace HB := hide (up HB.out hb1); clear hb1) | (go_at_call 12; refine (HP2.out _).mono ?_; rintro e w4 ⟨rfl, hb1⟩; replace HB := hide (up HB.out hb1); clear hb1) | (go_at_call 13; refine (HL.out _ HB.out).mono ?_; rintro e w5 ⟨rfl, hb1⟩; replace HB := hide (up HB.out hb1); clear hb1))
    go_ret
    exact ⟨rfl, HB.out⟩
end Go.Proofs.YtmjjdcfobdcdpaaGreatDoor
