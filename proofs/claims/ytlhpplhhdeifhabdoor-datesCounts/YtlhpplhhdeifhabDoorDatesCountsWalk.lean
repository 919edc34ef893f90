/-
  The walk of DatesCounts.
-/
import Derived.Test.YtlhpplhhdeifhabDoorDt9
namespace Go.Proofs.YtlhpplhhdeifhabDoor
open Go.RowKit

theorem ser_err {y m d : Int} (h1 : 1900 ≤ y ∧ y ≤ 9999 ∧ -100000 ≤ m ∧ m ≤ 100000 ∧ -100000 ≤ d ∧ d ≤ 100000) : (serialR y m d = (countR y m d, 0)) ∨ serialR y m d = (0, 3) := by
  rw [serial_yes h1]
  by_cases a : 1 ≤ countR y m d ∧ countR y m d ≤ 2958464
  · exact Or.inl (daily_yes a.1 a.2)
  · exact Or.inr (daily_no (by omega))
set_option maxHeartbeats 4000000 in
theorem datesCounts_walk (y m d : Int) (w : World) (h : Env w) :
    Calls Tryd.prog 5 #[.int .i64 y, .int .i64 m, .int .i64 d] w fun e w' => e = .returned (.bool true) ∧ Below w.heap.size w w' := by
  have HL : Hid (∀ W : World, Below w.heap.size w W → Calls Tryd.prog 6 #[] W fun e w' => e = .returned (.bool true) ∧ Below W.heap.size W w') := fun W hW => lives_any W (h.below hW)
  by_cases hr : 1900 ≤ y ∧ y ≤ 9999 ∧ -1000 ≤ m ∧ m ≤ 1000 ∧ -1000 ≤ d ∧ d ≤ 1000
  · obtain ⟨r1, r2, r3, r4, r5, r6⟩ := hr
    have HS1 : Hid (∀ W : World, Below w.heap.size w W → Calls Tryd.prog 7 #[.int .i64 y, .int .i64 m, .int .i64 d] W fun e w' => e = .returned (.tuple #[.int .i64 (serialR y m d).1, .int .i64 (serialR y m d).2]) ∧ Below W.heap.size W w') := fun W hW => serial_any y m d W (h.below hW).1
    have HS2 : Hid (∀ W : World, Below w.heap.size w W → Calls Tryd.prog 7 #[.int .i64 y, .int .i64 m, .int .i64 (d + 1)] W fun e w' => e = .returned (.tuple #[.int .i64 (serialR y m (d + 1)).1, .int .i64 (serialR y m (d + 1)).2]) ∧ Below W.heap.size W w') := fun W hW => serial_any y m (d + 1) W (h.below hW).1
    have HS3 : Hid (y ≤ 9998 → ∀ W : World, Below w.heap.size w W → Calls Tryd.prog 7 #[.int .i64 (y + 1), .int .i64 m, .int .i64 d] W fun e w' => e = .returned (.tuple #[.int .i64 (serialR (y + 1) m d).1, .int .i64 (serialR (y + 1) m d).2]) ∧ Below W.heap.size W w') := fun _ W hW => serial_any (y + 1) m d W (h.below hW).1
    have HS4 : Hid (y ≤ 9998 → ∀ W : World, Below w.heap.size w W → Calls Tryd.prog 7 #[.int .i64 y, .int .i64 (m + 12), .int .i64 d] W fun e w' => e = .returned (.tuple #[.int .i64 (serialR (y + 1) m d).1, .int .i64 (serialR (y + 1) m d).2]) ∧ Below W.heap.size W w') := fun hy W hW => by
      have := serial_any y (m + 12) d W (h.below hW).1
      rw [serial_yes (by omega), count_year, ← serial_yes (by omega)] at this
      exact this
    have key : (∃ a b, serialR y m d = (a, 0) ∧ serialR y m (d + 1) = (b, 0) ∧ b = a + 1) ∨ (∃ a b : Int × Int, serialR y m d = a ∧ serialR y m (d + 1) = b ∧ ((a.2 == 0) = false ∨ ((a.2 == 0) = true ∧ (b.2 == 0) = false))) := by
      rcases ser_err (y := y) (m := m) (d := d) (by omega) with e | e
      · rcases ser_err (y := y) (m := m) (d := d + 1) (by omega) with g | g
        · exact Or.inl ⟨_, _, e, g, count_more y m d⟩
        · exact Or.inr ⟨_, _, e, g, Or.inr ⟨rfl, rfl⟩⟩
      · exact Or.inr ⟨_, _, e, rfl, Or.inl rfl⟩
    have hN : ∃ a : Int, -60000000 ≤ a ∧ a ≤ 60000000 := ⟨0, by decide, by decide⟩
    clear hN
    have hA : (serialR y m d).1 ≤ 60000000 ∧ -60000000 ≤ (serialR y m d).1 := by
      have q := count_bd y m d (by omega) (by omega) (by omega) (by omega) (by omega) (by omega)
      rcases ser_err (y := y) (m := m) (d := d) (by omega) with e | e <;> rw [e] <;> simp <;> omega
    clear h
    rcases key with ⟨a, b, e1, e2, rfl⟩ | ⟨a, b, e1, e2, e3⟩
    · rw [e1] at HS1 hA
      rw [e2] at HS2
      clear e1 e2
      obtain ⟨hA1, hA2⟩ := hA
      have hA1 : a ≤ 60000000 := hA1
      have hA2 : -60000000 ≤ a := hA2
      by_cases y9 : y = 9999
      · have y8 : (y == 9999) = true := beq_iff_eq.2 y9
        clear y9 HS3 HS4
        go_enter Tryd.func5, Tryd.ntmps5
        go_wp2_with fail
        refine (HS1.out _ (Below.refl _ _)).mono ?_
        rintro e w1 ⟨rfl, hb1⟩
        go_wp2_with fail
        refine (HS2.out _ hb1).mono ?_
        rintro e w2 ⟨rfl, hb2⟩
        have hb2 := up hb1 hb2
        go_wp2_with (go_at_call 6; refine (HL.out _ hb2).mono ?_; rintro e w5 ⟨rfl, hb5⟩)
        go_ret
        exact ⟨rfl, up hb2 hb5⟩
      · have y8 : (y == 9999) = false := beq_eq_false_iff_ne.2 y9
        have HS3 := hide (HS3.out (by omega))
        have HS4 := hide (HS4.out (by omega))
        clear y9
        generalize (serialR (y + 1) m d).1 = A at *
        generalize (serialR (y + 1) m d).2 = B at *
        go_enter Tryd.func5, Tryd.ntmps5
        go_wp2_with fail
        refine (HS1.out _ (Below.refl _ _)).mono ?_
        rintro e w1 ⟨rfl, hb1⟩
        go_wp2_with fail
        refine (HS2.out _ hb1).mono ?_
        rintro e w2 ⟨rfl, hb2⟩
        have hb2 := up hb1 hb2
        go_wp2_with fail
        refine (HS3.out _ hb2).mono ?_
        rintro e w3 ⟨rfl, hb3⟩
        have hb3 := up hb2 hb3
        go_wp2_with fail
        refine (HS4.out _ hb3).mono ?_
        rintro e w4 ⟨rfl, hb4⟩
        have hb4 := up hb3 hb4
        go_wp2_with (go_at_call 6; refine (HL.out _ hb4).mono ?_; rintro e w5 ⟨rfl, hb5⟩)
        go_ret
        exact ⟨rfl, up hb4 hb5⟩
    · rw [e1] at HS1
      rw [e2] at HS2
      clear e1 e2 hA
      obtain ⟨a1, a2⟩ := a
      obtain ⟨b1, b2⟩ := b
      have e3 : ((a2 == 0) = false ∨ ((a2 == 0) = true ∧ (b2 == 0) = false)) := e3
      by_cases y9 : y = 9999
      · have y8 : (y == 9999) = true := beq_iff_eq.2 y9
        clear y9 HS3 HS4
        rcases e3 with e3 | ⟨e3, e4⟩
        all_goals
          go_enter Tryd.func5, Tryd.ntmps5
          go_wp2_with fail
          refine (HS1.out _ (Below.refl _ _)).mono ?_
          rintro e w1 ⟨rfl, hb1⟩
          go_wp2_with fail
          refine (HS2.out _ hb1).mono ?_
          rintro e w2 ⟨rfl, hb2⟩
          have hb2 := up hb1 hb2
          go_wp2_with (go_at_call 6; refine (HL.out _ hb2).mono ?_; rintro e w5 ⟨rfl, hb5⟩)
          go_ret
          exact ⟨rfl, up hb2 hb5⟩
      · have y8 : (y == 9999) = false := beq_eq_false_iff_ne.2 y9
        have HS3 := hide (HS3.out (by omega))
        have HS4 := hide (HS4.out (by omega))
        clear y9
        generalize (serialR (y + 1) m d).1 = A at *
        generalize (serialR (y + 1) m d).2 = B at *
        rcases e3 with e3 | ⟨e3, e4⟩
        all_goals
          go_enter Tryd.func5, Tryd.ntmps5
          go_wp2_with fail
          refine (HS1.out _ (Below.refl _ _)).mono ?_
          rintro e w1 ⟨rfl, hb1⟩
          go_wp2_with fail
          refine (HS2.out _ hb1).mono ?_
          rintro e w2 ⟨rfl, hb2⟩
          have hb2 := up hb1 hb2
          go_wp2_with fail
          refine (HS3.out _ hb2).mono ?_
          rintro e w3 ⟨rfl, hb3⟩
          have hb3 := up hb2 hb3
          go_wp2_with fail
          refine (HS4.out _ hb3).mono ?_
          rintro e w4 ⟨rfl, hb4⟩
          have hb4 := up hb3 hb4
          go_wp2_with (go_at_call 6; refine (HL.out _ hb4).mono ?_; rintro e w5 ⟨rfl, hb5⟩)
          go_ret
          exact ⟨rfl, up hb4 hb5⟩
  · clear h
    have key : y < 1900 ∨ (¬ y < 1900 ∧ 9999 < y) ∨ (¬ y < 1900 ∧ ¬ 9999 < y ∧ m < -1000) ∨ (¬ y < 1900 ∧ ¬ 9999 < y ∧ ¬ m < -1000 ∧ 1000 < m) ∨ (¬ y < 1900 ∧ ¬ 9999 < y ∧ ¬ m < -1000 ∧ ¬ 1000 < m ∧ d < -1000) ∨ (¬ y < 1900 ∧ ¬ 9999 < y ∧ ¬ m < -1000 ∧ ¬ 1000 < m ∧ ¬ d < -1000 ∧ 1000 < d) := by omega
    clear hr
    rcases key with k1 | ⟨k1, k2⟩ | ⟨k1, k2, k3⟩ | ⟨k1, k2, k3, k4⟩ | ⟨k1, k2, k3, k4, k5⟩ | ⟨k1, k2, k3, k4, k5, k6⟩
    all_goals
      go_enter Tryd.func5, Tryd.ntmps5
      go_wp2_with (go_at_call 6; refine (HL.out _ (Below.refl _ _)).mono ?_; rintro e w1 ⟨rfl, hb1⟩)
      go_ret
      exact ⟨rfl, by assumption⟩
end Go.Proofs.YtlhpplhhdeifhabDoor
