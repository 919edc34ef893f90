/-
  The walk of DatesLeap.
-/
import Derived.Test.YtlhpplhhdeifhabDoorDt9
namespace Go.Proofs.YtlhpplhhdeifhabDoor
open Go.RowKit

theorem new_year {y : Int} (h1 : 1900 ≤ y) (h2 : y ≤ 9999) : serialR y 1 1 = (dA y + 1, 0) := by
  rw [serial_yes (by omega)]
  have e := count_date y 1 (k := 0) (by decide)
  simp only [cum] at e
  have e : countR y 1 1 = dA y + 0 + 1 := e
  have q1 := dA_mono h1
  have q2 := dA_mono (show y + 1 ≤ 10000 by omega)
  have q3 := dA_succ y
  have q4 := cum_le y 12
  rw [dA_first] at q1
  rw [dA_last] at q2
  rw [e, daily_yes (by omega) (by omega)]
  simp
theorem next_year {y : Int} (h1 : 1900 ≤ y) (h2 : y ≤ 9998) : serialR y 13 1 = (dA (y + 1) + 1, 0) := by
  have := new_year (y := y + 1) (by omega) (by omega)
  rw [serial_yes (by omega)] at *
  rw [show (13 : Int) = 1 + 12 from rfl, count_year]
  exact this
theorem year_long (y : Int) : dA (y + 1) + 1 - (dA y + 1) = if leapB y then 366 else 365 := by rw [dA_succ, cum_twelve]; omega
set_option maxHeartbeats 4000000 in
theorem datesLeap_walk (y : Int) (w : World) (h : Env w) :
    Calls Tryd.prog 3 #[.int .i64 y] w fun e w' => e = .returned (.bool true) ∧ Below w.heap.size w w' := by
  have HL : Hid (∀ W : World, Below w.heap.size w W → Calls Tryd.prog 6 #[] W fun e w' => e = .returned (.bool true) ∧ Below W.heap.size W w') := fun W hW => lives_any W (h.below hW)
  by_cases a1 : y < 1900
  · clear h
    go_enter Tryd.func3, Tryd.ntmps3
    go_wp2_with (go_at_call 6; refine (HL.out _ (Below.refl _ _)).mono ?_; rintro e w1 ⟨rfl, hb1⟩)
    go_ret
    exact ⟨rfl, by assumption⟩
  · by_cases a2 : 9998 < y
    · clear h
      go_enter Tryd.func3, Tryd.ntmps3
      go_wp2_with (go_at_call 6; refine (HL.out _ (Below.refl _ _)).mono ?_; rintro e w1 ⟨rfl, hb1⟩)
      go_ret
      exact ⟨rfl, by assumption⟩
    · have HS1 : Hid (∀ W : World, Below w.heap.size w W → Calls Tryd.prog 7 #[.int .i64 y, .int .i64 1, .int .i64 1] W fun e w' => e = .returned (.tuple #[.int .i64 (dA y + 1), .int .i64 0]) ∧ Below W.heap.size W w') := fun W hW => by have := serial_any y 1 1 W (h.below hW).1; rw [new_year (by omega) (by omega)] at this; exact this
      have HS2 : Hid (∀ W : World, Below w.heap.size w W → Calls Tryd.prog 7 #[.int .i64 (y + 1), .int .i64 1, .int .i64 1] W fun e w' => e = .returned (.tuple #[.int .i64 (dA (y + 1) + 1), .int .i64 0]) ∧ Below W.heap.size W w') := fun W hW => by have := serial_any (y + 1) 1 1 W (h.below hW).1; rw [new_year (by omega) (by omega)] at this; exact this
      have HS3 : Hid (∀ W : World, Below w.heap.size w W → Calls Tryd.prog 7 #[.int .i64 y, .int .i64 13, .int .i64 1] W fun e w' => e = .returned (.tuple #[.int .i64 (dA (y + 1) + 1), .int .i64 0]) ∧ Below W.heap.size W w') := fun W hW => by have := serial_any y 13 1 W (h.below hW).1; rw [next_year (by omega) (by omega)] at this; exact this
      have HE : Hid (∀ W : World, Calls Tryd.prog 8 #[.int .i64 y] W fun e w' => e = .returned (.bool (leapB y)) ∧ w' = W) := fun W => leap_any y W
      have hy := year_long y
      have q1 := dA_bd y (by omega) (by omega)
      have q2 := dA_bd (y + 1) (by omega) (by omega)
      obtain ⟨A, hA⟩ : ∃ A : Int, dA y + 1 = A := ⟨_, rfl⟩
      obtain ⟨B, hB⟩ : ∃ B : Int, dA (y + 1) + 1 = B := ⟨_, rfl⟩
      rw [hA] at HS1 hy
      rw [hB] at HS2 HS3 hy
      have v1 : IntKind.i64.wrap (B - A) = B - A := by rw [IntKind.wrap_i64]; omega
      clear h hA hB q1 q2
      cases hl : leapB y
      · rw [hl] at HE hy
        have t1 : (B - A == 366) = false := by rw [hy]; rfl
        have t2 : (B - A == 365) = true := by rw [hy]; rfl
        clear hl hy
        go_enter Tryd.func3, Tryd.ntmps3
        go_wp2_with fail
        refine (HS1.out _ (Below.refl _ _)).mono ?_
        rintro e w1 ⟨rfl, hb1⟩
        go_wp2_with fail
        refine (HS2.out _ hb1).mono ?_
        rintro e w2 ⟨rfl, hb2⟩
        have hb2 := up hb1 hb2
        go_wp2_with fail
        refine (HS3.out _ hb2).mono ?_
        rintro e w3 ⟨rfl, hb3⟩
        have hb3 := up hb2 hb3
        clear HS1 HS2 HS3
        go_wp2_with (first | (go_at_call 8; refine (HE.out _).mono ?_; rintro e wz ⟨rfl, hz⟩; subst wz) | (go_at_call 6; refine (HL.out _ hb3).mono ?_; rintro e w5 ⟨rfl, hb5⟩))
        go_ret
        exact ⟨rfl, up hb3 hb5⟩
      · rw [hl] at HE hy
        have t1 : (B - A == 366) = true := by rw [hy]; rfl
        have t2 : (B - A == 365) = false := by rw [hy]; rfl
        clear hl hy
        go_enter Tryd.func3, Tryd.ntmps3
        go_wp2_with fail
        refine (HS1.out _ (Below.refl _ _)).mono ?_
        rintro e w1 ⟨rfl, hb1⟩
        go_wp2_with fail
        refine (HS2.out _ hb1).mono ?_
        rintro e w2 ⟨rfl, hb2⟩
        have hb2 := up hb1 hb2
        go_wp2_with fail
        refine (HS3.out _ hb2).mono ?_
        rintro e w3 ⟨rfl, hb3⟩
        have hb3 := up hb2 hb3
        clear HS1 HS2 HS3
        go_wp2_with (first | (go_at_call 8; refine (HE.out _).mono ?_; rintro e wz ⟨rfl, hz⟩; subst wz) | (go_at_call 6; refine (HL.out _ hb3).mono ?_; rintro e w5 ⟨rfl, hb5⟩))
        go_ret
        exact ⟨rfl, up hb3 hb5⟩
end Go.Proofs.YtlhpplhhdeifhabDoor
