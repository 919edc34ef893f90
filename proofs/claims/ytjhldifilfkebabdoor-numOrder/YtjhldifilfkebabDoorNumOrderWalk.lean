/-
  The walk of the law NumOrder, out of its callees' contracts.
-/
import Derived.Test.YtjhldifilfkebabDoorOutMath
import Derived.Test.YtjhldifilfkebabDoorFull
import Derived.Test.YtjhldifilfkebabDoorLives
namespace Go.Proofs.YtjhldifilfkebabDoor
open Go.RowKit

theorem mulR_bad {a b : Int} (h : fitsB a = false) : mulR a b = (0, 2) := by simp [mulR, h]

set_option maxHeartbeats 2000000 in
theorem numOrder_any (a b : Int) (w : World) (ht : TabOk w) :
    Calls Tryd.prog 4 #[.int .i64 a, .int .i64 b] w fun e w' => e = .returned (.bool true) ∧ Below w.heap.size w w' := by
  have HT := hide ht
  clear ht
  have HA1 := hide (fun W : World => add_any a b W)
  have HA2 := hide (fun W : World => add_any b a W)
  rw [addR_comm b a] at HA2
  have HM1 := hide (fun W : World => mul_full a b W)
  have HM2 := hide (fun W : World => mul_full b a W)
  rw [mulR_comm b a] at HM2
  have HM3 := hide (fun W : World => mul_full a 1000000 W)
  have HD3 := hide (fun W : World => div_full a 1000000 W)
  have HU : Hid ((addR a b).2 = 0 → ∀ W : World, Calls Tryd.prog 11 #[.int .i64 (addR a b).1, .int .i64 b] W fun e w' => e = .returned (.tuple #[.int .i64 a, .int .i64 0]) ∧ w' = W) := by
    intro h W
    have := sub_any (addR a b).1 b W
    rw [sub_add h] at this; exact this
  generalize addR a b = s at *
  generalize mulR a b = m at *
  obtain ⟨s1, s2⟩ := s
  obtain ⟨m1, m2⟩ := m
  have HA1' : Hid (∀ W : World, Calls Tryd.prog 9 #[.int .i64 a, .int .i64 b] W fun e w' => e = .returned (.tuple #[.int .i64 s1, .int .i64 s2]) ∧ w' = W) := HA1.out
  have HA2' : Hid (∀ W : World, Calls Tryd.prog 9 #[.int .i64 b, .int .i64 a] W fun e w' => e = .returned (.tuple #[.int .i64 s1, .int .i64 s2]) ∧ w' = W) := HA2.out
  have HM1' : Hid (∀ W : World, Calls Tryd.prog 10 #[.int .i64 a, .int .i64 b] W fun e w' => e = .returned (.tuple #[.int .i64 m1, .int .i64 m2]) ∧ Below W.heap.size W w') := HM1.out
  have HM2' : Hid (∀ W : World, Calls Tryd.prog 10 #[.int .i64 b, .int .i64 a] W fun e w' => e = .returned (.tuple #[.int .i64 m1, .int .i64 m2]) ∧ Below W.heap.size W w') := HM2.out
  have HU' : Hid (s2 = 0 → ∀ W : World, Calls Tryd.prog 11 #[.int .i64 s1, .int .i64 b] W fun e w' => e = .returned (.tuple #[.int .i64 a, .int .i64 0]) ∧ w' = W) := HU.out
  clear HA1 HA2 HM1 HM2 HU
  by_cases hz : s2 = 0
  · subst hz
    have HU2 := hide (HU'.out rfl)
    clear HU'
    cases ha : fitsB a
    · rw [mulR_bad ha] at HM3
      rw [divR_bad1 ha] at HD3
      go_enter Tryd.func4, Tryd.ntmps4
      go_wp2_with fail
      refine (HA1'.out _).mono ?_
      rintro e w0 ⟨rfl, rfl⟩
      go_wp2_with fail
      refine (HA2'.out _).mono ?_
      rintro e w0 ⟨rfl, rfl⟩
      go_wp2_with fail
      refine (HM1'.out _).mono ?_
      rintro e w1 ⟨rfl, b1⟩
      go_wp2_with fail
      refine (HM2'.out _).mono ?_
      rintro e w2 ⟨rfl, b2⟩
      have c2 := b1.trans (b2.mono b1.size)
      clear b1 b2
      go_wp2_with fail
      refine (HU2.out _).mono ?_
      rintro e w2 ⟨rfl, rfl⟩
      go_wp2_with fail
      refine (HM3.out _).mono ?_
      rintro e w3 ⟨rfl, b3⟩
      have c3 := c2.trans (b3.mono c2.size)
      clear c2 b3
      go_wp2_with fail
      refine (HD3.out _).mono ?_
      rintro e w4 ⟨rfl, b4⟩
      have c4 := c3.trans (b4.mono c3.size)
      clear c3 b4
      go_wp2_with (go_at_call 13; refine (fits_any _ _).mono ?_; rintro e w4 ⟨rfl, rfl⟩)
      refine (lives_any _ (tab_below HT.out c4)).mono ?_
      rintro e w5 ⟨rfl, b5⟩
      go_wp2
      go_ret
      exact ⟨rfl, c4.trans (b5.mono c4.size)⟩
    · rw [mul_unit ha] at HM3
      rw [div_unit ha] at HD3
      go_enter Tryd.func4, Tryd.ntmps4
      go_wp2_with fail
      refine (HA1'.out _).mono ?_
      rintro e w0 ⟨rfl, rfl⟩
      go_wp2_with fail
      refine (HA2'.out _).mono ?_
      rintro e w0 ⟨rfl, rfl⟩
      go_wp2_with fail
      refine (HM1'.out _).mono ?_
      rintro e w1 ⟨rfl, b1⟩
      go_wp2_with fail
      refine (HM2'.out _).mono ?_
      rintro e w2 ⟨rfl, b2⟩
      have c2 := b1.trans (b2.mono b1.size)
      clear b1 b2
      go_wp2_with fail
      refine (HU2.out _).mono ?_
      rintro e w2 ⟨rfl, rfl⟩
      go_wp2_with fail
      refine (HM3.out _).mono ?_
      rintro e w3 ⟨rfl, b3⟩
      have c3 := c2.trans (b3.mono c2.size)
      clear c2 b3
      go_wp2_with fail
      refine (HD3.out _).mono ?_
      rintro e w4 ⟨rfl, b4⟩
      have c4 := c3.trans (b4.mono c3.size)
      clear c3 b4
      go_wp2_with (go_at_call 13; refine (fits_any _ _).mono ?_; rintro e w4 ⟨rfl, rfl⟩)
      refine (lives_any _ (tab_below HT.out c4)).mono ?_
      rintro e w5 ⟨rfl, b5⟩
      go_wp2
      go_ret
      exact ⟨rfl, c4.trans (b5.mono c4.size)⟩
  · have t : (s2 == 0) = false := beq_eq_false_iff_ne.2 hz
    clear hz HU'
    cases ha : fitsB a
    · rw [mulR_bad ha] at HM3
      rw [divR_bad1 ha] at HD3
      go_enter Tryd.func4, Tryd.ntmps4
      go_wp2_with fail
      refine (HA1'.out _).mono ?_
      rintro e w0 ⟨rfl, rfl⟩
      go_wp2_with fail
      refine (HA2'.out _).mono ?_
      rintro e w0 ⟨rfl, rfl⟩
      go_wp2_with fail
      refine (HM1'.out _).mono ?_
      rintro e w1 ⟨rfl, b1⟩
      go_wp2_with fail
      refine (HM2'.out _).mono ?_
      rintro e w2 ⟨rfl, b2⟩
      have c2 := b1.trans (b2.mono b1.size)
      clear b1 b2
      go_wp2_with fail
      refine (HM3.out _).mono ?_
      rintro e w3 ⟨rfl, b3⟩
      have c3 := c2.trans (b3.mono c2.size)
      clear c2 b3
      go_wp2_with fail
      refine (HD3.out _).mono ?_
      rintro e w4 ⟨rfl, b4⟩
      have c4 := c3.trans (b4.mono c3.size)
      clear c3 b4
      go_wp2_with (go_at_call 13; refine (fits_any _ _).mono ?_; rintro e w4 ⟨rfl, rfl⟩)
      refine (lives_any _ (tab_below HT.out c4)).mono ?_
      rintro e w5 ⟨rfl, b5⟩
      go_wp2
      go_ret
      exact ⟨rfl, c4.trans (b5.mono c4.size)⟩
    · rw [mul_unit ha] at HM3
      rw [div_unit ha] at HD3
      go_enter Tryd.func4, Tryd.ntmps4
      go_wp2_with fail
      refine (HA1'.out _).mono ?_
      rintro e w0 ⟨rfl, rfl⟩
      go_wp2_with fail
      refine (HA2'.out _).mono ?_
      rintro e w0 ⟨rfl, rfl⟩
      go_wp2_with fail
      refine (HM1'.out _).mono ?_
      rintro e w1 ⟨rfl, b1⟩
      go_wp2_with fail
      refine (HM2'.out _).mono ?_
      rintro e w2 ⟨rfl, b2⟩
      have c2 := b1.trans (b2.mono b1.size)
      clear b1 b2
      go_wp2_with fail
      refine (HM3.out _).mono ?_
      rintro e w3 ⟨rfl, b3⟩
      have c3 := c2.trans (b3.mono c2.size)
      clear c2 b3
      go_wp2_with fail
      refine (HD3.out _).mono ?_
      rintro e w4 ⟨rfl, b4⟩
      have c4 := c3.trans (b4.mono c3.size)
      clear c3 b4
      go_wp2_with (go_at_call 13; refine (fits_any _ _).mono ?_; rintro e w4 ⟨rfl, rfl⟩)
      refine (lives_any _ (tab_below HT.out c4)).mono ?_
      rintro e w5 ⟨rfl, b5⟩
      go_wp2
      go_ret
      exact ⟨rfl, c4.trans (b5.mono c4.size)⟩
end Go.Proofs.YtjhldifilfkebabDoor
