/-
  The contract of layer 2's lives: the document's examples are told.
-/
import Derived.Test.YtnjnbhfpgoondaaRealNext
namespace Go.Proofs.Ytnjnbhfpgoondaa
open Go.RowKit

theorem rx1 : ofR 4591870180066957722 = (100000, 0) := by decide
theorem rx2 : ofR 4612811918334230528 = (2500000, 0) := by decide
theorem rx3 : ofR 4801453603149578240 = (0, 3) := by decide
theorem rx4 : toR 100000 = (4591870180066957722, 0) := by
  have h : ToIs 100000 4591870180066957722 := ⟨56, by decide, by decide, by decide, by decide, by decide⟩
  unfold toR
  rw [if_pos (by decide), if_neg (by decide), if_neg (by decide), toB_eq (by decide) (by decide) h]
theorem rx5 : nextR 0 = (1, 0) := by decide
theorem rx6 : lessR 9223372036854775808 0 = true := by decide
theorem rx7 : kindR 9218868437227405312 = 1 := by decide

theorem lw_of1 (w : World) : Calls Try.prog 10 #[.int .u64 4591870180066957722] w fun e w' => e = .returned (.float .f64 4591870180066957722) ∧ w' = w := of_any 4591870180066957722 w
theorem lw_of2 (w : World) : Calls Try.prog 10 #[.int .u64 4612811918334230528] w fun e w' => e = .returned (.float .f64 4612811918334230528) ∧ w' = w := of_any 4612811918334230528 w
theorem lw_of3 (w : World) : Calls Try.prog 10 #[.int .u64 4801453603149578240] w fun e w' => e = .returned (.float .f64 4801453603149578240) ∧ w' = w := of_any 4801453603149578240 w
theorem lw_of4 (w : World) : Calls Try.prog 10 #[.int .u64 9223372036854775808] w fun e w' => e = .returned (.float .f64 9223372036854775808) ∧ w' = w := of_any 9223372036854775808 w
theorem lw_of5 (w : World) : Calls Try.prog 10 #[.int .u64 9218868437227405312] w fun e w' => e = .returned (.float .f64 9218868437227405312) ∧ w' = w := of_any 9218868437227405312 w
theorem lw_b1 (w : World) : Calls Try.prog 17 #[.float .f64 4591870180066957722] w fun e w' => e = .returned (.int .u64 4591870180066957722) ∧ w' = w := bits_any 4591870180066957722 w
theorem lw_b2 (w : World) : Calls Try.prog 17 #[.float .f64 1] w fun e w' => e = .returned (.int .u64 1) ∧ w' = w := bits_any 1 w
theorem lw_1 (w : World) : Calls Try.prog 13 #[.float .f64 4591870180066957722] w fun e w' => e = .returned (.tuple #[.int .i64 100000, .int .i64 0]) ∧ Below w.heap.size w w' := by
  have h := ofF_any 4591870180066957722 w (by decide)
  rw [show ofR ((4591870180066957722 : Nat) : Int) = (100000, 0) from rx1] at h; exact h
theorem lw_2 (w : World) : Calls Try.prog 13 #[.float .f64 4612811918334230528] w fun e w' => e = .returned (.tuple #[.int .i64 2500000, .int .i64 0]) ∧ Below w.heap.size w w' := by
  have h := ofF_any 4612811918334230528 w (by decide)
  rw [show ofR ((4612811918334230528 : Nat) : Int) = (2500000, 0) from rx2] at h; exact h
theorem lw_3 (w : World) : Calls Try.prog 13 #[.float .f64 4801453603149578240] w fun e w' => e = .returned (.tuple #[.int .i64 0, .int .i64 3]) ∧ Below w.heap.size w w' := by
  have h := ofF_any 4801453603149578240 w (by decide)
  rw [show ofR ((4801453603149578240 : Nat) : Int) = (0, 3) from rx3] at h; exact h
theorem lw_4 (w : World) : Calls Try.prog 15 #[.int .i64 100000] w fun e w' => e = .returned (.tuple #[.float .f64 4591870180066957722, .int .i64 0]) ∧ Below w.heap.size w w' := by
  have h := toF_any 100000 w
  rw [rx4] at h; exact h
theorem lw_5 (w : World) : Calls Try.prog 18 #[.float .f64 0] w fun e w' => e = .returned (.tuple #[.float .f64 1, .int .i64 0]) ∧ Below w.heap.size w w' := by
  have h := next_any 0 w (by decide)
  rw [show nextR ((0 : Nat) : Int) = (1, 0) from rx5] at h; exact h
theorem lw_6 (w : World) : Calls Try.prog 20 #[.float .f64 9223372036854775808, .float .f64 0] w fun e w' => e = .returned (.bool true) ∧ Below w.heap.size w w' := by
  have h := less_any 9223372036854775808 0 w (by decide) (by decide)
  rw [show lessR ((9223372036854775808 : Nat) : Int) ((0 : Nat) : Int) = true from rx6] at h; exact h
theorem lw_7 (w : World) : Calls Try.prog 9 #[.float .f64 9218868437227405312] w fun e w' => e = .returned (.int .i64 1) ∧ Below w.heap.size w w' := by
  have h := kind_any 9218868437227405312 w (by decide)
  rw [show kindR ((9218868437227405312 : Nat) : Int) = 1 from rx7] at h; exact h

set_option maxHeartbeats 2000000 in
theorem lives2_any (w : World) :
    Calls Try.prog 12 #[] w fun e w' => e = .returned (.bool true) ∧ Below w.heap.size w w' := by
  go_enter Try.func12, Try.ntmps12
  go_wp2_with fail
  refine (lw_of1 _).mono ?_
  rintro e wz ⟨rfl, hz⟩; subst wz
  go_wp2_with fail
  refine (lw_1 _).mono ?_
  rintro e w1 ⟨rfl, hb1⟩
  go_wp2_with fail
  refine (lw_of2 _).mono ?_
  rintro e wz ⟨rfl, hz⟩; subst wz
  go_wp2_with fail
  refine (lw_2 _).mono ?_
  rintro e w2 ⟨rfl, hb2⟩
  go_wp2_with fail
  refine (lw_of3 _).mono ?_
  rintro e wz ⟨rfl, hz⟩; subst wz
  go_wp2_with fail
  refine (lw_3 _).mono ?_
  rintro e w3 ⟨rfl, hb3⟩
  go_wp2_with fail
  refine (lw_4 _).mono ?_
  rintro e w4 ⟨rfl, hb4⟩
  go_wp2_with fail
  refine (lw_5 _).mono ?_
  rintro e w5 ⟨rfl, hb5⟩
  have b3 : Below w.heap.size w w3 := (hb1.trans (hb2.mono hb1.size)).trans (hb3.mono (Nat.le_trans hb1.size hb2.size))
  have b4 := b3.trans (hb4.mono b3.size)
  have b5 := b4.trans (hb5.mono b4.size)
  clear hb1 hb2 hb3 hb4 hb5 b3 b4
  go_wp2_with fail
  refine (lw_b1 _).mono ?_
  rintro e wz ⟨rfl, hz⟩; subst wz
  go_wp2_with fail
  refine (lw_b2 _).mono ?_
  rintro e wz ⟨rfl, hz⟩; subst wz
  go_wp2_with fail
  refine (lw_of4 _).mono ?_
  rintro e wz ⟨rfl, hz⟩; subst wz
  go_wp2_with fail
  refine (lw_6 _).mono ?_
  rintro e w6 ⟨rfl, hb6⟩
  have b6 := b5.trans (hb6.mono b5.size)
  clear hb6 b5
  go_wp2_with fail
  refine (lw_of5 _).mono ?_
  rintro e wz ⟨rfl, hz⟩; subst wz
  go_wp2_with fail
  refine (lw_7 _).mono ?_
  rintro e w7 ⟨rfl, hb7⟩
  have b7 := b6.trans (hb7.mono b6.size)
  clear hb7 b6
  go_wp2
  go_ret
  exact ⟨rfl, b7⟩
end Go.Proofs.Ytnjnbhfpgoondaa
