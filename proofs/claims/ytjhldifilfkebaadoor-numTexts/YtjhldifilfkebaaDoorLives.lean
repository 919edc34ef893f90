/-
  The contract of lives: the document's examples are told.
-/
import Derived.Test.YtjhldifilfkebaaDoorPrint
namespace Go.Proofs.YtjhldifilfkebaaDoor
open Go.RowKit Go.Sort Go.Lib

theorem mul_low (a b : Int) (w : World) (h : absI a * absI b < 18446744073709551616) :
    Calls Tryd.prog 16 #[.int .i64 a, .int .i64 b] w fun e w' => e = .returned (.tuple #[.int .i64 (mulR a b).1, .int .i64 (mulR a b).2]) ∧ Below w.heap.size w w' := by
  refine mul_any a b w (fun _ _ _ => ?_)
  have n0 : 0 ≤ absI a * absI b := Int.mul_nonneg (absI_nn a) (absI_nn b)
  rw [show absI a * absI b / 18446744073709551616 = 0 from by omega]
  exact div64_low _ _ (by omega) (by omega) (by decide) (by decide)

theorem div_low (a b : Int) (w : World) (h : absI a * 1000000 < 18446744073709551616) :
    Calls Tryd.prog 18 #[.int .i64 a, .int .i64 b] w fun e w' => e = .returned (.tuple #[.int .i64 (divR a b).1, .int .i64 (divR a b).2]) ∧ Below w.heap.size w w' := by
  refine div_any a b w (fun hz _ => ?_)
  have n0 := absI_nn a
  obtain ⟨_, hb, hz⟩ := divisR_zero hz
  obtain ⟨b1, b2⟩ := fitsB_true hb
  have y1 := absI_le b1 b2
  have y0 : 0 < absI b := by unfold absI; split <;> omega
  rw [show absI a * 1000000 / 18446744073709551616 = 0 from by omega]
  exact div64_low _ _ (by omega) (by omega) y0 (by omega)

theorem ex1 : mulR 500000 3 = (2, 0) := by decide
theorem ex2 : divR 1000000 3000000 = (333333, 0) := by decide
theorem ex3 : roundR 2500000 0 = (2000000, 0) := by decide
theorem ex4 : modR (-7000000) 3000000 = (2000000, 0) := by decide
theorem ex6 : divR 1 0 = (0, 4) := by decide
theorem ex5 : textOf 7500000 = [55, 46, 53] := by
  simp [textOf, absI, fracT, frac6, Lib.decDigits, Lib.trimRightB]

theorem lv_mul (w : World) : Calls Tryd.prog 16 #[.int .i64 500000, .int .i64 3] w fun e w' => e = .returned (.tuple #[.int .i64 2, .int .i64 0]) ∧ Below w.heap.size w w' := by
  have h := mul_low 500000 3 w (by decide)
  rw [ex1] at h; exact h
theorem lv_div (w : World) : Calls Tryd.prog 18 #[.int .i64 1000000, .int .i64 3000000] w fun e w' => e = .returned (.tuple #[.int .i64 333333, .int .i64 0]) ∧ Below w.heap.size w w' := by
  have h := div_low 1000000 3000000 w (by decide)
  rw [ex2] at h; exact h
theorem lv_div0 (w : World) : Calls Tryd.prog 18 #[.int .i64 1, .int .i64 0] w fun e w' => e = .returned (.tuple #[.int .i64 0, .int .i64 4]) ∧ Below w.heap.size w w' := by
  have h := div_low 1 0 w (by decide)
  rw [ex6] at h; exact h
theorem lv_round (w : World) : Calls Tryd.prog 22 #[.int .i64 2500000, .int .i64 0] w fun e w' => e = .returned (.tuple #[.int .i64 2000000, .int .i64 0]) ∧ Below w.heap.size w w' := by
  have h := round_any 2500000 0 w
  rw [ex3] at h; exact h
theorem lv_mod (w : World) : Calls Tryd.prog 20 #[.int .i64 (-7000000), .int .i64 3000000] w fun e w' => e = .returned (.tuple #[.int .i64 2000000, .int .i64 0]) ∧ w' = w := by
  have h := mod_any (-7000000) 3000000 w
  rw [ex4] at h; exact h
theorem lv_print (w : World) (ht : TabOk w) : Calls Tryd.prog 28 #[.int .i64 7500000] w fun e w' => e = .returned (.tuple #[.string ⟨#[55, 46, 53]⟩, .int .i64 0]) ∧ Below w.heap.size w w' := by
  have h := print_good 7500000 w (by decide) ht
  rw [ex5] at h; exact h

set_option maxHeartbeats 1000000 in
theorem lives_any (w : World) (ht : TabOk w) :
    Calls Tryd.prog 15 #[] w fun e w' => e = .returned (.bool true) ∧ Below w.heap.size w w' := by
  have HT := hide ht
  clear ht
  go_enter Tryd.func15, Tryd.ntmps15
  go_wp2_with fail
  refine (lv_mul _).mono ?_
  rintro e w1 ⟨rfl, b1⟩
  go_wp2_with fail
  refine (lv_div _).mono ?_
  rintro e w2 ⟨rfl, b2⟩
  have c2 := b1.trans (b2.mono b1.size)
  clear b1 b2
  go_wp2_with fail
  refine (lv_round _).mono ?_
  rintro e w3 ⟨rfl, b3⟩
  have c3 := c2.trans (b3.mono c2.size)
  clear c2 b3
  go_wp2_with fail
  refine (lv_mod _).mono ?_
  rintro e w4 ⟨rfl, rfl⟩
  go_wp2_with fail
  refine (lv_print _ (tab_below HT.out c3)).mono ?_
  rintro e w5 ⟨rfl, b5⟩
  have c5 := c3.trans (b5.mono c3.size)
  clear c3 b5
  go_wp2_with fail
  refine (lv_div0 _).mono ?_
  rintro e w6 ⟨rfl, b6⟩
  have c6 := c5.trans (b6.mono c5.size)
  clear c5 b6
  go_wp2
  go_ret
  exact ⟨rfl, c6⟩
end Go.Proofs.YtjhldifilfkebaaDoor
