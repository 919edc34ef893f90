/-
  The walk of DatesParts.
-/
import Derived.Test.YtlhpplhhdeifhaaDoorDt9
import Derived.Test.YtlhpplhhdeifhaaDoorDtR4
namespace Go.Proofs.YtlhpplhhdeifhaaDoor
open Go.RowKit

set_option maxHeartbeats 2000000 in
theorem datesParts_walk (n : Int) (w : World) (h : Env w) :
    Calls Tryd.prog 4 #[.int .i64 n] w fun e w' => e = .returned (.bool true) ∧ Below w.heap.size w w' := by
  have HL : Hid (∀ W : World, Below w.heap.size w W → Calls Tryd.prog 13 #[] W fun e w' => e = .returned (.bool true) ∧ Below W.heap.size W w') := fun W hW => lives_any W (h.below hW)
  have HW : Hid (∀ W : World, Calls Tryd.prog 16 #[.int .i64 n] W fun e w' => e = .returned (.tuple #[.int .i64 (weekR n).1, .int .i64 (weekR n).2]) ∧ Below W.heap.size W w') := fun W => weekday_any n W
  have HX : Hid (∀ W : World, Calls Tryd.prog 17 #[.int .i64 n] W fun e w' => e = .returned (.tuple #[.int .i64 (weekR n).1, .int .i64 (weekR n).2]) ∧ Below W.heap.size W w') := fun W => rweekday_any n W
  obtain ⟨Y, M, D, E, T, F, HP, HQ, HR, HS⟩ : ∃ (Y M D E : Int) (T : ByteArray) (F : Int), Hid (∀ W : World, Below w.heap.size w W → Calls Tryd.prog 14 #[.int .i64 n] W fun e w' => e = .returned (.tuple #[.int .i64 Y, .int .i64 M, .int .i64 D, .int .i64 E]) ∧ Below W.heap.size W w') ∧ Hid (∀ W : World, Calls Tryd.prog 15 #[.int .i64 n] W fun e w' => e = .returned (.tuple #[.int .i64 Y, .int .i64 M, .int .i64 D, .int .i64 E]) ∧ Below W.heap.size W w') ∧ Hid (∀ W : World, Below w.heap.size w W → Calls Tryd.prog 18 #[.int .i64 n] W fun e w' => e = .returned (.tuple #[.string T, .int .i64 F]) ∧ Below W.heap.size W w') ∧ Hid (∀ W : World, Calls Tryd.prog 19 #[.int .i64 n] W fun e w' => e = .returned (.tuple #[.string T, .int .i64 F]) ∧ Below W.heap.size W w') := by
    by_cases a : 1 ≤ n ∧ n ≤ 2958464
    · obtain ⟨y, k, d, hd⟩ := day_exists a.1 a.2
      exact ⟨_, _, _, _, _, _, fun W hW => parts_yes y k d n W hd (h.below hW).1, fun W => rparts_yes y k d n W hd, fun W hW => print_yes y k d n W hd (h.below hW).1 (h.below hW).2, fun W => rprint_yes y k d n W hd⟩
    · exact ⟨_, _, _, _, _, _, fun W _ => parts_no n W a, fun W => rparts_no n W a, fun W _ => print_no n W a, fun W => rprint_no n W a⟩
  clear h
  generalize (weekR n).1 = A at *
  generalize (weekR n).2 = B at *
  go_enter Tryd.func4, Tryd.ntmps4
  go_wp2_with fail
  refine (HP.out _ (Below.refl _ _)).mono ?_
  rintro e w1 ⟨rfl, hb1⟩
  go_wp2_with fail
  refine (HQ.out _).mono ?_
  rintro e w2 ⟨rfl, hb2⟩
  have hb2 := up hb1 hb2
  go_wp2_with fail
  refine (HW.out _).mono ?_
  rintro e w3 ⟨rfl, hb3⟩
  have hb3 := up hb2 hb3
  go_wp2_with fail
  refine (HX.out _).mono ?_
  rintro e w4 ⟨rfl, hb4⟩
  have hb4 := up hb3 hb4
  go_wp2_with fail
  refine (HR.out _ hb4).mono ?_
  rintro e w5 ⟨rfl, hb5⟩
  have hb5 := up hb4 hb5
  go_wp2_with fail
  refine (HS.out _).mono ?_
  rintro e w6 ⟨rfl, hb6⟩
  have hb6 := up hb5 hb6
  clear HP HQ HR HS HW HX
  go_wp2_with (go_at_call 13; refine (HL.out _ hb6).mono ?_; rintro e w7 ⟨rfl, hb7⟩)
  go_ret
  exact ⟨rfl, up hb6 hb7⟩
end Go.Proofs.YtlhpplhhdeifhaaDoor
