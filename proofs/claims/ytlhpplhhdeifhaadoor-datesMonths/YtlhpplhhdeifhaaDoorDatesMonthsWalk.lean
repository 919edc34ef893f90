/-
  The walk of DatesMonths.
-/
import Derived.Test.YtlhpplhhdeifhaaDoorDt9
import Derived.Test.YtlhpplhhdeifhaaDoorDtR3
namespace Go.Proofs.YtlhpplhhdeifhaaDoor
open Go.RowKit

set_option maxHeartbeats 2000000 in
theorem datesMonths_walk (n s : Int) (w : World) (h : Env w) :
    Calls Tryd.prog 5 #[.int .i64 n, .int .i64 s] w fun e w' => e = .returned (.bool true) ∧ Below w.heap.size w w' := by
  have HL : Hid (∀ W : World, Below w.heap.size w W → Calls Tryd.prog 13 #[] W fun e w' => e = .returned (.bool true) ∧ Below W.heap.size W w') := fun W hW => lives_any W (h.below hW)
  obtain ⟨A, B, HM, HR⟩ : ∃ A B : Int, Hid (∀ W : World, Below w.heap.size w W → Calls Tryd.prog 20 #[.int .i64 n, .int .i64 s] W fun e w' => e = .returned (.tuple #[.int .i64 A, .int .i64 B]) ∧ Below W.heap.size W w') ∧ Hid (∀ W : World, Calls Tryd.prog 21 #[.int .i64 n, .int .i64 s] W fun e w' => e = .returned (.tuple #[.int .i64 A, .int .i64 B]) ∧ Below W.heap.size W w') := by
    by_cases a : (1 ≤ n ∧ n ≤ 2958464) ∧ -120000 ≤ s ∧ s ≤ 120000
    · obtain ⟨a1, s1, s2⟩ := a
      obtain ⟨y, k, d, hd⟩ := day_exists a1.1 a1.2
      exact ⟨_, _, fun W hW => months_yes y k d n s W hd s1 s2 (h.below hW).1, fun W => rmonths_yes y k d n s W hd s1 s2⟩
    · exact ⟨_, _, fun W _ => months_no n s W a, fun W => rmonths_no n s W a⟩
  clear h
  go_enter Tryd.func5, Tryd.ntmps5
  go_wp2_with (first | (go_at_call 20; refine (HM.out _ (Below.refl _ _)).mono ?_; rintro e w1 ⟨rfl, hb1⟩) | (go_at_call 21; refine (HR.out _).mono ?_; rintro e w2 ⟨rfl, hb2⟩; have hB := up hb1 hb2) | (go_at_call 13; refine (HL.out _ hB).mono ?_; rintro e w3 ⟨rfl, hb3⟩))
  go_ret
  exact ⟨rfl, up hB hb3⟩
end Go.Proofs.YtlhpplhhdeifhaaDoor
