/-
  The walk of DatesSerials.
-/
import Derived.Test.YtlhpplhhdeifhaaDoorDt9
import Derived.Test.YtlhpplhhdeifhaaDoorDtR2
namespace Go.Proofs.YtlhpplhhdeifhaaDoor
open Go.RowKit

set_option maxHeartbeats 2000000 in
theorem datesSerials_walk (y m d : Int) (w : World) (h : Env w) :
    Calls Tryd.prog 3 #[.int .i64 y, .int .i64 m, .int .i64 d] w fun e w' => e = .returned (.bool true) ∧ Below w.heap.size w w' := by
  have HS : Hid (∀ W : World, Below w.heap.size w W → Calls Tryd.prog 9 #[.int .i64 y, .int .i64 m, .int .i64 d] W fun e w' => e = .returned (.tuple #[.int .i64 (serialR y m d).1, .int .i64 (serialR y m d).2]) ∧ Below W.heap.size W w') := fun W hW => serial_any y m d W (h.below hW).1
  have HR : Hid (∀ W : World, Calls Tryd.prog 10 #[.int .i64 y, .int .i64 m, .int .i64 d] W fun e w' => e = .returned (.tuple #[.int .i64 (serialR y m d).1, .int .i64 (serialR y m d).2]) ∧ Below W.heap.size W w') := fun W => rserial_any y m d W
  have HE : Hid (∀ W : World, Calls Tryd.prog 11 #[.int .i64 y] W fun e w' => e = .returned (.bool (leapB y)) ∧ w' = W) := fun W => leap_any y W
  have HF : Hid (∀ W : World, Calls Tryd.prog 12 #[.int .i64 y] W fun e w' => e = .returned (.bool (leapB y)) ∧ w' = W) := fun W => rleap_any y W
  have HL : Hid (∀ W : World, Below w.heap.size w W → Calls Tryd.prog 13 #[] W fun e w' => e = .returned (.bool true) ∧ Below W.heap.size W w') := fun W hW => lives_any W (h.below hW)
  clear h
  generalize (serialR y m d).1 = A at *
  generalize (serialR y m d).2 = B at *
  generalize leapB y = L at *
  go_enter Tryd.func3, Tryd.ntmps3
  go_wp2_with (first | (go_at_call 9; refine (HS.out _ (Below.refl _ _)).mono ?_; rintro e w1 ⟨rfl, hb1⟩) | (go_at_call 10; refine (HR.out _).mono ?_; rintro e w2 ⟨rfl, hb2⟩; have hB := up hb1 hb2) | (go_at_call 11; refine (HE.out _).mono ?_; rintro e wz ⟨rfl, hz⟩; subst wz) | (go_at_call 12; refine (HF.out _).mono ?_; rintro e wz ⟨rfl, hz⟩; subst wz) | (go_at_call 13; refine (HL.out _ hB).mono ?_; rintro e w3 ⟨rfl, hb3⟩))
  go_ret
  exact ⟨rfl, up hB hb3⟩
end Go.Proofs.YtlhpplhhdeifhaaDoor
