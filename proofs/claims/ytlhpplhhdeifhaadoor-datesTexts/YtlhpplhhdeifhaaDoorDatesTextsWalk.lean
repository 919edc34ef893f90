/-
  The walk of DatesTexts.
-/
import Derived.Test.YtlhpplhhdeifhaaDoorDt9
import Derived.Test.YtlhpplhhdeifhaaDoorDtR5
namespace Go.Proofs.YtlhpplhhdeifhaaDoor
open Go.RowKit

set_option maxHeartbeats 2000000 in
theorem datesTexts_walk (s : ByteArray) (w : World) (h : Env w) (_hs : s.size ≤ maxLen) :
    Calls Tryd.prog 6 #[.string s] w fun e w' => e = .returned (.bool true) ∧ Below w.heap.size w w' := by
  have HL : Hid (∀ W : World, Below w.heap.size w W → Calls Tryd.prog 13 #[] W fun e w' => e = .returned (.bool true) ∧ Below W.heap.size W w') := fun W hW => lives_any W (h.below hW)
  have HM : Hid (∀ W : World, Below w.heap.size w W → Calls Tryd.prog 22 #[.string s] W fun e w' => e = .returned (.tuple #[.int .i64 (parseS s).1, .int .i64 (parseS s).2]) ∧ Below W.heap.size W w') := fun W hW => parse_any s W (h.below hW).1
  have HR : Hid (∀ W : World, Calls Tryd.prog 23 #[.string s] W fun e w' => e = .returned (.tuple #[.int .i64 (parseS s).1, .int .i64 (parseS s).2]) ∧ Below W.heap.size W w') := fun W => rparse_any s W
  generalize (parseS s).1 = A at *
  generalize (parseS s).2 = B at *
  clear h
  go_enter Tryd.func6, Tryd.ntmps6
  go_wp2_with (first | (go_at_call 22; refine (HM.out _ (Below.refl _ _)).mono ?_; rintro e w1 ⟨rfl, hb1⟩) | (go_at_call 23; refine (HR.out _).mono ?_; rintro e w2 ⟨rfl, hb2⟩; have hB := up hb1 hb2) | (go_at_call 13; refine (HL.out _ hB).mono ?_; rintro e w3 ⟨rfl, hb3⟩))
  go_ret
  exact ⟨rfl, up hB hb3⟩
end Go.Proofs.YtlhpplhhdeifhaaDoor
