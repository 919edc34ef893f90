/-
  The examples of the document: lives returns true. (By livesgen6.py.)
-/
import Derived.Test.YtkkoeanjmldmdaaMvSt
namespace Go.Proofs.Ytkkoeanjmldmdaa
open Go.RowKit

set_option maxRecDepth 100000 in
set_option maxHeartbeats 2000000 in
theorem lives6_any (w : World) :
    Calls Try.prog 15 #[] w fun e w' => e = .returned (.bool true) ∧ Below w.heap.size w w' := by
  have H0 : Hid (St w [(w.heap.size + 1, 2, 3, 2), (w.heap.size, 1, 3, 2)] [] [] ((w.alloc (.cells #[.int .i64 1, .int .i64 3, .int .i64 2] 24)).alloc (.cells #[.int .i64 2, .int .i64 3, .int .i64 2] 24))) := by
    have := (((St.nil w).box3 1 3 2 24).box3 2 3 2 24)
    show St _ _ _ _ _
    simpa using this
  have HA : Hid (∀ W : World, Calls Try.prog 9 #[.agg #[.int .i64 1, .int .i64 3, .int .i64 2], .agg #[.int .i64 3, .int .i64 1]] W fun e w' => e = .returned (.tuple #[.agg #[.int .i64 5, .int .i64 1], .int .i64 0, .int .i64 0]) ∧ Below W.heap.size W w') := fun W => by have := spot_any 1 3 2 3 1 W; rw [show spotR 1 3 2 3 1 = (5, 1, 0, 0) by decide] at this; exact this
  have HB : Hid (∀ W : World, Calls Try.prog 9 #[.agg #[.int .i64 1, .int .i64 3, .int .i64 2], .agg #[.int .i64 1048575, .int .i64 1]] W fun e w' => e = .returned (.tuple #[.agg #[.int .i64 0, .int .i64 0], .int .i64 2, .int .i64 0]) ∧ Below W.heap.size W w') := fun W => by have := spot_any 1 3 2 1048575 1 W; rw [show spotR 1 3 2 1048575 1 = (0, 0, 2, 0) by decide] at this; exact this
  have HC : Hid (∀ W : World, Calls Try.prog 9 #[.agg #[.int .i64 2, .int .i64 3, .int .i64 2], .agg #[.int .i64 4, .int .i64 1]] W fun e w' => e = .returned (.tuple #[.agg #[.int .i64 0, .int .i64 0], .int .i64 1, .int .i64 0]) ∧ Below W.heap.size W w') := fun W => by have := spot_any 2 3 2 4 1 W; rw [show spotR 2 3 2 4 1 = (0, 0, 1, 0) by decide] at this; exact this
  have HR : Hid (∀ W : World, Calls Try.prog 16 #[.agg #[.int .i64 1, .int .i64 3, .int .i64 2], .agg #[.int .i64 2, .int .i64 1, .int .i64 3, .int .i64 1]] W fun e w' => e = .returned (.tuple #[.agg #[.int .i64 2, .int .i64 1, .int .i64 5, .int .i64 1], .bool true, .int .i64 0]) ∧ Below W.heap.size W w') := fun W => by have := rect_any 1 3 2 2 1 3 1 W; rw [show rectR 1 3 2 2 1 3 1 = (2, 1, 5, 1, true, 0) by decide] at this; exact this
  have HS : Hid (∀ W : World, Calls Try.prog 16 #[.agg #[.int .i64 2, .int .i64 3, .int .i64 2], .agg #[.int .i64 2, .int .i64 1, .int .i64 4, .int .i64 1]] W fun e w' => e = .returned (.tuple #[.agg #[.int .i64 2, .int .i64 1, .int .i64 2, .int .i64 1], .bool true, .int .i64 0]) ∧ Below W.heap.size W w') := fun W => by have := rect_any 2 3 2 2 1 4 1 W; rw [show rectR 2 3 2 2 1 4 1 = (2, 1, 2, 1, true, 0) by decide] at this; exact this
  have HT : Hid (∀ W : World, Calls Try.prog 16 #[.agg #[.int .i64 2, .int .i64 3, .int .i64 2], .agg #[.int .i64 3, .int .i64 1, .int .i64 4, .int .i64 1]] W fun e w' => e = .returned (.tuple #[.agg #[.int .i64 0, .int .i64 0, .int .i64 0, .int .i64 0], .bool false, .int .i64 0]) ∧ Below W.heap.size W w') := fun W => by have := rect_any 2 3 2 3 1 4 1 W; rw [show rectR 2 3 2 3 1 4 1 = (0, 0, 0, 0, false, 0) by decide] at this; exact this
  have HX : Hid (∀ W : World, Calls Try.prog 11 #[.agg #[.int .i64 1, .int .i64 3, .int .i64 2]] W fun e w' => e = .returned (.tuple #[.agg #[.int .i64 2, .int .i64 3, .int .i64 2], .int .i64 0]) ∧ Below W.heap.size W w') := fun W => by have := back_any 1 3 2 W; rw [show backR 1 3 2 = (2, 3, 2, 0) by decide] at this; exact this
  go_enter Try.func15, Try.ntmps15
  go_wp2_with fail
  refine (HA.out _).mono ?_
  rintro e w1 ⟨rfl, hb⟩
  have hs := St.below hb H0.out
  have ⟨⟨⟨q30z, q300, q301, q302⟩, ⟨q31z, q310, q311, q312⟩, _⟩, _, _, hbz⟩ := hs
  have HS1 := hide (hs.box2 5 1 26)
  clear hs hb
  go_wp2_with fail
  refine (HB.out _).mono ?_
  rintro e w2 ⟨rfl, hb⟩
  have hs := St.below hb HS1.out
  clear q30z q300 q301 q302 q31z q310 q311 q312 hbz
  have ⟨⟨⟨q30z, q300, q301, q302⟩, ⟨q31z, q310, q311, q312⟩, _⟩, ⟨⟨q20z, q200, q201⟩, _⟩, _, hbz⟩ := hs
  have HS2 := hide (hs.box2 0 0 26)
  clear hs hb HS1
  go_wp2_with fail
  refine (HC.out _).mono ?_
  rintro e w3 ⟨rfl, hb⟩
  have hs := St.below hb HS2.out
  clear q30z q300 q301 q302 q31z q310 q311 q312 q20z q200 q201 hbz
  have ⟨⟨⟨q30z, q300, q301, q302⟩, ⟨q31z, q310, q311, q312⟩, _⟩, ⟨⟨q20z, q200, q201⟩, ⟨q21z, q210, q211⟩, _⟩, _, hbz⟩ := hs
  have HS3 := hide (hs.box2 0 0 26)
  clear hs hb HS2
  go_wp2_with fail
  refine (HR.out _).mono ?_
  rintro e w4 ⟨rfl, hb⟩
  have hs := St.below hb HS3.out
  clear q30z q300 q301 q302 q31z q310 q311 q312 q20z q200 q201 q21z q210 q211 hbz
  have ⟨⟨⟨q30z, q300, q301, q302⟩, ⟨q31z, q310, q311, q312⟩, _⟩, ⟨⟨q20z, q200, q201⟩, ⟨q21z, q210, q211⟩, ⟨q22z, q220, q221⟩, _⟩, _, hbz⟩ := hs
  have HS4 := hide (hs.box4 2 1 5 1 42)
  clear hs hb HS3
  go_wp2_with fail
  refine (HS.out _).mono ?_
  rintro e w5 ⟨rfl, hb⟩
  have hs := St.below hb HS4.out
  clear q30z q300 q301 q302 q31z q310 q311 q312 q20z q200 q201 q21z q210 q211 q22z q220 q221 hbz
  have ⟨⟨⟨q30z, q300, q301, q302⟩, ⟨q31z, q310, q311, q312⟩, _⟩, ⟨⟨q20z, q200, q201⟩, ⟨q21z, q210, q211⟩, ⟨q22z, q220, q221⟩, _⟩, ⟨⟨q40z, q400, q401, q402, q403⟩, _⟩, hbz⟩ := hs
  have HS5 := hide (hs.box4 2 1 2 1 42)
  clear hs hb HS4
  go_wp2_with fail
  refine (HT.out _).mono ?_
  rintro e w6 ⟨rfl, hb⟩
  have hs := St.below hb HS5.out
  clear q30z q300 q301 q302 q31z q310 q311 q312 q20z q200 q201 q21z q210 q211 q22z q220 q221 q40z q400 q401 q402 q403 hbz
  have ⟨⟨⟨q30z, q300, q301, q302⟩, ⟨q31z, q310, q311, q312⟩, _⟩, ⟨⟨q20z, q200, q201⟩, ⟨q21z, q210, q211⟩, ⟨q22z, q220, q221⟩, _⟩, ⟨⟨q40z, q400, q401, q402, q403⟩, ⟨q41z, q410, q411, q412, q413⟩, _⟩, hbz⟩ := hs
  have HS6 := hide (hs.box4 0 0 0 0 42)
  clear hs hb HS5
  go_wp2_with fail
  refine (HX.out _).mono ?_
  rintro e w7 ⟨rfl, hb⟩
  have hs := St.below hb HS6.out
  clear q30z q300 q301 q302 q31z q310 q311 q312 q20z q200 q201 q21z q210 q211 q22z q220 q221 q40z q400 q401 q402 q403 q41z q410 q411 q412 q413 hbz
  have ⟨⟨⟨q30z, q300, q301, q302⟩, ⟨q31z, q310, q311, q312⟩, _⟩, ⟨⟨q20z, q200, q201⟩, ⟨q21z, q210, q211⟩, ⟨q22z, q220, q221⟩, _⟩, ⟨⟨q40z, q400, q401, q402, q403⟩, ⟨q41z, q410, q411, q412, q413⟩, ⟨q42z, q420, q421, q422, q423⟩, _⟩, hbz⟩ := hs
  have HS7 := hide (hs.box3 2 3 2 24)
  clear hs hb HS6
  have hs := HS7.out
  go_wp2_with fail
  go_ret
  exact ⟨rfl, St.out (by assumption)⟩
end Go.Proofs.Ytkkoeanjmldmdaa
