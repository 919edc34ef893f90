/-
  The walk of MoveRects: for every input it returns true. (By movegen.py.)
-/
import Derived.Test.YtkkoeanjmldmdaaMvLives
import Derived.Test.YtkkoeanjmldmdaaMr5
import Derived.Test.YtkkoeanjmldmdaaMr6
namespace Go.Proofs.Ytkkoeanjmldmdaa
open Go.RowKit

set_option maxRecDepth 100000 in
set_option maxHeartbeats 2000000 in
theorem moveRects_walk (k a n t l b q : Int) (w : World) :
    Calls Try.prog 4 #[.agg #[.int .i64 k, .int .i64 a, .int .i64 n], .agg #[.int .i64 t, .int .i64 l, .int .i64 b, .int .i64 q]] w fun e w' => e = .returned (.bool true) ∧ Below w.heap.size w w' := by
  have H0 : Hid (St w [(w.heap.size, k, a, n)] [] [(w.heap.size + 1, t, l, b, q)] ((w.alloc (.cells #[.int .i64 k, .int .i64 a, .int .i64 n] 24)).alloc (.cells #[.int .i64 t, .int .i64 l, .int .i64 b, .int .i64 q] 42))) := by
    have := (((St.nil w).box3 k a n 24).box4 t l b q 42)
    show St _ _ _ _ _
    simpa using this
  have HV : Hid (∀ W : World, Calls Try.prog 15 #[] W fun e w' => e = .returned (.bool true) ∧ Below W.heap.size W w') := fun W => lives6_any W
  have HA : Hid (∀ W : World, Calls Try.prog 16 #[.agg #[.int .i64 k, .int .i64 a, .int .i64 n], .agg #[.int .i64 t, .int .i64 l, .int .i64 b, .int .i64 q]] W fun e w' => e = .returned (.tuple #[.agg #[.int .i64 ((rectR k a n t l b q).1), .int .i64 ((rectR k a n t l b q).2.1), .int .i64 ((rectR k a n t l b q).2.2.1), .int .i64 ((rectR k a n t l b q).2.2.2.1)], .bool ((rectR k a n t l b q).2.2.2.2.1), .int .i64 ((rectR k a n t l b q).2.2.2.2.2)]) ∧ Below W.heap.size W w') := fun W => rect_any k a n t l b q W
  have HB : Hid (∀ W : World, Calls Try.prog 17 #[.agg #[.int .i64 k, .int .i64 a, .int .i64 n], .agg #[.int .i64 t, .int .i64 l, .int .i64 b, .int .i64 q]] W fun e w' => e = .returned (.tuple #[.agg #[.int .i64 ((rectR k a n t l b q).1), .int .i64 ((rectR k a n t l b q).2.1), .int .i64 ((rectR k a n t l b q).2.2.1), .int .i64 ((rectR k a n t l b q).2.2.2.1)], .bool ((rectR k a n t l b q).2.2.2.2.1), .int .i64 ((rectR k a n t l b q).2.2.2.2.2)]) ∧ Below W.heap.size W w') := fun W => rrect_any k a n t l b q W
  have HC : Hid (∀ W : World, Calls Try.prog 18 #[.agg #[.int .i64 k, .int .i64 a, .int .i64 n], .agg #[.int .i64 t, .int .i64 l, .int .i64 b, .int .i64 q]] W fun e w' => e = .returned (.tuple #[.bool ((clipR k a n t l b q).1), .int .i64 ((clipR k a n t l b q).2)]) ∧ Below W.heap.size W w') := fun W => clips_any k a n t l b q W
  have HD : Hid (∀ W : World, Calls Try.prog 19 #[.agg #[.int .i64 k, .int .i64 a, .int .i64 n], .agg #[.int .i64 t, .int .i64 l, .int .i64 b, .int .i64 q]] W fun e w' => e = .returned (.tuple #[.bool ((clipR k a n t l b q).1), .int .i64 ((clipR k a n t l b q).2)]) ∧ Below W.heap.size W w') := fun W => rclips_any k a n t l b q W
  generalize (rectR k a n t l b q).1 = t' at *
  generalize (rectR k a n t l b q).2.1 = l' at *
  generalize (rectR k a n t l b q).2.2.1 = b' at *
  generalize (rectR k a n t l b q).2.2.2.1 = q' at *
  generalize (rectR k a n t l b q).2.2.2.2.1 = ok at *
  generalize (rectR k a n t l b q).2.2.2.2.2 = z at *
  generalize (clipR k a n t l b q).1 = cb at *
  generalize (clipR k a n t l b q).2 = ce at *
  have stp : (t' == t') = true := by simp
  have slp : (l' == l') = true := by simp
  have sbp : (b' == b') = true := by simp
  have sqp : (q' == q') = true := by simp
  have sz : (z == z) = true := by simp
  have sce : (ce == ce) = true := by simp
  cases ok
  all_goals
    cases cb
    all_goals
      go_enter Try.func4, Try.ntmps4
      go_wp2_with fail
      refine (HA.out _).mono ?_
      rintro e w1 ⟨rfl, hb⟩
      have hs := St.below hb H0.out
      have ⟨⟨⟨q30z, q300, q301, q302⟩, _⟩, _, ⟨⟨q40z, q400, q401, q402, q403⟩, _⟩, hbz⟩ := hs
      have HS1 := hide (hs.box4 t' l' b' q' 42)
      clear hs hb
      go_wp2_with fail
      refine (HB.out _).mono ?_
      rintro e w2 ⟨rfl, hb⟩
      have hs := St.below hb HS1.out
      clear q30z q300 q301 q302 q40z q400 q401 q402 q403 hbz
      have ⟨⟨⟨q30z, q300, q301, q302⟩, _⟩, _, ⟨⟨q40z, q400, q401, q402, q403⟩, ⟨q41z, q410, q411, q412, q413⟩, _⟩, hbz⟩ := hs
      have HS2 := hide (hs.box4 t' l' b' q' 42)
      clear hs hb HS1
      go_wp2_with fail
      refine (HC.out _).mono ?_
      rintro e w3 ⟨rfl, hb⟩
      have hs := St.below hb HS2.out
      clear q30z q300 q301 q302 q40z q400 q401 q402 q403 q41z q410 q411 q412 q413 hbz
      have ⟨⟨⟨q30z, q300, q301, q302⟩, _⟩, _, ⟨⟨q40z, q400, q401, q402, q403⟩, ⟨q41z, q410, q411, q412, q413⟩, ⟨q42z, q420, q421, q422, q423⟩, _⟩, hbz⟩ := hs
      have HS3 := hide hs
      clear hs hb HS2
      go_wp2_with fail
      refine (HD.out _).mono ?_
      rintro e w4 ⟨rfl, hb⟩
      have hs := St.below hb HS3.out
      clear q30z q300 q301 q302 q40z q400 q401 q402 q403 q41z q410 q411 q412 q413 q42z q420 q421 q422 q423 hbz
      have ⟨⟨⟨q30z, q300, q301, q302⟩, _⟩, _, ⟨⟨q40z, q400, q401, q402, q403⟩, ⟨q41z, q410, q411, q412, q413⟩, ⟨q42z, q420, q421, q422, q423⟩, _⟩, hbz⟩ := hs
      have HS4 := hide hs
      clear hs hb HS3
      have hs := HS4.out
      go_wp2_with (first | (go_at_call 15; refine (HV.out _).mono ?_; rintro e wn ⟨rfl, hb⟩; have hs := St.below hb (by assumption); have ⟨⟨⟨q30z, q300, q301, q302⟩, _⟩, _, ⟨⟨q40z, q400, q401, q402, q403⟩, ⟨q41z, q410, q411, q412, q413⟩, ⟨q42z, q420, q421, q422, q423⟩, _⟩, hbz⟩ := hs))
      go_ret
      exact ⟨rfl, St.out (by assumption)⟩
end Go.Proofs.Ytkkoeanjmldmdaa
