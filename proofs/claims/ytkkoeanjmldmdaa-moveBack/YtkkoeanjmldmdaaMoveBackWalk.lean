/-
  The walk of MoveBack: for every input it returns true. (By movegen.py.)
-/
import Derived.Test.YtkkoeanjmldmdaaMvLives
import Derived.Test.YtkkoeanjmldmdaaMvMath
namespace Go.Proofs.Ytkkoeanjmldmdaa
open Go.RowKit

set_option maxRecDepth 100000 in
set_option maxHeartbeats 2000000 in
theorem moveBack_walk (k a n r c : Int) (w : World) :
    Calls Try.prog 5 #[.agg #[.int .i64 k, .int .i64 a, .int .i64 n], .agg #[.int .i64 r, .int .i64 c]] w fun e w' => e = .returned (.bool true) ∧ Below w.heap.size w w' := by
  have H0 : Hid (St w [(w.heap.size, k, a, n)] [(w.heap.size + 1, r, c)] [] ((w.alloc (.cells #[.int .i64 k, .int .i64 a, .int .i64 n] 24)).alloc (.cells #[.int .i64 r, .int .i64 c] 26))) := by
    have := (((St.nil w).box3 k a n 24).box2 r c 26)
    show St _ _ _ _ _
    simpa using this
  have HV : Hid (∀ W : World, Calls Try.prog 15 #[] W fun e w' => e = .returned (.bool true) ∧ Below W.heap.size W w') := fun W => lives6_any W
  cases h : editB k a n
  · have HB : Hid (∀ W : World, Calls Try.prog 11 #[.agg #[.int .i64 k, .int .i64 a, .int .i64 n]] W fun e w' => e = .returned (.tuple #[.agg #[.int .i64 0, .int .i64 0, .int .i64 0], .int .i64 2]) ∧ Below W.heap.size W w') := fun W => by have := back_any k a n W; rw [backR_no h] at this; exact this
    clear h
    go_enter Try.func5, Try.ntmps5
    go_wp2_with fail
    refine (HB.out _).mono ?_
    rintro e w1 ⟨rfl, hb⟩
    have hs := St.below hb H0.out
    have ⟨⟨⟨q30z, q300, q301, q302⟩, _⟩, ⟨⟨q20z, q200, q201⟩, _⟩, _, hbz⟩ := hs
    have HS1 := hide (hs.box3 0 0 0 24)
    clear hs hb
    have hs := HS1.out
    go_wp2_with (first | (go_at_call 15; refine (HV.out _).mono ?_; rintro e wn ⟨rfl, hb⟩; have hs := St.below hb (by assumption); have ⟨⟨⟨q30z, q300, q301, q302⟩, ⟨q31z, q310, q311, q312⟩, _⟩, ⟨⟨q20z, q200, q201⟩, _⟩, _, hbz⟩ := hs))
    go_ret
    exact ⟨rfl, St.out (by assumption)⟩
  · have HB : Hid (∀ W : World, Calls Try.prog 11 #[.agg #[.int .i64 k, .int .i64 a, .int .i64 n]] W fun e w' => e = .returned (.tuple #[.agg #[.int .i64 ((backK k)), .int .i64 a, .int .i64 n], .int .i64 0]) ∧ Below W.heap.size W w') := fun W => by have := back_any k a n W; rw [backR_yes h] at this; exact this
    have hb := edit_back h
    have HC : Hid (∀ W : World, Calls Try.prog 11 #[.agg #[.int .i64 ((backK k)), .int .i64 a, .int .i64 n]] W fun e w' => e = .returned (.tuple #[.agg #[.int .i64 k, .int .i64 a, .int .i64 n], .int .i64 0]) ∧ Below W.heap.size W w') := fun W => by have := back_any (backK k) a n W; rw [backR_yes hb, (back_words h).2.2.2] at this; exact this
    have HE : Hid (∀ W : World, Calls Try.prog 13 #[.agg #[.int .i64 ((backK k)), .int .i64 a, .int .i64 n]] W fun e w' => e = .returned (.int .i64 0) ∧ Below W.heap.size W w') := fun W => by have := edit_any (backK k) a n W; rw [editR_yes hb] at this; exact this
    have HA : Hid (∀ W : World, Calls Try.prog 9 #[.agg #[.int .i64 k, .int .i64 a, .int .i64 n], .agg #[.int .i64 r, .int .i64 c]] W fun e w' => e = .returned (.tuple #[.agg #[.int .i64 ((spotR k a n r c).1), .int .i64 ((spotR k a n r c).2.1)], .int .i64 ((spotR k a n r c).2.2.1), .int .i64 ((spotR k a n r c).2.2.2)]) ∧ Below W.heap.size W w') := fun W => spot_any k a n r c W
    have s1 : (k == k) = true := by simp
    have s2 : (a == a) = true := by simp
    have s3 : (n == n) = true := by simp
    rcases spot_cases k a n r c with ⟨ea, _⟩ | ⟨_, _, f, hf, ea⟩ | hst
    · rw [ea] at HA
      generalize backK k = m at *
      clear ea h hb
      go_enter Try.func5, Try.ntmps5
      go_wp2_with fail
      refine (HB.out _).mono ?_
      rintro e w1 ⟨rfl, hb⟩
      have hs := St.below hb H0.out
      have ⟨⟨⟨q30z, q300, q301, q302⟩, _⟩, ⟨⟨q20z, q200, q201⟩, _⟩, _, hbz⟩ := hs
      have HS1 := hide (hs.box3 m a n 24)
      clear hs hb
      go_wp2_with fail
      refine (HC.out _).mono ?_
      rintro e w2 ⟨rfl, hb⟩
      have hs := St.below hb HS1.out
      clear q30z q300 q301 q302 q20z q200 q201 hbz
      have ⟨⟨⟨q30z, q300, q301, q302⟩, ⟨q31z, q310, q311, q312⟩, _⟩, ⟨⟨q20z, q200, q201⟩, _⟩, _, hbz⟩ := hs
      have HS2 := hide (hs.box3 k a n 24)
      clear hs hb HS1
      go_wp2_with fail
      refine (HA.out _).mono ?_
      rintro e w3 ⟨rfl, hb⟩
      have hs := St.below hb HS2.out
      clear q30z q300 q301 q302 q31z q310 q311 q312 q20z q200 q201 hbz
      have ⟨⟨⟨q30z, q300, q301, q302⟩, ⟨q31z, q310, q311, q312⟩, ⟨q32z, q320, q321, q322⟩, _⟩, ⟨⟨q20z, q200, q201⟩, _⟩, _, hbz⟩ := hs
      have HS3 := hide (hs.box2 0 0 26)
      clear hs hb HS2
      have hs := HS3.out
      go_wp2_with (first | (go_at_call 13; refine (HE.out _).mono ?_; rintro e wn ⟨rfl, hb⟩; have hs := St.below hb (by assumption); have ⟨⟨⟨q30z, q300, q301, q302⟩, ⟨q31z, q310, q311, q312⟩, ⟨q32z, q320, q321, q322⟩, _⟩, ⟨⟨q20z, q200, q201⟩, ⟨q21z, q210, q211⟩, _⟩, _, hbz⟩ := hs) | (go_at_call 15; refine (HV.out _).mono ?_; rintro e wn ⟨rfl, hb⟩; have hs := St.below hb (by assumption); have ⟨⟨⟨q30z, q300, q301, q302⟩, ⟨q31z, q310, q311, q312⟩, ⟨q32z, q320, q321, q322⟩, _⟩, ⟨⟨q20z, q200, q201⟩, ⟨q21z, q210, q211⟩, _⟩, _, hbz⟩ := hs))
      go_ret
      exact ⟨rfl, St.out (by assumption)⟩
    · rw [ea] at HA
      have e0 : (f == 0) = false := by rw [beq_eq_false_iff_ne]; omega
      generalize backK k = m at *
      clear ea hf h hb
      go_enter Try.func5, Try.ntmps5
      go_wp2_with fail
      refine (HB.out _).mono ?_
      rintro e w1 ⟨rfl, hb⟩
      have hs := St.below hb H0.out
      have ⟨⟨⟨q30z, q300, q301, q302⟩, _⟩, ⟨⟨q20z, q200, q201⟩, _⟩, _, hbz⟩ := hs
      have HS1 := hide (hs.box3 m a n 24)
      clear hs hb
      go_wp2_with fail
      refine (HC.out _).mono ?_
      rintro e w2 ⟨rfl, hb⟩
      have hs := St.below hb HS1.out
      clear q30z q300 q301 q302 q20z q200 q201 hbz
      have ⟨⟨⟨q30z, q300, q301, q302⟩, ⟨q31z, q310, q311, q312⟩, _⟩, ⟨⟨q20z, q200, q201⟩, _⟩, _, hbz⟩ := hs
      have HS2 := hide (hs.box3 k a n 24)
      clear hs hb HS1
      go_wp2_with fail
      refine (HA.out _).mono ?_
      rintro e w3 ⟨rfl, hb⟩
      have hs := St.below hb HS2.out
      clear q30z q300 q301 q302 q31z q310 q311 q312 q20z q200 q201 hbz
      have ⟨⟨⟨q30z, q300, q301, q302⟩, ⟨q31z, q310, q311, q312⟩, ⟨q32z, q320, q321, q322⟩, _⟩, ⟨⟨q20z, q200, q201⟩, _⟩, _, hbz⟩ := hs
      have HS3 := hide (hs.box2 0 0 26)
      clear hs hb HS2
      have hs := HS3.out
      go_wp2_with (first | (go_at_call 13; refine (HE.out _).mono ?_; rintro e wn ⟨rfl, hb⟩; have hs := St.below hb (by assumption); have ⟨⟨⟨q30z, q300, q301, q302⟩, ⟨q31z, q310, q311, q312⟩, ⟨q32z, q320, q321, q322⟩, _⟩, ⟨⟨q20z, q200, q201⟩, ⟨q21z, q210, q211⟩, _⟩, _, hbz⟩ := hs) | (go_at_call 15; refine (HV.out _).mono ?_; rintro e wn ⟨rfl, hb⟩; have hs := St.below hb (by assumption); have ⟨⟨⟨q30z, q300, q301, q302⟩, ⟨q31z, q310, q311, q312⟩, ⟨q32z, q320, q321, q322⟩, _⟩, ⟨⟨q20z, q200, q201⟩, ⟨q21z, q210, q211⟩, _⟩, _, hbz⟩ := hs))
      go_ret
      exact ⟨rfl, St.out (by assumption)⟩
    · have ea : ∃ x y, spotR k a n r c = (x, y, 0, 0) := by
        rcases hst with ⟨_, _, _, _, e⟩ | ⟨_, _, _, _, e⟩ <;> exact ⟨_, _, e⟩
      obtain ⟨x, y, ea⟩ := ea
      rw [ea] at HA
      have HD : Hid (∀ W : World, Calls Try.prog 9 #[.agg #[.int .i64 ((backK k)), .int .i64 a, .int .i64 n], .agg #[.int .i64 x, .int .i64 y]] W fun e w' => e = .returned (.tuple #[.agg #[.int .i64 r, .int .i64 c], .int .i64 0, .int .i64 0]) ∧ Below W.heap.size W w') := fun W => by have := spot_any (backK k) a n x y W; rw [spot_back ea] at this; exact this
      have s4 : (r == r) = true := by simp
      have s5 : (c == c) = true := by simp
      generalize backK k = m at *
      clear ea hst h hb
      go_enter Try.func5, Try.ntmps5
      go_wp2_with fail
      refine (HB.out _).mono ?_
      rintro e w1 ⟨rfl, hb⟩
      have hs := St.below hb H0.out
      have ⟨⟨⟨q30z, q300, q301, q302⟩, _⟩, ⟨⟨q20z, q200, q201⟩, _⟩, _, hbz⟩ := hs
      have HS1 := hide (hs.box3 m a n 24)
      clear hs hb
      go_wp2_with fail
      refine (HC.out _).mono ?_
      rintro e w2 ⟨rfl, hb⟩
      have hs := St.below hb HS1.out
      clear q30z q300 q301 q302 q20z q200 q201 hbz
      have ⟨⟨⟨q30z, q300, q301, q302⟩, ⟨q31z, q310, q311, q312⟩, _⟩, ⟨⟨q20z, q200, q201⟩, _⟩, _, hbz⟩ := hs
      have HS2 := hide (hs.box3 k a n 24)
      clear hs hb HS1
      go_wp2_with fail
      refine (HA.out _).mono ?_
      rintro e w3 ⟨rfl, hb⟩
      have hs := St.below hb HS2.out
      clear q30z q300 q301 q302 q31z q310 q311 q312 q20z q200 q201 hbz
      have ⟨⟨⟨q30z, q300, q301, q302⟩, ⟨q31z, q310, q311, q312⟩, ⟨q32z, q320, q321, q322⟩, _⟩, ⟨⟨q20z, q200, q201⟩, _⟩, _, hbz⟩ := hs
      have HS3 := hide (hs.box2 x y 26)
      clear hs hb HS2
      go_wp2_with fail
      refine (HE.out _).mono ?_
      rintro e w4 ⟨rfl, hb⟩
      have hs := St.below hb HS3.out
      clear q30z q300 q301 q302 q31z q310 q311 q312 q32z q320 q321 q322 q20z q200 q201 hbz
      have ⟨⟨⟨q30z, q300, q301, q302⟩, ⟨q31z, q310, q311, q312⟩, ⟨q32z, q320, q321, q322⟩, _⟩, ⟨⟨q20z, q200, q201⟩, ⟨q21z, q210, q211⟩, _⟩, _, hbz⟩ := hs
      have HS4 := hide hs
      clear hs hb HS3
      go_wp2_with fail
      refine (HD.out _).mono ?_
      rintro e w5 ⟨rfl, hb⟩
      have hs := St.below hb HS4.out
      clear q30z q300 q301 q302 q31z q310 q311 q312 q32z q320 q321 q322 q20z q200 q201 q21z q210 q211 hbz
      have ⟨⟨⟨q30z, q300, q301, q302⟩, ⟨q31z, q310, q311, q312⟩, ⟨q32z, q320, q321, q322⟩, _⟩, ⟨⟨q20z, q200, q201⟩, ⟨q21z, q210, q211⟩, _⟩, _, hbz⟩ := hs
      have HS5 := hide (hs.box2 r c 26)
      clear hs hb HS4
      have hs := HS5.out
      go_wp2_with (first | (go_at_call 15; refine (HV.out _).mono ?_; rintro e wn ⟨rfl, hb⟩; have hs := St.below hb (by assumption); have ⟨⟨⟨q30z, q300, q301, q302⟩, ⟨q31z, q310, q311, q312⟩, ⟨q32z, q320, q321, q322⟩, _⟩, ⟨⟨q20z, q200, q201⟩, ⟨q21z, q210, q211⟩, ⟨q22z, q220, q221⟩, _⟩, _, hbz⟩ := hs))
      go_ret
      exact ⟨rfl, St.out (by assumption)⟩
end Go.Proofs.Ytkkoeanjmldmdaa
