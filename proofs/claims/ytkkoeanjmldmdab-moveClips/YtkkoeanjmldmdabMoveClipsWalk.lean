/-
  The walk of MoveClips: for every input it returns true. (By movegen.py.)
-/
import Derived.Test.YtkkoeanjmldmdabMvLives
import Derived.Test.YtkkoeanjmldmdabMvArea
namespace Go.Proofs.Ytkkoeanjmldmdab
open Go.RowKit

set_option maxRecDepth 100000 in
set_option maxHeartbeats 2000000 in
theorem moveClips_walk (k a n t l b q : Int) (w : World) :
    Calls Try.prog 3 #[.agg #[.int .i64 k, .int .i64 a, .int .i64 n], .agg #[.int .i64 t, .int .i64 l, .int .i64 b, .int .i64 q]] w fun e w' => e = .returned (.bool true) ∧ Below w.heap.size w w' := by
  have H0 : Hid (St w [(w.heap.size, k, a, n)] [] [(w.heap.size + 1, t, l, b, q)] ((w.alloc (.cells #[.int .i64 k, .int .i64 a, .int .i64 n] 24)).alloc (.cells #[.int .i64 t, .int .i64 l, .int .i64 b, .int .i64 q] 26))) := by
    have := (((St.nil w).box3 k a n 24).box4 t l b q 26)
    show St _ _ _ _ _
    simpa using this
  have HV : Hid (∀ W : World, Calls Try.prog 6 #[] W fun e w' => e = .returned (.bool true) ∧ Below W.heap.size W w') := fun W => lives6_any W
  have HC : Hid (∀ W : World, Calls Try.prog 4 #[.agg #[.int .i64 k, .int .i64 a, .int .i64 n], .agg #[.int .i64 t, .int .i64 l, .int .i64 b, .int .i64 q]] W fun e w' => e = .returned (.tuple #[.bool ((clipR k a n t l b q).1), .int .i64 ((clipR k a n t l b q).2)]) ∧ Below W.heap.size W w') := fun W => clips_any k a n t l b q W
  have HR : Hid (∀ W : World, Calls Try.prog 5 #[.agg #[.int .i64 k, .int .i64 a, .int .i64 n], .agg #[.int .i64 t, .int .i64 l, .int .i64 b, .int .i64 q]] W fun e w' => e = .returned (.tuple #[.agg #[.int .i64 ((rectR k a n t l b q).1), .int .i64 ((rectR k a n t l b q).2.1), .int .i64 ((rectR k a n t l b q).2.2.1), .int .i64 ((rectR k a n t l b q).2.2.2.1)], .bool ((rectR k a n t l b q).2.2.2.2.1), .int .i64 ((rectR k a n t l b q).2.2.2.2.2)]) ∧ Below W.heap.size W w') := fun W => rect_any k a n t l b q W
  cases he : editB k a n
  · have er := rectR_no (t := t) (l := l) (b := b) (r := q) (Or.inl he)
    have ec := clipR_no (t := t) (l := l) (b := b) (r := q) (Or.inl he)
    rw [er] at HR
    rw [ec] at HC
    clear er ec he
    go_enter Try.func3, Try.ntmps3
    go_wp2_with fail
    refine (HC.out _).mono ?_
    rintro e w1 ⟨rfl, hb⟩
    have hs := St.below hb H0.out
    have ⟨⟨⟨q30z, q300, q301, q302⟩, _⟩, _, ⟨⟨q40z, q400, q401, q402, q403⟩, _⟩, hbz⟩ := hs
    have HS1 := hide hs
    clear hs hb
    go_wp2_with fail
    refine (HR.out _).mono ?_
    rintro e w2 ⟨rfl, hb⟩
    have hs := St.below hb HS1.out
    clear q30z q300 q301 q302 q40z q400 q401 q402 q403 hbz
    have ⟨⟨⟨q30z, q300, q301, q302⟩, _⟩, _, ⟨⟨q40z, q400, q401, q402, q403⟩, _⟩, hbz⟩ := hs
    have HS2 := hide (hs.box4 0 0 0 0 26)
    clear hs hb HS1
    have hs := HS2.out
    go_wp2_with (first | (go_at_call 6; refine (HV.out _).mono ?_; rintro e wn ⟨rfl, hb⟩; have hs := St.below hb (by assumption); have ⟨⟨⟨q30z, q300, q301, q302⟩, _⟩, _, ⟨⟨q40z, q400, q401, q402, q403⟩, ⟨q41z, q410, q411, q412, q413⟩, _⟩, hbz⟩ := hs))
    go_ret
    exact ⟨rfl, St.out (by assumption)⟩
  · cases hR : rightB t l b q
    · have er := rectR_no (k := k) (a := a) (n := n) (Or.inr hR)
      have ec := clipR_no (k := k) (a := a) (n := n) (Or.inr hR)
      rw [er] at HR
      rw [ec] at HC
      clear er ec he hR
      go_enter Try.func3, Try.ntmps3
      go_wp2_with fail
      refine (HC.out _).mono ?_
      rintro e w1 ⟨rfl, hb⟩
      have hs := St.below hb H0.out
      have ⟨⟨⟨q30z, q300, q301, q302⟩, _⟩, _, ⟨⟨q40z, q400, q401, q402, q403⟩, _⟩, hbz⟩ := hs
      have HS1 := hide hs
      clear hs hb
      go_wp2_with fail
      refine (HR.out _).mono ?_
      rintro e w2 ⟨rfl, hb⟩
      have hs := St.below hb HS1.out
      clear q30z q300 q301 q302 q40z q400 q401 q402 q403 hbz
      have ⟨⟨⟨q30z, q300, q301, q302⟩, _⟩, _, ⟨⟨q40z, q400, q401, q402, q403⟩, _⟩, hbz⟩ := hs
      have HS2 := hide (hs.box4 0 0 0 0 26)
      clear hs hb HS1
      have hs := HS2.out
      go_wp2_with (first | (go_at_call 6; refine (HV.out _).mono ?_; rintro e wn ⟨rfl, hb⟩; have hs := St.below hb (by assumption); have ⟨⟨⟨q30z, q300, q301, q302⟩, _⟩, _, ⟨⟨q40z, q400, q401, q402, q403⟩, ⟨q41z, q410, q411, q412, q413⟩, _⟩, hbz⟩ := hs))
      go_ret
      exact ⟨rfl, St.out (by assumption)⟩
    · obtain ⟨f1, f2, f3, f4, _⟩ := fair he hR
      have hk := editB_kinds he
      rw [f1] at HC
      rw [f2] at HR
      have HW : Hid (∀ W : World, Calls Try.prog 7 #[.agg #[.int .i64 t, .int .i64 l, .int .i64 b, .int .i64 q]] W fun e w' => e = .returned (.tuple #[.int .i64 (areaR t l b q).1, .int .i64 (areaR t l b q).2]) ∧ Below W.heap.size W w') := fun W => area_any t l b q W
      have HN : Hid (∀ W : World, Calls Try.prog 7 #[.agg #[.int .i64 ((rectR k a n t l b q).1), .int .i64 ((rectR k a n t l b q).2.1), .int .i64 ((rectR k a n t l b q).2.2.1), .int .i64 ((rectR k a n t l b q).2.2.2.1)]] W fun e w' => e = .returned (.tuple #[.int .i64 (areaR (rectR k a n t l b q).1 (rectR k a n t l b q).2.1 (rectR k a n t l b q).2.2.1 (rectR k a n t l b q).2.2.2.1).1, .int .i64 (areaR (rectR k a n t l b q).1 (rectR k a n t l b q).2.1 (rectR k a n t l b q).2.2.1 (rectR k a n t l b q).2.2.2.1).2]) ∧ Below W.heap.size W w') := fun W => area_any (rectR k a n t l b q).1 (rectR k a n t l b q).2.1 (rectR k a n t l b q).2.2.1 (rectR k a n t l b q).2.2.2.1 W
      generalize (areaR (rectR k a n t l b q).1 (rectR k a n t l b q).2.1 (rectR k a n t l b q).2.2.1 (rectR k a n t l b q).2.2.2.1).1 = now at *
      generalize (areaR (rectR k a n t l b q).1 (rectR k a n t l b q).2.1 (rectR k a n t l b q).2.2.1 (rectR k a n t l b q).2.2.2.1).2 = now2 at *
      generalize (areaR t l b q).1 = was at *
      generalize (areaR t l b q).2 = was2 at *
      generalize (rectR k a n t l b q).1 = t' at *
      generalize (rectR k a n t l b q).2.1 = l' at *
      generalize (rectR k a n t l b q).2.2.1 = b' at *
      generalize (rectR k a n t l b q).2.2.2.1 = q' at *
      generalize (rectR k a n t l b q).2.2.2.2.1 = ok at *
      generalize (clipR k a n t l b q).1 = c at *
      clear f1 f2 he hR
      rcases hk with rfl | rfl | rfl | rfl
      · skip
        rcases f4 (by decide) with rfl | ⟨rfl, rfl, d⟩
        · clear f3 f4
          cases ok
          all_goals
            go_enter Try.func3, Try.ntmps3
            go_wp2_with fail
            refine (HC.out _).mono ?_
            rintro e w1 ⟨rfl, hb⟩
            have hs := St.below hb H0.out
            have ⟨⟨⟨q30z, q300, q301, q302⟩, _⟩, _, ⟨⟨q40z, q400, q401, q402, q403⟩, _⟩, hbz⟩ := hs
            have HS1 := hide hs
            clear hs hb
            go_wp2_with fail
            refine (HR.out _).mono ?_
            rintro e w2 ⟨rfl, hb⟩
            have hs := St.below hb HS1.out
            clear q30z q300 q301 q302 q40z q400 q401 q402 q403 hbz
            have ⟨⟨⟨q30z, q300, q301, q302⟩, _⟩, _, ⟨⟨q40z, q400, q401, q402, q403⟩, _⟩, hbz⟩ := hs
            have HS2 := hide (hs.box4 t' l' b' q' 26)
            clear hs hb HS1
            go_wp2_with fail
            refine (HW.out _).mono ?_
            rintro e w3 ⟨rfl, hb⟩
            have hs := St.below hb HS2.out
            clear q30z q300 q301 q302 q40z q400 q401 q402 q403 hbz
            have ⟨⟨⟨q30z, q300, q301, q302⟩, _⟩, _, ⟨⟨q40z, q400, q401, q402, q403⟩, ⟨q41z, q410, q411, q412, q413⟩, _⟩, hbz⟩ := hs
            have HS3 := hide hs
            clear hs hb HS2
            go_wp2_with fail
            refine (HN.out _).mono ?_
            rintro e w4 ⟨rfl, hb⟩
            have hs := St.below hb HS3.out
            clear q30z q300 q301 q302 q40z q400 q401 q402 q403 q41z q410 q411 q412 q413 hbz
            have ⟨⟨⟨q30z, q300, q301, q302⟩, _⟩, _, ⟨⟨q40z, q400, q401, q402, q403⟩, ⟨q41z, q410, q411, q412, q413⟩, _⟩, hbz⟩ := hs
            have HS4 := hide hs
            clear hs hb HS3
            have hs := HS4.out
            go_wp2_with (first | (go_at_call 6; refine (HV.out _).mono ?_; rintro e wn ⟨rfl, hb⟩; have hs := St.below hb (by assumption); have ⟨⟨⟨q30z, q300, q301, q302⟩, _⟩, _, ⟨⟨q40z, q400, q401, q402, q403⟩, ⟨q41z, q410, q411, q412, q413⟩, _⟩, hbz⟩ := hs))
            go_ret
            exact ⟨rfl, St.out (by assumption)⟩
        · have d' : now ≥ was := d
          clear f3 f4
          go_enter Try.func3, Try.ntmps3
          go_wp2_with fail
          refine (HC.out _).mono ?_
          rintro e w1 ⟨rfl, hb⟩
          have hs := St.below hb H0.out
          have ⟨⟨⟨q30z, q300, q301, q302⟩, _⟩, _, ⟨⟨q40z, q400, q401, q402, q403⟩, _⟩, hbz⟩ := hs
          have HS1 := hide hs
          clear hs hb
          go_wp2_with fail
          refine (HR.out _).mono ?_
          rintro e w2 ⟨rfl, hb⟩
          have hs := St.below hb HS1.out
          clear q30z q300 q301 q302 q40z q400 q401 q402 q403 hbz
          have ⟨⟨⟨q30z, q300, q301, q302⟩, _⟩, _, ⟨⟨q40z, q400, q401, q402, q403⟩, _⟩, hbz⟩ := hs
          have HS2 := hide (hs.box4 t' l' b' q' 26)
          clear hs hb HS1
          go_wp2_with fail
          refine (HW.out _).mono ?_
          rintro e w3 ⟨rfl, hb⟩
          have hs := St.below hb HS2.out
          clear q30z q300 q301 q302 q40z q400 q401 q402 q403 hbz
          have ⟨⟨⟨q30z, q300, q301, q302⟩, _⟩, _, ⟨⟨q40z, q400, q401, q402, q403⟩, ⟨q41z, q410, q411, q412, q413⟩, _⟩, hbz⟩ := hs
          have HS3 := hide hs
          clear hs hb HS2
          go_wp2_with fail
          refine (HN.out _).mono ?_
          rintro e w4 ⟨rfl, hb⟩
          have hs := St.below hb HS3.out
          clear q30z q300 q301 q302 q40z q400 q401 q402 q403 q41z q410 q411 q412 q413 hbz
          have ⟨⟨⟨q30z, q300, q301, q302⟩, _⟩, _, ⟨⟨q40z, q400, q401, q402, q403⟩, ⟨q41z, q410, q411, q412, q413⟩, _⟩, hbz⟩ := hs
          have HS4 := hide hs
          clear hs hb HS3
          have hs := HS4.out
          go_wp2_with (first | (go_at_call 6; refine (HV.out _).mono ?_; rintro e wn ⟨rfl, hb⟩; have hs := St.below hb (by assumption); have ⟨⟨⟨q30z, q300, q301, q302⟩, _⟩, _, ⟨⟨q40z, q400, q401, q402, q403⟩, ⟨q41z, q410, q411, q412, q413⟩, _⟩, hbz⟩ := hs))
          go_ret
          exact ⟨rfl, St.out (by assumption)⟩
      · skip
        rcases f3 (by decide) with ⟨rfl, d⟩ | ⟨rfl, d⟩
        · have d' : now ≤ was := by omega
          clear f3 f4
          go_enter Try.func3, Try.ntmps3
          go_wp2_with fail
          refine (HC.out _).mono ?_
          rintro e w1 ⟨rfl, hb⟩
          have hs := St.below hb H0.out
          have ⟨⟨⟨q30z, q300, q301, q302⟩, _⟩, _, ⟨⟨q40z, q400, q401, q402, q403⟩, _⟩, hbz⟩ := hs
          have HS1 := hide hs
          clear hs hb
          go_wp2_with fail
          refine (HR.out _).mono ?_
          rintro e w2 ⟨rfl, hb⟩
          have hs := St.below hb HS1.out
          clear q30z q300 q301 q302 q40z q400 q401 q402 q403 hbz
          have ⟨⟨⟨q30z, q300, q301, q302⟩, _⟩, _, ⟨⟨q40z, q400, q401, q402, q403⟩, _⟩, hbz⟩ := hs
          have HS2 := hide (hs.box4 t' l' b' q' 26)
          clear hs hb HS1
          go_wp2_with fail
          refine (HW.out _).mono ?_
          rintro e w3 ⟨rfl, hb⟩
          have hs := St.below hb HS2.out
          clear q30z q300 q301 q302 q40z q400 q401 q402 q403 hbz
          have ⟨⟨⟨q30z, q300, q301, q302⟩, _⟩, _, ⟨⟨q40z, q400, q401, q402, q403⟩, ⟨q41z, q410, q411, q412, q413⟩, _⟩, hbz⟩ := hs
          have HS3 := hide hs
          clear hs hb HS2
          go_wp2_with fail
          refine (HN.out _).mono ?_
          rintro e w4 ⟨rfl, hb⟩
          have hs := St.below hb HS3.out
          clear q30z q300 q301 q302 q40z q400 q401 q402 q403 q41z q410 q411 q412 q413 hbz
          have ⟨⟨⟨q30z, q300, q301, q302⟩, _⟩, _, ⟨⟨q40z, q400, q401, q402, q403⟩, ⟨q41z, q410, q411, q412, q413⟩, _⟩, hbz⟩ := hs
          have HS4 := hide hs
          clear hs hb HS3
          have hs := HS4.out
          go_wp2_with (first | (go_at_call 6; refine (HV.out _).mono ?_; rintro e wn ⟨rfl, hb⟩; have hs := St.below hb (by assumption); have ⟨⟨⟨q30z, q300, q301, q302⟩, _⟩, _, ⟨⟨q40z, q400, q401, q402, q403⟩, ⟨q41z, q410, q411, q412, q413⟩, _⟩, hbz⟩ := hs))
          go_ret
          exact ⟨rfl, St.out (by assumption)⟩
        · subst d
          have d1 : (now < now) = False := by simp
          have d2 : now ≤ now := Int.le_refl _
          clear f3 f4
          go_enter Try.func3, Try.ntmps3
          go_wp2_with fail
          refine (HC.out _).mono ?_
          rintro e w1 ⟨rfl, hb⟩
          have hs := St.below hb H0.out
          have ⟨⟨⟨q30z, q300, q301, q302⟩, _⟩, _, ⟨⟨q40z, q400, q401, q402, q403⟩, _⟩, hbz⟩ := hs
          have HS1 := hide hs
          clear hs hb
          go_wp2_with fail
          refine (HR.out _).mono ?_
          rintro e w2 ⟨rfl, hb⟩
          have hs := St.below hb HS1.out
          clear q30z q300 q301 q302 q40z q400 q401 q402 q403 hbz
          have ⟨⟨⟨q30z, q300, q301, q302⟩, _⟩, _, ⟨⟨q40z, q400, q401, q402, q403⟩, _⟩, hbz⟩ := hs
          have HS2 := hide (hs.box4 t' l' b' q' 26)
          clear hs hb HS1
          go_wp2_with fail
          refine (HW.out _).mono ?_
          rintro e w3 ⟨rfl, hb⟩
          have hs := St.below hb HS2.out
          clear q30z q300 q301 q302 q40z q400 q401 q402 q403 hbz
          have ⟨⟨⟨q30z, q300, q301, q302⟩, _⟩, _, ⟨⟨q40z, q400, q401, q402, q403⟩, ⟨q41z, q410, q411, q412, q413⟩, _⟩, hbz⟩ := hs
          have HS3 := hide hs
          clear hs hb HS2
          go_wp2_with fail
          refine (HN.out _).mono ?_
          rintro e w4 ⟨rfl, hb⟩
          have hs := St.below hb HS3.out
          clear q30z q300 q301 q302 q40z q400 q401 q402 q403 q41z q410 q411 q412 q413 hbz
          have ⟨⟨⟨q30z, q300, q301, q302⟩, _⟩, _, ⟨⟨q40z, q400, q401, q402, q403⟩, ⟨q41z, q410, q411, q412, q413⟩, _⟩, hbz⟩ := hs
          have HS4 := hide hs
          clear hs hb HS3
          have hs := HS4.out
          go_wp2_with (first | (go_at_call 6; refine (HV.out _).mono ?_; rintro e wn ⟨rfl, hb⟩; have hs := St.below hb (by assumption); have ⟨⟨⟨q30z, q300, q301, q302⟩, _⟩, _, ⟨⟨q40z, q400, q401, q402, q403⟩, ⟨q41z, q410, q411, q412, q413⟩, _⟩, hbz⟩ := hs))
          go_ret
          exact ⟨rfl, St.out (by assumption)⟩
      · skip
        rcases f4 (by decide) with rfl | ⟨rfl, rfl, d⟩
        · clear f3 f4
          cases ok
          all_goals
            go_enter Try.func3, Try.ntmps3
            go_wp2_with fail
            refine (HC.out _).mono ?_
            rintro e w1 ⟨rfl, hb⟩
            have hs := St.below hb H0.out
            have ⟨⟨⟨q30z, q300, q301, q302⟩, _⟩, _, ⟨⟨q40z, q400, q401, q402, q403⟩, _⟩, hbz⟩ := hs
            have HS1 := hide hs
            clear hs hb
            go_wp2_with fail
            refine (HR.out _).mono ?_
            rintro e w2 ⟨rfl, hb⟩
            have hs := St.below hb HS1.out
            clear q30z q300 q301 q302 q40z q400 q401 q402 q403 hbz
            have ⟨⟨⟨q30z, q300, q301, q302⟩, _⟩, _, ⟨⟨q40z, q400, q401, q402, q403⟩, _⟩, hbz⟩ := hs
            have HS2 := hide (hs.box4 t' l' b' q' 26)
            clear hs hb HS1
            go_wp2_with fail
            refine (HW.out _).mono ?_
            rintro e w3 ⟨rfl, hb⟩
            have hs := St.below hb HS2.out
            clear q30z q300 q301 q302 q40z q400 q401 q402 q403 hbz
            have ⟨⟨⟨q30z, q300, q301, q302⟩, _⟩, _, ⟨⟨q40z, q400, q401, q402, q403⟩, ⟨q41z, q410, q411, q412, q413⟩, _⟩, hbz⟩ := hs
            have HS3 := hide hs
            clear hs hb HS2
            go_wp2_with fail
            refine (HN.out _).mono ?_
            rintro e w4 ⟨rfl, hb⟩
            have hs := St.below hb HS3.out
            clear q30z q300 q301 q302 q40z q400 q401 q402 q403 q41z q410 q411 q412 q413 hbz
            have ⟨⟨⟨q30z, q300, q301, q302⟩, _⟩, _, ⟨⟨q40z, q400, q401, q402, q403⟩, ⟨q41z, q410, q411, q412, q413⟩, _⟩, hbz⟩ := hs
            have HS4 := hide hs
            clear hs hb HS3
            have hs := HS4.out
            go_wp2_with (first | (go_at_call 6; refine (HV.out _).mono ?_; rintro e wn ⟨rfl, hb⟩; have hs := St.below hb (by assumption); have ⟨⟨⟨q30z, q300, q301, q302⟩, _⟩, _, ⟨⟨q40z, q400, q401, q402, q403⟩, ⟨q41z, q410, q411, q412, q413⟩, _⟩, hbz⟩ := hs))
            go_ret
            exact ⟨rfl, St.out (by assumption)⟩
        · have d' : now ≥ was := d
          clear f3 f4
          go_enter Try.func3, Try.ntmps3
          go_wp2_with fail
          refine (HC.out _).mono ?_
          rintro e w1 ⟨rfl, hb⟩
          have hs := St.below hb H0.out
          have ⟨⟨⟨q30z, q300, q301, q302⟩, _⟩, _, ⟨⟨q40z, q400, q401, q402, q403⟩, _⟩, hbz⟩ := hs
          have HS1 := hide hs
          clear hs hb
          go_wp2_with fail
          refine (HR.out _).mono ?_
          rintro e w2 ⟨rfl, hb⟩
          have hs := St.below hb HS1.out
          clear q30z q300 q301 q302 q40z q400 q401 q402 q403 hbz
          have ⟨⟨⟨q30z, q300, q301, q302⟩, _⟩, _, ⟨⟨q40z, q400, q401, q402, q403⟩, _⟩, hbz⟩ := hs
          have HS2 := hide (hs.box4 t' l' b' q' 26)
          clear hs hb HS1
          go_wp2_with fail
          refine (HW.out _).mono ?_
          rintro e w3 ⟨rfl, hb⟩
          have hs := St.below hb HS2.out
          clear q30z q300 q301 q302 q40z q400 q401 q402 q403 hbz
          have ⟨⟨⟨q30z, q300, q301, q302⟩, _⟩, _, ⟨⟨q40z, q400, q401, q402, q403⟩, ⟨q41z, q410, q411, q412, q413⟩, _⟩, hbz⟩ := hs
          have HS3 := hide hs
          clear hs hb HS2
          go_wp2_with fail
          refine (HN.out _).mono ?_
          rintro e w4 ⟨rfl, hb⟩
          have hs := St.below hb HS3.out
          clear q30z q300 q301 q302 q40z q400 q401 q402 q403 q41z q410 q411 q412 q413 hbz
          have ⟨⟨⟨q30z, q300, q301, q302⟩, _⟩, _, ⟨⟨q40z, q400, q401, q402, q403⟩, ⟨q41z, q410, q411, q412, q413⟩, _⟩, hbz⟩ := hs
          have HS4 := hide hs
          clear hs hb HS3
          have hs := HS4.out
          go_wp2_with (first | (go_at_call 6; refine (HV.out _).mono ?_; rintro e wn ⟨rfl, hb⟩; have hs := St.below hb (by assumption); have ⟨⟨⟨q30z, q300, q301, q302⟩, _⟩, _, ⟨⟨q40z, q400, q401, q402, q403⟩, ⟨q41z, q410, q411, q412, q413⟩, _⟩, hbz⟩ := hs))
          go_ret
          exact ⟨rfl, St.out (by assumption)⟩
      · skip
        rcases f3 (by decide) with ⟨rfl, d⟩ | ⟨rfl, d⟩
        · have d' : now ≤ was := by omega
          clear f3 f4
          go_enter Try.func3, Try.ntmps3
          go_wp2_with fail
          refine (HC.out _).mono ?_
          rintro e w1 ⟨rfl, hb⟩
          have hs := St.below hb H0.out
          have ⟨⟨⟨q30z, q300, q301, q302⟩, _⟩, _, ⟨⟨q40z, q400, q401, q402, q403⟩, _⟩, hbz⟩ := hs
          have HS1 := hide hs
          clear hs hb
          go_wp2_with fail
          refine (HR.out _).mono ?_
          rintro e w2 ⟨rfl, hb⟩
          have hs := St.below hb HS1.out
          clear q30z q300 q301 q302 q40z q400 q401 q402 q403 hbz
          have ⟨⟨⟨q30z, q300, q301, q302⟩, _⟩, _, ⟨⟨q40z, q400, q401, q402, q403⟩, _⟩, hbz⟩ := hs
          have HS2 := hide (hs.box4 t' l' b' q' 26)
          clear hs hb HS1
          go_wp2_with fail
          refine (HW.out _).mono ?_
          rintro e w3 ⟨rfl, hb⟩
          have hs := St.below hb HS2.out
          clear q30z q300 q301 q302 q40z q400 q401 q402 q403 hbz
          have ⟨⟨⟨q30z, q300, q301, q302⟩, _⟩, _, ⟨⟨q40z, q400, q401, q402, q403⟩, ⟨q41z, q410, q411, q412, q413⟩, _⟩, hbz⟩ := hs
          have HS3 := hide hs
          clear hs hb HS2
          go_wp2_with fail
          refine (HN.out _).mono ?_
          rintro e w4 ⟨rfl, hb⟩
          have hs := St.below hb HS3.out
          clear q30z q300 q301 q302 q40z q400 q401 q402 q403 q41z q410 q411 q412 q413 hbz
          have ⟨⟨⟨q30z, q300, q301, q302⟩, _⟩, _, ⟨⟨q40z, q400, q401, q402, q403⟩, ⟨q41z, q410, q411, q412, q413⟩, _⟩, hbz⟩ := hs
          have HS4 := hide hs
          clear hs hb HS3
          have hs := HS4.out
          go_wp2_with (first | (go_at_call 6; refine (HV.out _).mono ?_; rintro e wn ⟨rfl, hb⟩; have hs := St.below hb (by assumption); have ⟨⟨⟨q30z, q300, q301, q302⟩, _⟩, _, ⟨⟨q40z, q400, q401, q402, q403⟩, ⟨q41z, q410, q411, q412, q413⟩, _⟩, hbz⟩ := hs))
          go_ret
          exact ⟨rfl, St.out (by assumption)⟩
        · subst d
          have d1 : (now < now) = False := by simp
          have d2 : now ≤ now := Int.le_refl _
          clear f3 f4
          go_enter Try.func3, Try.ntmps3
          go_wp2_with fail
          refine (HC.out _).mono ?_
          rintro e w1 ⟨rfl, hb⟩
          have hs := St.below hb H0.out
          have ⟨⟨⟨q30z, q300, q301, q302⟩, _⟩, _, ⟨⟨q40z, q400, q401, q402, q403⟩, _⟩, hbz⟩ := hs
          have HS1 := hide hs
          clear hs hb
          go_wp2_with fail
          refine (HR.out _).mono ?_
          rintro e w2 ⟨rfl, hb⟩
          have hs := St.below hb HS1.out
          clear q30z q300 q301 q302 q40z q400 q401 q402 q403 hbz
          have ⟨⟨⟨q30z, q300, q301, q302⟩, _⟩, _, ⟨⟨q40z, q400, q401, q402, q403⟩, _⟩, hbz⟩ := hs
          have HS2 := hide (hs.box4 t' l' b' q' 26)
          clear hs hb HS1
          go_wp2_with fail
          refine (HW.out _).mono ?_
          rintro e w3 ⟨rfl, hb⟩
          have hs := St.below hb HS2.out
          clear q30z q300 q301 q302 q40z q400 q401 q402 q403 hbz
          have ⟨⟨⟨q30z, q300, q301, q302⟩, _⟩, _, ⟨⟨q40z, q400, q401, q402, q403⟩, ⟨q41z, q410, q411, q412, q413⟩, _⟩, hbz⟩ := hs
          have HS3 := hide hs
          clear hs hb HS2
          go_wp2_with fail
          refine (HN.out _).mono ?_
          rintro e w4 ⟨rfl, hb⟩
          have hs := St.below hb HS3.out
          clear q30z q300 q301 q302 q40z q400 q401 q402 q403 q41z q410 q411 q412 q413 hbz
          have ⟨⟨⟨q30z, q300, q301, q302⟩, _⟩, _, ⟨⟨q40z, q400, q401, q402, q403⟩, ⟨q41z, q410, q411, q412, q413⟩, _⟩, hbz⟩ := hs
          have HS4 := hide hs
          clear hs hb HS3
          have hs := HS4.out
          go_wp2_with (first | (go_at_call 6; refine (HV.out _).mono ?_; rintro e wn ⟨rfl, hb⟩; have hs := St.below hb (by assumption); have ⟨⟨⟨q30z, q300, q301, q302⟩, _⟩, _, ⟨⟨q40z, q400, q401, q402, q403⟩, ⟨q41z, q410, q411, q412, q413⟩, _⟩, hbz⟩ := hs))
          go_ret
          exact ⟨rfl, St.out (by assumption)⟩
end Go.Proofs.Ytkkoeanjmldmdab
