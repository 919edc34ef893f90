/-
  The walk of MoveInside: for every input it returns true. (By movegen.py.)
-/
import Derived.Test.YtkkoeanjmldmdaaMvLives
import Derived.Test.YtkkoeanjmldmdaaMvMath
namespace Go.Proofs.Ytkkoeanjmldmdaa
open Go.RowKit

set_option maxRecDepth 100000 in
set_option maxHeartbeats 2000000 in
theorem moveInside_walk (k a n t l b q r c : Int) (w : World) :
    Calls Try.prog 7 #[.agg #[.int .i64 k, .int .i64 a, .int .i64 n], .agg #[.int .i64 t, .int .i64 l, .int .i64 b, .int .i64 q], .agg #[.int .i64 r, .int .i64 c]] w fun e w' => e = .returned (.bool true) ∧ Below w.heap.size w w' := by
  have H0 : Hid (St w [(w.heap.size, k, a, n)] [(w.heap.size + 1 + 1, r, c)] [(w.heap.size + 1, t, l, b, q)] (((w.alloc (.cells #[.int .i64 k, .int .i64 a, .int .i64 n] 24)).alloc (.cells #[.int .i64 t, .int .i64 l, .int .i64 b, .int .i64 q] 42)).alloc (.cells #[.int .i64 r, .int .i64 c] 26))) := by
    have := ((((St.nil w).box3 k a n 24).box4 t l b q 42).box2 r c 26)
    show St _ _ _ _ _
    simpa using this
  have HV : Hid (∀ W : World, Calls Try.prog 15 #[] W fun e w' => e = .returned (.bool true) ∧ Below W.heap.size W w') := fun W => lives6_any W
  have HA : Hid (∀ W : World, Calls Try.prog 9 #[.agg #[.int .i64 k, .int .i64 a, .int .i64 n], .agg #[.int .i64 r, .int .i64 c]] W fun e w' => e = .returned (.tuple #[.agg #[.int .i64 ((spotR k a n r c).1), .int .i64 ((spotR k a n r c).2.1)], .int .i64 ((spotR k a n r c).2.2.1), .int .i64 ((spotR k a n r c).2.2.2)]) ∧ Below W.heap.size W w') := fun W => spot_any k a n r c W
  have HR : Hid (∀ W : World, Calls Try.prog 16 #[.agg #[.int .i64 k, .int .i64 a, .int .i64 n], .agg #[.int .i64 t, .int .i64 l, .int .i64 b, .int .i64 q]] W fun e w' => e = .returned (.tuple #[.agg #[.int .i64 ((rectR k a n t l b q).1), .int .i64 ((rectR k a n t l b q).2.1), .int .i64 ((rectR k a n t l b q).2.2.1), .int .i64 ((rectR k a n t l b q).2.2.2.1)], .bool ((rectR k a n t l b q).2.2.2.2.1), .int .i64 ((rectR k a n t l b q).2.2.2.2.2)]) ∧ Below W.heap.size W w') := fun W => rect_any k a n t l b q W
  rcases spot_cases k a n r c with ⟨ea, _⟩ | ⟨_, _, f, hf, ea⟩ | hst
  · rw [ea] at HA
    clear ea
    generalize (rectR k a n t l b q).1 = t' at *
    generalize (rectR k a n t l b q).2.1 = l' at *
    generalize (rectR k a n t l b q).2.2.1 = b' at *
    generalize (rectR k a n t l b q).2.2.2.1 = q' at *
    generalize (rectR k a n t l b q).2.2.2.2.1 = ok at *
    generalize (rectR k a n t l b q).2.2.2.2.2 = z at *
    go_enter Try.func7, Try.ntmps7
    go_wp2_with fail
    refine (HA.out _).mono ?_
    rintro e w1 ⟨rfl, hb⟩
    have hs := St.below hb H0.out
    have ⟨⟨⟨q30z, q300, q301, q302⟩, _⟩, ⟨⟨q20z, q200, q201⟩, _⟩, ⟨⟨q40z, q400, q401, q402, q403⟩, _⟩, hbz⟩ := hs
    have HS1 := hide (hs.box2 0 0 26)
    clear hs hb
    go_wp2_with fail
    refine (HR.out _).mono ?_
    rintro e w2 ⟨rfl, hb⟩
    have hs := St.below hb HS1.out
    clear q30z q300 q301 q302 q20z q200 q201 q40z q400 q401 q402 q403 hbz
    have ⟨⟨⟨q30z, q300, q301, q302⟩, _⟩, ⟨⟨q20z, q200, q201⟩, ⟨q21z, q210, q211⟩, _⟩, ⟨⟨q40z, q400, q401, q402, q403⟩, _⟩, hbz⟩ := hs
    have HS2 := hide (hs.box4 t' l' b' q' 42)
    clear hs hb HS1
    have hs := HS2.out
    go_wp2_with (first | (go_at_call 15; refine (HV.out _).mono ?_; rintro e wn ⟨rfl, hb⟩; have hs := St.below hb (by assumption); have ⟨⟨⟨q30z, q300, q301, q302⟩, _⟩, ⟨⟨q20z, q200, q201⟩, ⟨q21z, q210, q211⟩, _⟩, ⟨⟨q40z, q400, q401, q402, q403⟩, ⟨q41z, q410, q411, q412, q413⟩, _⟩, hbz⟩ := hs))
    go_ret
    exact ⟨rfl, St.out (by assumption)⟩
  · rw [ea] at HA
    have e0 : (f == 0) = false := by rw [beq_eq_false_iff_ne]; omega
    clear ea hf
    have hz : (rectR k a n t l b q).2.2.2.2.2 = 0 ∨ (rectR k a n t l b q).2.2.2.2.2 = 2 := by
      rcases rect_cases k a n t l b q with ⟨e, _⟩ | ⟨_, _, _, _, e, _⟩ | ⟨_, _, _, _, e, _⟩ | ⟨_, _, _, _, e, _⟩ | ⟨_, _, _, _, e, _⟩ <;> rw [e] <;> simp
    generalize (rectR k a n t l b q).1 = t' at *
    generalize (rectR k a n t l b q).2.1 = l' at *
    generalize (rectR k a n t l b q).2.2.1 = b' at *
    generalize (rectR k a n t l b q).2.2.2.1 = q' at *
    generalize (rectR k a n t l b q).2.2.2.2.1 = ok at *
    generalize (rectR k a n t l b q).2.2.2.2.2 = z at *
    rcases hz with rfl | rfl
    · skip
      go_enter Try.func7, Try.ntmps7
      go_wp2_with fail
      refine (HA.out _).mono ?_
      rintro e w1 ⟨rfl, hb⟩
      have hs := St.below hb H0.out
      have ⟨⟨⟨q30z, q300, q301, q302⟩, _⟩, ⟨⟨q20z, q200, q201⟩, _⟩, ⟨⟨q40z, q400, q401, q402, q403⟩, _⟩, hbz⟩ := hs
      have HS1 := hide (hs.box2 0 0 26)
      clear hs hb
      go_wp2_with fail
      refine (HR.out _).mono ?_
      rintro e w2 ⟨rfl, hb⟩
      have hs := St.below hb HS1.out
      clear q30z q300 q301 q302 q20z q200 q201 q40z q400 q401 q402 q403 hbz
      have ⟨⟨⟨q30z, q300, q301, q302⟩, _⟩, ⟨⟨q20z, q200, q201⟩, ⟨q21z, q210, q211⟩, _⟩, ⟨⟨q40z, q400, q401, q402, q403⟩, _⟩, hbz⟩ := hs
      have HS2 := hide (hs.box4 t' l' b' q' 42)
      clear hs hb HS1
      have hs := HS2.out
      go_wp2_with (first | (go_at_call 15; refine (HV.out _).mono ?_; rintro e wn ⟨rfl, hb⟩; have hs := St.below hb (by assumption); have ⟨⟨⟨q30z, q300, q301, q302⟩, _⟩, ⟨⟨q20z, q200, q201⟩, ⟨q21z, q210, q211⟩, _⟩, ⟨⟨q40z, q400, q401, q402, q403⟩, ⟨q41z, q410, q411, q412, q413⟩, _⟩, hbz⟩ := hs))
      go_ret
      exact ⟨rfl, St.out (by assumption)⟩
    · skip
      go_enter Try.func7, Try.ntmps7
      go_wp2_with fail
      refine (HA.out _).mono ?_
      rintro e w1 ⟨rfl, hb⟩
      have hs := St.below hb H0.out
      have ⟨⟨⟨q30z, q300, q301, q302⟩, _⟩, ⟨⟨q20z, q200, q201⟩, _⟩, ⟨⟨q40z, q400, q401, q402, q403⟩, _⟩, hbz⟩ := hs
      have HS1 := hide (hs.box2 0 0 26)
      clear hs hb
      go_wp2_with fail
      refine (HR.out _).mono ?_
      rintro e w2 ⟨rfl, hb⟩
      have hs := St.below hb HS1.out
      clear q30z q300 q301 q302 q20z q200 q201 q40z q400 q401 q402 q403 hbz
      have ⟨⟨⟨q30z, q300, q301, q302⟩, _⟩, ⟨⟨q20z, q200, q201⟩, ⟨q21z, q210, q211⟩, _⟩, ⟨⟨q40z, q400, q401, q402, q403⟩, _⟩, hbz⟩ := hs
      have HS2 := hide (hs.box4 t' l' b' q' 42)
      clear hs hb HS1
      have hs := HS2.out
      go_wp2_with (first | (go_at_call 15; refine (HV.out _).mono ?_; rintro e wn ⟨rfl, hb⟩; have hs := St.below hb (by assumption); have ⟨⟨⟨q30z, q300, q301, q302⟩, _⟩, ⟨⟨q20z, q200, q201⟩, ⟨q21z, q210, q211⟩, _⟩, ⟨⟨q40z, q400, q401, q402, q403⟩, ⟨q41z, q410, q411, q412, q413⟩, _⟩, hbz⟩ := hs))
      go_ret
      exact ⟨rfl, St.out (by assumption)⟩
  · have ea : ∃ x y, spotR k a n r c = (x, y, 0, 0) := by
      rcases hst with ⟨_, _, _, _, e⟩ | ⟨_, _, _, _, e⟩ <;> exact ⟨_, _, e⟩
    obtain ⟨x, y, ea⟩ := ea
    rw [ea] at HA
    clear hst
    have hr : rectR k a n t l b q = (0, 0, 0, 0, false, 2) ∨ (∃ t' l' b' q', rectR k a n t l b q = (t', l', b', q', false, 0)) ∨ ∃ t' l' b' q', rectR k a n t l b q = (t', l', b', q', true, 0) := by
      rcases rect_cases k a n t l b q with ⟨e, _⟩ | ⟨_, _, _, _, e, _⟩ | ⟨_, _, _, _, e, _⟩ | ⟨_, _, _, _, e, _⟩ | ⟨_, _, _, _, e, _⟩
      · exact Or.inl e
      · exact Or.inr (Or.inl ⟨_, _, _, _, e⟩)
      · exact Or.inr (Or.inl ⟨_, _, _, _, e⟩)
      · exact Or.inr (Or.inr ⟨_, _, _, _, e⟩)
      · exact Or.inr (Or.inr ⟨_, _, _, _, e⟩)
    rcases hr with er | ⟨t', l', b', q', er⟩ | ⟨t', l', b', q', er⟩
    · rw [er] at HR
      clear ea er
      go_enter Try.func7, Try.ntmps7
      go_wp2_with fail
      refine (HA.out _).mono ?_
      rintro e w1 ⟨rfl, hb⟩
      have hs := St.below hb H0.out
      have ⟨⟨⟨q30z, q300, q301, q302⟩, _⟩, ⟨⟨q20z, q200, q201⟩, _⟩, ⟨⟨q40z, q400, q401, q402, q403⟩, _⟩, hbz⟩ := hs
      have HS1 := hide (hs.box2 x y 26)
      clear hs hb
      go_wp2_with fail
      refine (HR.out _).mono ?_
      rintro e w2 ⟨rfl, hb⟩
      have hs := St.below hb HS1.out
      clear q30z q300 q301 q302 q20z q200 q201 q40z q400 q401 q402 q403 hbz
      have ⟨⟨⟨q30z, q300, q301, q302⟩, _⟩, ⟨⟨q20z, q200, q201⟩, ⟨q21z, q210, q211⟩, _⟩, ⟨⟨q40z, q400, q401, q402, q403⟩, _⟩, hbz⟩ := hs
      have HS2 := hide (hs.box4 0 0 0 0 42)
      clear hs hb HS1
      have hs := HS2.out
      go_wp2_with (first | (go_at_call 15; refine (HV.out _).mono ?_; rintro e wn ⟨rfl, hb⟩; have hs := St.below hb (by assumption); have ⟨⟨⟨q30z, q300, q301, q302⟩, _⟩, ⟨⟨q20z, q200, q201⟩, ⟨q21z, q210, q211⟩, _⟩, ⟨⟨q40z, q400, q401, q402, q403⟩, ⟨q41z, q410, q411, q412, q413⟩, _⟩, hbz⟩ := hs))
      go_ret
      exact ⟨rfl, St.out (by assumption)⟩
    · rw [er] at HR
      obtain ⟨i1, rfl, rfl, rfl, rfl⟩ := inside_no ea er
      have HI : Hid (∀ W : World, Calls Try.prog 20 #[.agg #[.int .i64 t, .int .i64 l, .int .i64 b, .int .i64 q], .agg #[.int .i64 r, .int .i64 c]] W fun e w' => e = .returned (.bool false) ∧ Below W.heap.size W w') := fun W => by have := in_any t l b q r c W; rw [i1] at this; exact this
      have HC : Hid (∀ W : World, Calls Try.prog 21 #[.agg #[.int .i64 0, .int .i64 0, .int .i64 0, .int .i64 0]] W fun e w' => e = .returned (.int .i64 2) ∧ Below W.heap.size W w') := fun W => by exact check_any 0 0 0 0 W
      clear ea er i1
      go_enter Try.func7, Try.ntmps7
      go_wp2_with fail
      refine (HA.out _).mono ?_
      rintro e w1 ⟨rfl, hb⟩
      have hs := St.below hb H0.out
      have ⟨⟨⟨q30z, q300, q301, q302⟩, _⟩, ⟨⟨q20z, q200, q201⟩, _⟩, ⟨⟨q40z, q400, q401, q402, q403⟩, _⟩, hbz⟩ := hs
      have HS1 := hide (hs.box2 x y 26)
      clear hs hb
      go_wp2_with fail
      refine (HR.out _).mono ?_
      rintro e w2 ⟨rfl, hb⟩
      have hs := St.below hb HS1.out
      clear q30z q300 q301 q302 q20z q200 q201 q40z q400 q401 q402 q403 hbz
      have ⟨⟨⟨q30z, q300, q301, q302⟩, _⟩, ⟨⟨q20z, q200, q201⟩, ⟨q21z, q210, q211⟩, _⟩, ⟨⟨q40z, q400, q401, q402, q403⟩, _⟩, hbz⟩ := hs
      have HS2 := hide (hs.box4 0 0 0 0 42)
      clear hs hb HS1
      have hs := HS2.out
      go_wp2_with (first | (go_at_call_of 20 [Value.agg #[Value.int IntKind.i64 t, Value.int IntKind.i64 l, Value.int IntKind.i64 b, Value.int IntKind.i64 q], Value.agg #[Value.int IntKind.i64 r, Value.int IntKind.i64 c]]; refine (HI.out _).mono ?_; rintro e wn ⟨rfl, hb⟩; have hs := St.below hb (by assumption); have ⟨⟨⟨q30z, q300, q301, q302⟩, _⟩, ⟨⟨q20z, q200, q201⟩, ⟨q21z, q210, q211⟩, _⟩, ⟨⟨q40z, q400, q401, q402, q403⟩, ⟨q41z, q410, q411, q412, q413⟩, _⟩, hbz⟩ := hs) | (go_at_call 21; refine (HC.out _).mono ?_; rintro e wn ⟨rfl, hb⟩; have hs := St.below hb (by assumption); have ⟨⟨⟨q30z, q300, q301, q302⟩, _⟩, ⟨⟨q20z, q200, q201⟩, ⟨q21z, q210, q211⟩, _⟩, ⟨⟨q40z, q400, q401, q402, q403⟩, ⟨q41z, q410, q411, q412, q413⟩, _⟩, hbz⟩ := hs) | (go_at_call 15; refine (HV.out _).mono ?_; rintro e wn ⟨rfl, hb⟩; have hs := St.below hb (by assumption); have ⟨⟨⟨q30z, q300, q301, q302⟩, _⟩, ⟨⟨q20z, q200, q201⟩, ⟨q21z, q210, q211⟩, _⟩, ⟨⟨q40z, q400, q401, q402, q403⟩, ⟨q41z, q410, q411, q412, q413⟩, _⟩, hbz⟩ := hs))
      go_ret
      exact ⟨rfl, St.out (by assumption)⟩
    · rw [er] at HR
      obtain ⟨i1, i2⟩ := inside_yes ea er
      have HI : Hid (∀ W : World, Calls Try.prog 20 #[.agg #[.int .i64 t, .int .i64 l, .int .i64 b, .int .i64 q], .agg #[.int .i64 r, .int .i64 c]] W fun e w' => e = .returned (.bool (inB t l b q r c)) ∧ Below W.heap.size W w') := fun W => by exact in_any t l b q r c W
      have HJ : Hid (∀ W : World, Calls Try.prog 20 #[.agg #[.int .i64 t', .int .i64 l', .int .i64 b', .int .i64 q'], .agg #[.int .i64 x, .int .i64 y]] W fun e w' => e = .returned (.bool (inB t l b q r c)) ∧ Below W.heap.size W w') := fun W => by have := in_any t' l' b' q' x y W; rw [i2] at this; exact this
      have HC : Hid (∀ W : World, Calls Try.prog 21 #[.agg #[.int .i64 t', .int .i64 l', .int .i64 b', .int .i64 q']] W fun e w' => e = .returned (.int .i64 0) ∧ Below W.heap.size W w') := fun W => by have := check_any t' l' b' q' W; rw [checkR_yes i1] at this; exact this
      clear ea er i1 i2
      cases hi : inB t l b q r c
      · rw [hi] at HI HJ
        clear hi
        go_enter Try.func7, Try.ntmps7
        go_wp2_with fail
        refine (HA.out _).mono ?_
        rintro e w1 ⟨rfl, hb⟩
        have hs := St.below hb H0.out
        have ⟨⟨⟨q30z, q300, q301, q302⟩, _⟩, ⟨⟨q20z, q200, q201⟩, _⟩, ⟨⟨q40z, q400, q401, q402, q403⟩, _⟩, hbz⟩ := hs
        have HS1 := hide (hs.box2 x y 26)
        clear hs hb
        go_wp2_with fail
        refine (HR.out _).mono ?_
        rintro e w2 ⟨rfl, hb⟩
        have hs := St.below hb HS1.out
        clear q30z q300 q301 q302 q20z q200 q201 q40z q400 q401 q402 q403 hbz
        have ⟨⟨⟨q30z, q300, q301, q302⟩, _⟩, ⟨⟨q20z, q200, q201⟩, ⟨q21z, q210, q211⟩, _⟩, ⟨⟨q40z, q400, q401, q402, q403⟩, _⟩, hbz⟩ := hs
        have HS2 := hide (hs.box4 t' l' b' q' 42)
        clear hs hb HS1
        have hs := HS2.out
        go_wp2_with (first | (go_at_call_of 20 [Value.agg #[Value.int IntKind.i64 t, Value.int IntKind.i64 l, Value.int IntKind.i64 b, Value.int IntKind.i64 q], Value.agg #[Value.int IntKind.i64 r, Value.int IntKind.i64 c]]; refine (HI.out _).mono ?_; rintro e wn ⟨rfl, hb⟩; have hs := St.below hb (by assumption); have ⟨⟨⟨q30z, q300, q301, q302⟩, _⟩, ⟨⟨q20z, q200, q201⟩, ⟨q21z, q210, q211⟩, _⟩, ⟨⟨q40z, q400, q401, q402, q403⟩, ⟨q41z, q410, q411, q412, q413⟩, _⟩, hbz⟩ := hs) | (go_at_call_of 20 [Value.agg #[Value.int IntKind.i64 t', Value.int IntKind.i64 l', Value.int IntKind.i64 b', Value.int IntKind.i64 q'], Value.agg #[Value.int IntKind.i64 x, Value.int IntKind.i64 y]]; refine (HJ.out _).mono ?_; rintro e wn ⟨rfl, hb⟩; have hs := St.below hb (by assumption); have ⟨⟨⟨q30z, q300, q301, q302⟩, _⟩, ⟨⟨q20z, q200, q201⟩, ⟨q21z, q210, q211⟩, _⟩, ⟨⟨q40z, q400, q401, q402, q403⟩, ⟨q41z, q410, q411, q412, q413⟩, _⟩, hbz⟩ := hs) | (go_at_call 21; refine (HC.out _).mono ?_; rintro e wn ⟨rfl, hb⟩; have hs := St.below hb (by assumption); have ⟨⟨⟨q30z, q300, q301, q302⟩, _⟩, ⟨⟨q20z, q200, q201⟩, ⟨q21z, q210, q211⟩, _⟩, ⟨⟨q40z, q400, q401, q402, q403⟩, ⟨q41z, q410, q411, q412, q413⟩, _⟩, hbz⟩ := hs) | (go_at_call 15; refine (HV.out _).mono ?_; rintro e wn ⟨rfl, hb⟩; have hs := St.below hb (by assumption); have ⟨⟨⟨q30z, q300, q301, q302⟩, _⟩, ⟨⟨q20z, q200, q201⟩, ⟨q21z, q210, q211⟩, _⟩, ⟨⟨q40z, q400, q401, q402, q403⟩, ⟨q41z, q410, q411, q412, q413⟩, _⟩, hbz⟩ := hs))
        go_ret
        exact ⟨rfl, St.out (by assumption)⟩
      · rw [hi] at HI HJ
        clear hi
        go_enter Try.func7, Try.ntmps7
        go_wp2_with fail
        refine (HA.out _).mono ?_
        rintro e w1 ⟨rfl, hb⟩
        have hs := St.below hb H0.out
        have ⟨⟨⟨q30z, q300, q301, q302⟩, _⟩, ⟨⟨q20z, q200, q201⟩, _⟩, ⟨⟨q40z, q400, q401, q402, q403⟩, _⟩, hbz⟩ := hs
        have HS1 := hide (hs.box2 x y 26)
        clear hs hb
        go_wp2_with fail
        refine (HR.out _).mono ?_
        rintro e w2 ⟨rfl, hb⟩
        have hs := St.below hb HS1.out
        clear q30z q300 q301 q302 q20z q200 q201 q40z q400 q401 q402 q403 hbz
        have ⟨⟨⟨q30z, q300, q301, q302⟩, _⟩, ⟨⟨q20z, q200, q201⟩, ⟨q21z, q210, q211⟩, _⟩, ⟨⟨q40z, q400, q401, q402, q403⟩, _⟩, hbz⟩ := hs
        have HS2 := hide (hs.box4 t' l' b' q' 42)
        clear hs hb HS1
        have hs := HS2.out
        go_wp2_with (first | (go_at_call_of 20 [Value.agg #[Value.int IntKind.i64 t, Value.int IntKind.i64 l, Value.int IntKind.i64 b, Value.int IntKind.i64 q], Value.agg #[Value.int IntKind.i64 r, Value.int IntKind.i64 c]]; refine (HI.out _).mono ?_; rintro e wn ⟨rfl, hb⟩; have hs := St.below hb (by assumption); have ⟨⟨⟨q30z, q300, q301, q302⟩, _⟩, ⟨⟨q20z, q200, q201⟩, ⟨q21z, q210, q211⟩, _⟩, ⟨⟨q40z, q400, q401, q402, q403⟩, ⟨q41z, q410, q411, q412, q413⟩, _⟩, hbz⟩ := hs) | (go_at_call_of 20 [Value.agg #[Value.int IntKind.i64 t', Value.int IntKind.i64 l', Value.int IntKind.i64 b', Value.int IntKind.i64 q'], Value.agg #[Value.int IntKind.i64 x, Value.int IntKind.i64 y]]; refine (HJ.out _).mono ?_; rintro e wn ⟨rfl, hb⟩; have hs := St.below hb (by assumption); have ⟨⟨⟨q30z, q300, q301, q302⟩, _⟩, ⟨⟨q20z, q200, q201⟩, ⟨q21z, q210, q211⟩, _⟩, ⟨⟨q40z, q400, q401, q402, q403⟩, ⟨q41z, q410, q411, q412, q413⟩, _⟩, hbz⟩ := hs) | (go_at_call 21; refine (HC.out _).mono ?_; rintro e wn ⟨rfl, hb⟩; have hs := St.below hb (by assumption); have ⟨⟨⟨q30z, q300, q301, q302⟩, _⟩, ⟨⟨q20z, q200, q201⟩, ⟨q21z, q210, q211⟩, _⟩, ⟨⟨q40z, q400, q401, q402, q403⟩, ⟨q41z, q410, q411, q412, q413⟩, _⟩, hbz⟩ := hs) | (go_at_call 15; refine (HV.out _).mono ?_; rintro e wn ⟨rfl, hb⟩; have hs := St.below hb (by assumption); have ⟨⟨⟨q30z, q300, q301, q302⟩, _⟩, ⟨⟨q20z, q200, q201⟩, ⟨q21z, q210, q211⟩, _⟩, ⟨⟨q40z, q400, q401, q402, q403⟩, ⟨q41z, q410, q411, q412, q413⟩, _⟩, hbz⟩ := hs))
        go_ret
        exact ⟨rfl, St.out (by assumption)⟩
end Go.Proofs.Ytkkoeanjmldmdaa
