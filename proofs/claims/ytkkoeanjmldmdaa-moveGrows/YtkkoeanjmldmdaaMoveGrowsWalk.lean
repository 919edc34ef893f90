/-
  The walk of MoveGrows: for every input it returns true. (By movegen.py.)
-/
import Derived.Test.YtkkoeanjmldmdaaMvLives
import Derived.Test.YtkkoeanjmldmdaaMvMath
import Derived.Test.YtkkoeanjmldmdaaRegion
namespace Go.Proofs.Ytkkoeanjmldmdaa
open Go.RowKit

set_option maxRecDepth 100000 in
set_option maxHeartbeats 2000000 in
theorem moveGrows_walk (t l b q p n i : Int) (w : World) :
    Calls Try.prog 8 #[.agg #[.int .i64 t, .int .i64 l, .int .i64 b, .int .i64 q], .int .i64 p, .int .i64 n, .int .i64 i] w fun e w' => e = .returned (.bool true) ∧ Below w.heap.size w w' := by
  have H0 : Hid (St w [(w.heap.size + 1, 1, p, n)] [] [(w.heap.size, t, l, b, q)] ((w.alloc (.cells #[.int .i64 t, .int .i64 l, .int .i64 b, .int .i64 q] 42)).alloc (.cells #[.int .i64 1, .int .i64 p, .int .i64 n] 24))) := by
    have := (((St.nil w).box4 t l b q 42).box3 1 p n 24)
    show St _ _ _ _ _
    simpa using this
  have HV : Hid (∀ W : World, Calls Try.prog 15 #[] W fun e w' => e = .returned (.bool true) ∧ Below W.heap.size W w') := fun W => lives6_any W
  have HR : Hid (∀ W : World, Calls Try.prog 16 #[.agg #[.int .i64 1, .int .i64 p, .int .i64 n], .agg #[.int .i64 t, .int .i64 l, .int .i64 b, .int .i64 q]] W fun e w' => e = .returned (.tuple #[.agg #[.int .i64 ((rectR 1 p n t l b q).1), .int .i64 ((rectR 1 p n t l b q).2.1), .int .i64 ((rectR 1 p n t l b q).2.2.1), .int .i64 ((rectR 1 p n t l b q).2.2.2.1)], .bool ((rectR 1 p n t l b q).2.2.2.2.1), .int .i64 ((rectR 1 p n t l b q).2.2.2.2.2)]) ∧ Below W.heap.size W w') := fun W => rect_any 1 p n t l b q W
  have HC : Hid (∀ W : World, Calls Try.prog 18 #[.agg #[.int .i64 1, .int .i64 p, .int .i64 n], .agg #[.int .i64 t, .int .i64 l, .int .i64 b, .int .i64 q]] W fun e w' => e = .returned (.tuple #[.bool ((clipR 1 p n t l b q).1), .int .i64 ((clipR 1 p n t l b q).2)]) ∧ Below W.heap.size W w') := fun W => clips_any 1 p n t l b q W
  have hr : (rectR 1 p n t l b q = (0, 0, 0, 0, false, 2)) ∨ (rectR 1 p n t l b q = (0, 0, 0, 0, false, 0)) ∨ ∃ t' l' b' q', rectR 1 p n t l b q = (t', l', b', q', true, 0) := by
    rcases rect_cases 1 p n t l b q with ⟨e, _⟩ | ⟨_, _, _, _, e, _⟩ | ⟨_, _, _, _, e, _⟩ | ⟨_, _, _, _, e, _⟩ | ⟨_, _, _, _, e, _⟩
    · exact Or.inl e
    · exact Or.inr (Or.inl e)
    · exact Or.inr (Or.inl e)
    · exact Or.inr (Or.inr ⟨_, _, _, _, e⟩)
    · exact Or.inr (Or.inr ⟨_, _, _, _, e⟩)
  rcases hr with er | er | ⟨t', l', b', q', er⟩
  · rw [er] at HR
    clear er
    generalize (clipR 1 p n t l b q).1 = cb at *
    generalize (clipR 1 p n t l b q).2 = ce at *
    go_enter Try.func8, Try.ntmps8
    go_wp2_with fail
    refine (HR.out _).mono ?_
    rintro e w1 ⟨rfl, hb⟩
    have hs := St.below hb H0.out
    have ⟨⟨⟨q30z, q300, q301, q302⟩, _⟩, _, ⟨⟨q40z, q400, q401, q402, q403⟩, _⟩, hbz⟩ := hs
    have HS1 := hide (hs.box4 0 0 0 0 42)
    clear hs hb
    go_wp2_with fail
    refine (HC.out _).mono ?_
    rintro e w2 ⟨rfl, hb⟩
    have hs := St.below hb HS1.out
    clear q30z q300 q301 q302 q40z q400 q401 q402 q403 hbz
    have ⟨⟨⟨q30z, q300, q301, q302⟩, _⟩, _, ⟨⟨q40z, q400, q401, q402, q403⟩, ⟨q41z, q410, q411, q412, q413⟩, _⟩, hbz⟩ := hs
    have HS2 := hide hs
    clear hs hb HS1
    have hs := HS2.out
    go_wp2_with (first | (go_at_call 15; refine (HV.out _).mono ?_; rintro e wn ⟨rfl, hb⟩; have hs := St.below hb (by assumption); have ⟨⟨⟨q30z, q300, q301, q302⟩, _⟩, _, ⟨⟨q40z, q400, q401, q402, q403⟩, ⟨q41z, q410, q411, q412, q413⟩, _⟩, hbz⟩ := hs))
    go_ret
    exact ⟨rfl, St.out (by assumption)⟩
  · rw [er] at HR
    clear er
    generalize (clipR 1 p n t l b q).1 = cb at *
    generalize (clipR 1 p n t l b q).2 = ce at *
    go_enter Try.func8, Try.ntmps8
    go_wp2_with fail
    refine (HR.out _).mono ?_
    rintro e w1 ⟨rfl, hb⟩
    have hs := St.below hb H0.out
    have ⟨⟨⟨q30z, q300, q301, q302⟩, _⟩, _, ⟨⟨q40z, q400, q401, q402, q403⟩, _⟩, hbz⟩ := hs
    have HS1 := hide (hs.box4 0 0 0 0 42)
    clear hs hb
    go_wp2_with fail
    refine (HC.out _).mono ?_
    rintro e w2 ⟨rfl, hb⟩
    have hs := St.below hb HS1.out
    clear q30z q300 q301 q302 q40z q400 q401 q402 q403 hbz
    have ⟨⟨⟨q30z, q300, q301, q302⟩, _⟩, _, ⟨⟨q40z, q400, q401, q402, q403⟩, ⟨q41z, q410, q411, q412, q413⟩, _⟩, hbz⟩ := hs
    have HS2 := hide hs
    clear hs hb HS1
    have hs := HS2.out
    go_wp2_with (first | (go_at_call 15; refine (HV.out _).mono ?_; rintro e wn ⟨rfl, hb⟩; have hs := St.below hb (by assumption); have ⟨⟨⟨q30z, q300, q301, q302⟩, _⟩, _, ⟨⟨q40z, q400, q401, q402, q403⟩, ⟨q41z, q410, q411, q412, q413⟩, _⟩, hbz⟩ := hs))
    go_ret
    exact ⟨rfl, St.out (by assumption)⟩
  · rw [er] at HR
    cases hc : (clipR 1 p n t l b q).1
    · by_cases h0 : i < 0
      · rw [hc] at HC
        clear er hc
        generalize (clipR 1 p n t l b q).2 = ce at *
        go_enter Try.func8, Try.ntmps8
        go_wp2_with fail
        refine (HR.out _).mono ?_
        rintro e w1 ⟨rfl, hb⟩
        have hs := St.below hb H0.out
        have ⟨⟨⟨q30z, q300, q301, q302⟩, _⟩, _, ⟨⟨q40z, q400, q401, q402, q403⟩, _⟩, hbz⟩ := hs
        have HS1 := hide (hs.box4 t' l' b' q' 42)
        clear hs hb
        go_wp2_with fail
        refine (HC.out _).mono ?_
        rintro e w2 ⟨rfl, hb⟩
        have hs := St.below hb HS1.out
        clear q30z q300 q301 q302 q40z q400 q401 q402 q403 hbz
        have ⟨⟨⟨q30z, q300, q301, q302⟩, _⟩, _, ⟨⟨q40z, q400, q401, q402, q403⟩, ⟨q41z, q410, q411, q412, q413⟩, _⟩, hbz⟩ := hs
        have HS2 := hide hs
        clear hs hb HS1
        have hs := HS2.out
        go_wp2_with (first | (go_at_call 15; refine (HV.out _).mono ?_; rintro e wn ⟨rfl, hb⟩; have hs := St.below hb (by assumption); have ⟨⟨⟨q30z, q300, q301, q302⟩, _⟩, _, ⟨⟨q40z, q400, q401, q402, q403⟩, ⟨q41z, q410, q411, q412, q413⟩, _⟩, hbz⟩ := hs))
        go_ret
        exact ⟨rfl, St.out (by assumption)⟩
      · by_cases h1 : i ≥ n
        · rw [hc] at HC
          clear er hc
          generalize (clipR 1 p n t l b q).2 = ce at *
          go_enter Try.func8, Try.ntmps8
          go_wp2_with fail
          refine (HR.out _).mono ?_
          rintro e w1 ⟨rfl, hb⟩
          have hs := St.below hb H0.out
          have ⟨⟨⟨q30z, q300, q301, q302⟩, _⟩, _, ⟨⟨q40z, q400, q401, q402, q403⟩, _⟩, hbz⟩ := hs
          have HS1 := hide (hs.box4 t' l' b' q' 42)
          clear hs hb
          go_wp2_with fail
          refine (HC.out _).mono ?_
          rintro e w2 ⟨rfl, hb⟩
          have hs := St.below hb HS1.out
          clear q30z q300 q301 q302 q40z q400 q401 q402 q403 hbz
          have ⟨⟨⟨q30z, q300, q301, q302⟩, _⟩, _, ⟨⟨q40z, q400, q401, q402, q403⟩, ⟨q41z, q410, q411, q412, q413⟩, _⟩, hbz⟩ := hs
          have HS2 := hide hs
          clear hs hb HS1
          have hs := HS2.out
          go_wp2_with (first | (go_at_call 15; refine (HV.out _).mono ?_; rintro e wn ⟨rfl, hb⟩; have hs := St.below hb (by assumption); have ⟨⟨⟨q30z, q300, q301, q302⟩, _⟩, _, ⟨⟨q40z, q400, q401, q402, q403⟩, ⟨q41z, q410, q411, q412, q413⟩, _⟩, hbz⟩ := hs))
          go_ret
          exact ⟨rfl, St.out (by assumption)⟩
        · obtain ⟨g1, g2, g3, g4, g5, g6⟩ := grows er hc (i := i) (by omega) (by omega)
          rw [hc] at HC
          have u1 : IntKind.i64.wrap (p + i) = p + i := wrapI (by omega) (by omega)
          have HI : Hid (∀ W : World, Calls Try.prog 20 #[.agg #[.int .i64 t', .int .i64 l', .int .i64 b', .int .i64 q'], .agg #[.int .i64 ((p + i)), .int .i64 l']] W fun e w' => e = .returned (.bool (decide (t < p) && decide (p ≤ b))) ∧ Below W.heap.size W w') := fun W => by have := in_any t' l' b' q' (p + i) l' W; rw [g1] at this; exact this
          have s1 : (l' == l) = true := by rw [g2]; simp
          have s2 : (q' == q) = true := by rw [g3]; simp
          clear er hc g1 g2 g3 g4 g5 g6
          generalize (clipR 1 p n t l b q).2 = ce at *
          by_cases d1 : t < p
          · by_cases d2 : p ≤ b
            · rw [decide_eq_true d1, decide_eq_true d2, Bool.and_self] at HI
              go_enter Try.func8, Try.ntmps8
              go_wp2_with fail
              refine (HR.out _).mono ?_
              rintro e w1 ⟨rfl, hb⟩
              have hs := St.below hb H0.out
              have ⟨⟨⟨q30z, q300, q301, q302⟩, _⟩, _, ⟨⟨q40z, q400, q401, q402, q403⟩, _⟩, hbz⟩ := hs
              have HS1 := hide (hs.box4 t' l' b' q' 42)
              clear hs hb
              go_wp2_with fail
              refine (HC.out _).mono ?_
              rintro e w2 ⟨rfl, hb⟩
              have hs := St.below hb HS1.out
              clear q30z q300 q301 q302 q40z q400 q401 q402 q403 hbz
              have ⟨⟨⟨q30z, q300, q301, q302⟩, _⟩, _, ⟨⟨q40z, q400, q401, q402, q403⟩, ⟨q41z, q410, q411, q412, q413⟩, _⟩, hbz⟩ := hs
              have HS2 := hide hs
              clear hs hb HS1
              have HSr := hide (HS2.out.box2 (p + i) l' 26)
              go_wp2_with fail
              have hs := HSr.out
              generalize w2.alloc (.cells #[.int .i64 (p + i), .int .i64 l'] 26) = wr at *
              have HX : Hid (∀ w', St w [(w.heap.size + 1, 1, p, n)] [(w2.heap.size, p + i, l')] [(w1.heap.size, t', l', b', q'), (w.heap.size, t, l, b, q)] w' → w'.cell? ⟨w2.heap.size, 0, none⟩ = some (.int .i64 (p + i)) ∧ w'.cell? ⟨w2.heap.size, 1, none⟩ = some (.int .i64 l') ∧ w'.cell? ⟨w1.heap.size, 0, none⟩ = some (.int .i64 t') ∧ w'.cell? ⟨w1.heap.size, 1, none⟩ = some (.int .i64 l') ∧ w'.cell? ⟨w1.heap.size, 2, none⟩ = some (.int .i64 b') ∧ w'.cell? ⟨w1.heap.size, 3, none⟩ = some (.int .i64 q') ∧ w'.cell? ⟨w.heap.size, 0, none⟩ = some (.int .i64 t) ∧ w'.cell? ⟨w.heap.size, 1, none⟩ = some (.int .i64 l) ∧ w'.cell? ⟨w.heap.size, 2, none⟩ = some (.int .i64 b) ∧ w'.cell? ⟨w.heap.size, 3, none⟩ = some (.int .i64 q) ∧ St w [(w.heap.size + 1, 1, p, n)] [(w2.heap.size, p + i, l')] [(w1.heap.size, t', l', b', q'), (w.heap.size, t, l, b, q)] w') := fun w' h => ⟨h.2.1.1.2.1, h.2.1.1.2.2, h.2.2.1.1.2.1, h.2.2.1.1.2.2.1, h.2.2.1.1.2.2.2.1, h.2.2.1.1.2.2.2.2, h.2.2.1.2.1.2.1, h.2.2.1.2.1.2.2.1, h.2.2.1.2.1.2.2.2.1, h.2.2.1.2.1.2.2.2.2, h⟩
              have hs8 := HX.out wr hs
              clear q30z q300 q301 q302 q40z q400 q401 q402 q403 q41z q410 q411 q412 q413 hbz hs
              go_region_held3 (fun w' => w'.cell? ⟨w2.heap.size, 0, none⟩ = some (.int .i64 (p + i)) ∧ w'.cell? ⟨w2.heap.size, 1, none⟩ = some (.int .i64 l') ∧ w'.cell? ⟨w1.heap.size, 0, none⟩ = some (.int .i64 t') ∧ w'.cell? ⟨w1.heap.size, 1, none⟩ = some (.int .i64 l') ∧ w'.cell? ⟨w1.heap.size, 2, none⟩ = some (.int .i64 b') ∧ w'.cell? ⟨w1.heap.size, 3, none⟩ = some (.int .i64 q') ∧ w'.cell? ⟨w.heap.size, 0, none⟩ = some (.int .i64 t) ∧ w'.cell? ⟨w.heap.size, 1, none⟩ = some (.int .i64 l) ∧ w'.cell? ⟨w.heap.size, 2, none⟩ = some (.int .i64 b) ∧ w'.cell? ⟨w.heap.size, 3, none⟩ = some (.int .i64 q) ∧ St w [(w.heap.size + 1, 1, p, n)] [(w2.heap.size, p + i, l')] [(w1.heap.size, t', l', b', q'), (w.heap.size, t, l, b, q)] w') (first | exact hs8 | assumption | exact HX.out _ (St.drew (And.right (And.right (And.right (And.right (And.right (And.right (And.right (And.right (And.right (And.right (by assumption)))))))))))) | exact HX.out _ (St.alloc (And.right (And.right (And.right (And.right (And.right (And.right (And.right (And.right (And.right (And.right (by assumption))))))))))) _)) (first | (go_at_call 20; refine (HI.out _).mono ?_; rintro e wn ⟨rfl, hb⟩; have hsn := HX.out _ (St.below hb (And.right (And.right (And.right (And.right (And.right (And.right (And.right (And.right (And.right (And.right (by assumption))))))))))))) | (go_at_call 15; refine (HV.out _).mono ?_; rintro e wn ⟨rfl, hb⟩; have hsn := HX.out _ (St.below hb (And.right (And.right (And.right (And.right (And.right (And.right (And.right (And.right (And.right (And.right (by assumption))))))))))))))
              all_goals go_wp2
              all_goals go_ret
              all_goals exact ⟨rfl, St.out (And.right (And.right (And.right (And.right (And.right (And.right (And.right (And.right (And.right (And.right (by assumption)))))))))))⟩
            · rw [decide_eq_true d1, decide_eq_false d2, Bool.and_false] at HI
              have d3 : (p ≤ b) = False := by simpa using d2
              clear d2
              go_enter Try.func8, Try.ntmps8
              go_wp2_with fail
              refine (HR.out _).mono ?_
              rintro e w1 ⟨rfl, hb⟩
              have hs := St.below hb H0.out
              have ⟨⟨⟨q30z, q300, q301, q302⟩, _⟩, _, ⟨⟨q40z, q400, q401, q402, q403⟩, _⟩, hbz⟩ := hs
              have HS1 := hide (hs.box4 t' l' b' q' 42)
              clear hs hb
              go_wp2_with fail
              refine (HC.out _).mono ?_
              rintro e w2 ⟨rfl, hb⟩
              have hs := St.below hb HS1.out
              clear q30z q300 q301 q302 q40z q400 q401 q402 q403 hbz
              have ⟨⟨⟨q30z, q300, q301, q302⟩, _⟩, _, ⟨⟨q40z, q400, q401, q402, q403⟩, ⟨q41z, q410, q411, q412, q413⟩, _⟩, hbz⟩ := hs
              have HS2 := hide hs
              clear hs hb HS1
              have HSr := hide (HS2.out.box2 (p + i) l' 26)
              go_wp2_with fail
              have hs := HSr.out
              generalize w2.alloc (.cells #[.int .i64 (p + i), .int .i64 l'] 26) = wr at *
              have HX : Hid (∀ w', St w [(w.heap.size + 1, 1, p, n)] [(w2.heap.size, p + i, l')] [(w1.heap.size, t', l', b', q'), (w.heap.size, t, l, b, q)] w' → w'.cell? ⟨w2.heap.size, 0, none⟩ = some (.int .i64 (p + i)) ∧ w'.cell? ⟨w2.heap.size, 1, none⟩ = some (.int .i64 l') ∧ w'.cell? ⟨w1.heap.size, 0, none⟩ = some (.int .i64 t') ∧ w'.cell? ⟨w1.heap.size, 1, none⟩ = some (.int .i64 l') ∧ w'.cell? ⟨w1.heap.size, 2, none⟩ = some (.int .i64 b') ∧ w'.cell? ⟨w1.heap.size, 3, none⟩ = some (.int .i64 q') ∧ w'.cell? ⟨w.heap.size, 0, none⟩ = some (.int .i64 t) ∧ w'.cell? ⟨w.heap.size, 1, none⟩ = some (.int .i64 l) ∧ w'.cell? ⟨w.heap.size, 2, none⟩ = some (.int .i64 b) ∧ w'.cell? ⟨w.heap.size, 3, none⟩ = some (.int .i64 q) ∧ St w [(w.heap.size + 1, 1, p, n)] [(w2.heap.size, p + i, l')] [(w1.heap.size, t', l', b', q'), (w.heap.size, t, l, b, q)] w') := fun w' h => ⟨h.2.1.1.2.1, h.2.1.1.2.2, h.2.2.1.1.2.1, h.2.2.1.1.2.2.1, h.2.2.1.1.2.2.2.1, h.2.2.1.1.2.2.2.2, h.2.2.1.2.1.2.1, h.2.2.1.2.1.2.2.1, h.2.2.1.2.1.2.2.2.1, h.2.2.1.2.1.2.2.2.2, h⟩
              have hs8 := HX.out wr hs
              clear q30z q300 q301 q302 q40z q400 q401 q402 q403 q41z q410 q411 q412 q413 hbz hs
              go_region_held3 (fun w' => w'.cell? ⟨w2.heap.size, 0, none⟩ = some (.int .i64 (p + i)) ∧ w'.cell? ⟨w2.heap.size, 1, none⟩ = some (.int .i64 l') ∧ w'.cell? ⟨w1.heap.size, 0, none⟩ = some (.int .i64 t') ∧ w'.cell? ⟨w1.heap.size, 1, none⟩ = some (.int .i64 l') ∧ w'.cell? ⟨w1.heap.size, 2, none⟩ = some (.int .i64 b') ∧ w'.cell? ⟨w1.heap.size, 3, none⟩ = some (.int .i64 q') ∧ w'.cell? ⟨w.heap.size, 0, none⟩ = some (.int .i64 t) ∧ w'.cell? ⟨w.heap.size, 1, none⟩ = some (.int .i64 l) ∧ w'.cell? ⟨w.heap.size, 2, none⟩ = some (.int .i64 b) ∧ w'.cell? ⟨w.heap.size, 3, none⟩ = some (.int .i64 q) ∧ St w [(w.heap.size + 1, 1, p, n)] [(w2.heap.size, p + i, l')] [(w1.heap.size, t', l', b', q'), (w.heap.size, t, l, b, q)] w') (first | exact hs8 | assumption | exact HX.out _ (St.drew (And.right (And.right (And.right (And.right (And.right (And.right (And.right (And.right (And.right (And.right (by assumption)))))))))))) | exact HX.out _ (St.alloc (And.right (And.right (And.right (And.right (And.right (And.right (And.right (And.right (And.right (And.right (by assumption))))))))))) _)) (first | (go_at_call 20; refine (HI.out _).mono ?_; rintro e wn ⟨rfl, hb⟩; have hsn := HX.out _ (St.below hb (And.right (And.right (And.right (And.right (And.right (And.right (And.right (And.right (And.right (And.right (by assumption))))))))))))) | (go_at_call 15; refine (HV.out _).mono ?_; rintro e wn ⟨rfl, hb⟩; have hsn := HX.out _ (St.below hb (And.right (And.right (And.right (And.right (And.right (And.right (And.right (And.right (And.right (And.right (by assumption))))))))))))))
              all_goals go_wp2
              all_goals go_ret
              all_goals exact ⟨rfl, St.out (And.right (And.right (And.right (And.right (And.right (And.right (And.right (And.right (And.right (And.right (by assumption)))))))))))⟩
          · rw [decide_eq_false d1, Bool.false_and] at HI
            have d3 : (t < p) = False := by simpa using d1
            clear d1
            go_enter Try.func8, Try.ntmps8
            go_wp2_with fail
            refine (HR.out _).mono ?_
            rintro e w1 ⟨rfl, hb⟩
            have hs := St.below hb H0.out
            have ⟨⟨⟨q30z, q300, q301, q302⟩, _⟩, _, ⟨⟨q40z, q400, q401, q402, q403⟩, _⟩, hbz⟩ := hs
            have HS1 := hide (hs.box4 t' l' b' q' 42)
            clear hs hb
            go_wp2_with fail
            refine (HC.out _).mono ?_
            rintro e w2 ⟨rfl, hb⟩
            have hs := St.below hb HS1.out
            clear q30z q300 q301 q302 q40z q400 q401 q402 q403 hbz
            have ⟨⟨⟨q30z, q300, q301, q302⟩, _⟩, _, ⟨⟨q40z, q400, q401, q402, q403⟩, ⟨q41z, q410, q411, q412, q413⟩, _⟩, hbz⟩ := hs
            have HS2 := hide hs
            clear hs hb HS1
            have HSr := hide (HS2.out.box2 (p + i) l' 26)
            go_wp2_with fail
            have hs := HSr.out
            generalize w2.alloc (.cells #[.int .i64 (p + i), .int .i64 l'] 26) = wr at *
            have HX : Hid (∀ w', St w [(w.heap.size + 1, 1, p, n)] [(w2.heap.size, p + i, l')] [(w1.heap.size, t', l', b', q'), (w.heap.size, t, l, b, q)] w' → w'.cell? ⟨w2.heap.size, 0, none⟩ = some (.int .i64 (p + i)) ∧ w'.cell? ⟨w2.heap.size, 1, none⟩ = some (.int .i64 l') ∧ w'.cell? ⟨w1.heap.size, 0, none⟩ = some (.int .i64 t') ∧ w'.cell? ⟨w1.heap.size, 1, none⟩ = some (.int .i64 l') ∧ w'.cell? ⟨w1.heap.size, 2, none⟩ = some (.int .i64 b') ∧ w'.cell? ⟨w1.heap.size, 3, none⟩ = some (.int .i64 q') ∧ w'.cell? ⟨w.heap.size, 0, none⟩ = some (.int .i64 t) ∧ w'.cell? ⟨w.heap.size, 1, none⟩ = some (.int .i64 l) ∧ w'.cell? ⟨w.heap.size, 2, none⟩ = some (.int .i64 b) ∧ w'.cell? ⟨w.heap.size, 3, none⟩ = some (.int .i64 q) ∧ St w [(w.heap.size + 1, 1, p, n)] [(w2.heap.size, p + i, l')] [(w1.heap.size, t', l', b', q'), (w.heap.size, t, l, b, q)] w') := fun w' h => ⟨h.2.1.1.2.1, h.2.1.1.2.2, h.2.2.1.1.2.1, h.2.2.1.1.2.2.1, h.2.2.1.1.2.2.2.1, h.2.2.1.1.2.2.2.2, h.2.2.1.2.1.2.1, h.2.2.1.2.1.2.2.1, h.2.2.1.2.1.2.2.2.1, h.2.2.1.2.1.2.2.2.2, h⟩
            have hs8 := HX.out wr hs
            clear q30z q300 q301 q302 q40z q400 q401 q402 q403 q41z q410 q411 q412 q413 hbz hs
            refine wp_region_held_drew (S := fun w' => w'.cell? ⟨w2.heap.size, 0, none⟩ = some (.int .i64 (p + i)) ∧ w'.cell? ⟨w2.heap.size, 1, none⟩ = some (.int .i64 l') ∧ w'.cell? ⟨w1.heap.size, 0, none⟩ = some (.int .i64 t') ∧ w'.cell? ⟨w1.heap.size, 1, none⟩ = some (.int .i64 l') ∧ w'.cell? ⟨w1.heap.size, 2, none⟩ = some (.int .i64 b') ∧ w'.cell? ⟨w1.heap.size, 3, none⟩ = some (.int .i64 q') ∧ w'.cell? ⟨w.heap.size, 0, none⟩ = some (.int .i64 t) ∧ w'.cell? ⟨w.heap.size, 1, none⟩ = some (.int .i64 l) ∧ w'.cell? ⟨w.heap.size, 2, none⟩ = some (.int .i64 b) ∧ w'.cell? ⟨w.heap.size, 3, none⟩ = some (.int .i64 q) ∧ St w [(w.heap.size + 1, 1, p, n)] [(w2.heap.size, p + i, l')] [(w1.heap.size, t', l', b', q'), (w.heap.size, t, l, b, q)] w') (by kernel_rfl) (HX.out _ (St.drew (And.right (And.right (And.right (And.right (And.right (And.right (And.right (And.right (And.right (And.right (hs8))))))))))))) (fun hHeld => ?_)
            (refine takeD (i := 0) (some 57) rfl rfl (by kernel_rfl) (by kernel_rfl) (by kernel_rfl) (fun _ _ _ h => h) (v := ?_) rfl ?_ (by assumption) ?_; rotate_left; (focus (intro w hSw; (try dsimp only at hSw); first | (go_simp; done) | (go_simp; with_reducible rfl))); try simp only [Act.put, List.setIfInBounds_toArray, List.set_cons_zero, List.set_cons_succ]); (refine takeD (i := 1) (some 58) rfl rfl (by kernel_rfl) (by kernel_rfl) (by kernel_rfl) (fun _ _ _ h => h) (v := ?_) rfl ?_ (by assumption) ?_; rotate_left; (focus (intro w hSw; (try dsimp only at hSw); first | (go_simp; done) | (go_simp; with_reducible rfl))); try simp only [Act.put, List.setIfInBounds_toArray, List.set_cons_zero, List.set_cons_succ]); (refine takeD (i := 3) (some 60) rfl rfl (by kernel_rfl) (by kernel_rfl) (by kernel_rfl) (fun _ _ _ h => h) (v := ?_) rfl ?_ (by assumption) ?_; rotate_left; (focus (intro w hSw; (try dsimp only at hSw); first | (go_simp; done) | (go_simp; with_reducible rfl))); try simp only [Act.put, List.setIfInBounds_toArray, List.set_cons_zero, List.set_cons_succ]); (refine takeD (i := 4) (some 61) rfl rfl (by kernel_rfl) (by kernel_rfl) (by kernel_rfl) (fun _ _ _ h => h) (v := ?_) rfl ?_ (by assumption) ?_; rotate_left; (focus (intro w hSw; (try dsimp only at hSw); first | (go_simp; done) | (go_simp; with_reducible rfl))); try simp only [Act.put, List.setIfInBounds_toArray, List.set_cons_zero, List.set_cons_succ]); (refine takeD (i := 5) (some 62) rfl rfl (by kernel_rfl) (by kernel_rfl) (by kernel_rfl) (fun _ _ _ h => h) (v := ?_) rfl ?_ (by assumption) ?_; rotate_left; (focus (intro w hSw; (try dsimp only at hSw); first | (go_simp; done) | (go_simp; with_reducible rfl))); try simp only [Act.put, List.setIfInBounds_toArray, List.set_cons_zero, List.set_cons_succ]); (refine takeD (i := 6) (some 63) rfl rfl (by kernel_rfl) (by kernel_rfl) (by kernel_rfl) (fun _ _ _ h => h) (v := ?_) rfl ?_ (by assumption) ?_; rotate_left; (focus (intro w hSw; (try dsimp only at hSw); first | (go_simp; done) | (go_simp; with_reducible rfl))); try simp only [Act.put, List.setIfInBounds_toArray, List.set_cons_zero, List.set_cons_succ]); (refine wpAnyH_ready (rs := [2]) (by kernel_rfl) (by simp) ?_; refine AllReadyH.cons (o := _) rfl (fun K hK => ?_) AllReadyH.nil; go_simp; (go_at_call 20; refine (HI.out _).mono ?_; rintro e wn ⟨rfl, hb⟩; have hsn := HX.out _ (St.below hb (And.right (And.right (And.right (And.right (And.right (And.right (And.right (And.right (And.right (And.right (hHeld))))))))))))); refine hK.out _ _ hsn (fun hHeld => ?_); clear hK K; try simp only [Act.put, List.setIfInBounds_toArray, List.set_cons_zero, List.set_cons_succ]); (refine takeD (i := 7) (some 64) rfl rfl (by kernel_rfl) (by kernel_rfl) (by kernel_rfl) (fun _ _ _ h => h) (v := ?_) rfl ?_ (by assumption) ?_; rotate_left; (focus (intro w hSw; (try dsimp only at hSw); first | (go_simp; done) | (go_simp; with_reducible rfl))); try simp only [Act.put, List.setIfInBounds_toArray, List.set_cons_zero, List.set_cons_succ]); (refine skipD (i := 8) (some 65) rfl rfl (by kernel_rfl) (by kernel_rfl) (by kernel_rfl) (fun _ _ _ h => h) rfl (by assumption) ?_; try simp only [Act.put, List.setIfInBounds_toArray, List.set_cons_zero, List.set_cons_succ]); (refine skipD (i := 9) (some 66) rfl rfl (by kernel_rfl) (by kernel_rfl) (by kernel_rfl) (fun _ _ _ h => h) rfl (by assumption) ?_; try simp only [Act.put, List.setIfInBounds_toArray, List.set_cons_zero, List.set_cons_succ]); (refine skipD (i := 10) (some 67) rfl rfl (by kernel_rfl) (by kernel_rfl) (by kernel_rfl) (fun _ _ _ h => h) rfl (by assumption) ?_; try simp only [Act.put, List.setIfInBounds_toArray, List.set_cons_zero, List.set_cons_succ]); (refine skipD (i := 11) (some 68) rfl rfl (by kernel_rfl) (by kernel_rfl) (by kernel_rfl) (fun _ _ _ h => h) rfl (by assumption) ?_; try simp only [Act.put, List.setIfInBounds_toArray, List.set_cons_zero, List.set_cons_succ]); (refine takeD (i := 12) (some 69) rfl rfl (by kernel_rfl) (by kernel_rfl) (by kernel_rfl) (fun _ _ _ h => h) (v := ?_) rfl ?_ (by assumption) ?_; rotate_left; (focus (intro w hSw; (try dsimp only at hSw); first | (go_simp; done) | (go_simp; with_reducible rfl))); try simp only [Act.put, List.setIfInBounds_toArray, List.set_cons_zero, List.set_cons_succ]); (refine takeD (i := 13) (some 70) rfl rfl (by kernel_rfl) (by kernel_rfl) (by kernel_rfl) (fun _ _ _ h => h) (v := ?_) rfl ?_ (by assumption) ?_; rotate_left; (focus (intro w hSw; (try dsimp only at hSw); first | (go_simp; done) | (go_simp; with_reducible rfl))); try simp only [Act.put, List.setIfInBounds_toArray, List.set_cons_zero, List.set_cons_succ]); (refine takeD (i := 14) (some 71) rfl rfl (by kernel_rfl) (by kernel_rfl) (by kernel_rfl) (fun _ _ _ h => h) (v := ?_) rfl ?_ (by assumption) ?_; rotate_left; (focus (intro w hSw; (try dsimp only at hSw); first | (go_simp; done) | (go_simp; with_reducible rfl))); try simp only [Act.put, List.setIfInBounds_toArray, List.set_cons_zero, List.set_cons_succ]); (refine takeD (i := 15) (some 72) rfl rfl (by kernel_rfl) (by kernel_rfl) (by kernel_rfl) (fun _ _ _ h => h) (v := ?_) rfl ?_ (by assumption) ?_; rotate_left; (focus (intro w hSw; (try dsimp only at hSw); first | (go_simp; done) | (go_simp; with_reducible rfl))); try simp only [Act.put, List.setIfInBounds_toArray, List.set_cons_zero, List.set_cons_succ]); (refine takeD (i := 16) (some 73) rfl rfl (by kernel_rfl) (by kernel_rfl) (by kernel_rfl) (fun _ _ _ h => h) (v := ?_) rfl ?_ (by assumption) ?_; rotate_left; (focus (intro w hSw; (try dsimp only at hSw); first | (go_simp; done) | (go_simp; with_reducible rfl))); try simp only [Act.put, List.setIfInBounds_toArray, List.set_cons_zero, List.set_cons_succ]); (refine takeD (i := 17) (some 74) rfl rfl (by kernel_rfl) (by kernel_rfl) (by kernel_rfl) (fun _ _ _ h => h) (v := ?_) rfl ?_ (by assumption) ?_; rotate_left; (focus (intro w hSw; (try dsimp only at hSw); first | (go_simp; done) | (go_simp; with_reducible rfl))); try simp only [Act.put, List.setIfInBounds_toArray, List.set_cons_zero, List.set_cons_succ]); (refine takeD (i := 18) (some 75) rfl rfl (by kernel_rfl) (by kernel_rfl) (by kernel_rfl) (fun _ _ _ h => h) (v := ?_) rfl ?_ (by assumption) ?_; rotate_left; (focus (intro w hSw; (try dsimp only at hSw); first | (go_simp; done) | (go_simp; with_reducible rfl))); try simp only [Act.put, List.setIfInBounds_toArray, List.set_cons_zero, List.set_cons_succ]); (refine takeD (i := 19) (some 76) rfl rfl (by kernel_rfl) (by kernel_rfl) (by kernel_rfl) (fun _ _ _ h => h) (v := ?_) rfl ?_ (by assumption) ?_; rotate_left; (focus (intro w hSw; (try dsimp only at hSw); first | (go_simp; done) | (go_simp; with_reducible rfl))); try simp only [Act.put, List.setIfInBounds_toArray, List.set_cons_zero, List.set_cons_succ]); (refine takeD (i := 20) (some 77) rfl rfl (by kernel_rfl) (by kernel_rfl) (by kernel_rfl) (fun _ _ _ h => h) (v := ?_) rfl ?_ (by assumption) ?_; rotate_left; (focus (intro w hSw; (try dsimp only at hSw); first | (go_simp; done) | (go_simp; with_reducible rfl))); try simp only [Act.put, List.setIfInBounds_toArray, List.set_cons_zero, List.set_cons_succ]); (refine takeD (i := 21) (some 78) rfl rfl (by kernel_rfl) (by kernel_rfl) (by kernel_rfl) (fun _ _ _ h => h) (v := ?_) rfl ?_ (by assumption) ?_; rotate_left; (focus (intro w hSw; (try dsimp only at hSw); first | (go_simp; done) | (go_simp; with_reducible rfl))); try simp only [Act.put, List.setIfInBounds_toArray, List.set_cons_zero, List.set_cons_succ]); (refine takeD (i := 22) (some 79) rfl rfl (by kernel_rfl) (by kernel_rfl) (by kernel_rfl) (fun _ _ _ h => h) (v := ?_) rfl ?_ (by assumption) ?_; rotate_left; (focus (intro w hSw; (try dsimp only at hSw); first | (go_simp; done) | (go_simp; with_reducible rfl))); try simp only [Act.put, List.setIfInBounds_toArray, List.set_cons_zero, List.set_cons_succ]); (refine takeD (i := 23) (some 80) rfl rfl (by kernel_rfl) (by kernel_rfl) (by kernel_rfl) (fun _ _ _ h => h) (v := ?_) rfl ?_ (by assumption) ?_; rotate_left; (focus (intro w hSw; (try dsimp only at hSw); first | (go_simp; done) | (go_simp; with_reducible rfl))); try simp only [Act.put, List.setIfInBounds_toArray, List.set_cons_zero, List.set_cons_succ]); (refine takeD (i := 24) (some 81) rfl rfl (by kernel_rfl) (by kernel_rfl) (by kernel_rfl) (fun _ _ _ h => h) (v := ?_) rfl ?_ (by assumption) ?_; rotate_left; (focus (intro w hSw; (try dsimp only at hSw); first | (go_simp; done) | (go_simp; with_reducible rfl))); try simp only [Act.put, List.setIfInBounds_toArray, List.set_cons_zero, List.set_cons_succ]); (refine takeD (i := 25) (some 82) rfl rfl (by kernel_rfl) (by kernel_rfl) (by kernel_rfl) (fun _ _ _ h => h) (v := ?_) rfl ?_ (by assumption) ?_; rotate_left; (focus (intro w hSw; (try dsimp only at hSw); first | (go_simp; done) | (go_simp; with_reducible rfl))); try simp only [Act.put, List.setIfInBounds_toArray, List.set_cons_zero, List.set_cons_succ]); (refine takeD (i := 26) (some 83) rfl rfl (by kernel_rfl) (by kernel_rfl) (by kernel_rfl) (fun _ _ _ h => h) (v := ?_) rfl ?_ (by assumption) ?_; rotate_left; (focus (intro w hSw; (try dsimp only at hSw); first | (go_simp; done) | (go_simp; with_reducible rfl))); try simp only [Act.put, List.setIfInBounds_toArray, List.set_cons_zero, List.set_cons_succ]); (refine takeD (i := 27) (some 84) rfl rfl (by kernel_rfl) (by kernel_rfl) (by kernel_rfl) (fun _ _ _ h => h) (v := ?_) rfl ?_ (by assumption) ?_; rotate_left; (focus (intro w hSw; (try dsimp only at hSw); first | (go_simp; done) | (go_simp; with_reducible rfl))); try simp only [Act.put, List.setIfInBounds_toArray, List.set_cons_zero, List.set_cons_succ]); (refine takeD (i := 28) (some 85) rfl rfl (by kernel_rfl) (by kernel_rfl) (by kernel_rfl) (fun _ _ _ h => h) (v := ?_) rfl ?_ (by assumption) ?_; rotate_left; (focus (intro w hSw; (try dsimp only at hSw); first | (go_simp; done) | (go_simp; with_reducible rfl))); try simp only [Act.put, List.setIfInBounds_toArray, List.set_cons_zero, List.set_cons_succ]); (refine wpAnyH_ready (rs := [29]) (by kernel_rfl) (by simp) ?_; refine AllReadyH.cons (o := _) rfl (fun K hK => ?_) AllReadyH.nil; go_simp; (go_at_call 15; refine (HV.out _).mono ?_; rintro e wn ⟨rfl, hb⟩; have hsn := HX.out _ (St.below hb (And.right (And.right (And.right (And.right (And.right (And.right (And.right (And.right (And.right (And.right (hHeld))))))))))))); refine hK.out _ _ hsn (fun hHeld => ?_); clear hK K; try simp only [Act.put, List.setIfInBounds_toArray, List.set_cons_zero, List.set_cons_succ]); (refine takeD (i := 30) (some 87) rfl rfl (by kernel_rfl) (by kernel_rfl) (by kernel_rfl) (fun _ _ _ h => h) (v := ?_) rfl ?_ (by assumption) ?_; rotate_left; (focus (intro w hSw; (try dsimp only at hSw); first | (go_simp; done) | (go_simp; with_reducible rfl))); try simp only [Act.put, List.setIfInBounds_toArray, List.set_cons_zero, List.set_cons_succ]); (refine takeD (i := 31) (some 8) rfl rfl (by kernel_rfl) (by kernel_rfl) (by kernel_rfl) (fun _ _ _ h => h) (v := ?_) rfl ?_ (by assumption) ?_; rotate_left; (focus (intro w hSw; (try dsimp only at hSw); first | (go_simp; done) | (go_simp; with_reducible rfl))); try simp only [Act.put, List.setIfInBounds_toArray, List.set_cons_zero, List.set_cons_succ]); refine wpAnyH_done (by kernel_rfl) ?_ _
            all_goals go_wp2
            all_goals go_ret
            all_goals exact ⟨rfl, St.out (And.right (And.right (And.right (And.right (And.right (And.right (And.right (And.right (And.right (And.right (by assumption)))))))))))⟩
    · rw [hc] at HC
      clear er hc
      generalize (clipR 1 p n t l b q).2 = ce at *
      go_enter Try.func8, Try.ntmps8
      go_wp2_with fail
      refine (HR.out _).mono ?_
      rintro e w1 ⟨rfl, hb⟩
      have hs := St.below hb H0.out
      have ⟨⟨⟨q30z, q300, q301, q302⟩, _⟩, _, ⟨⟨q40z, q400, q401, q402, q403⟩, _⟩, hbz⟩ := hs
      have HS1 := hide (hs.box4 t' l' b' q' 42)
      clear hs hb
      go_wp2_with fail
      refine (HC.out _).mono ?_
      rintro e w2 ⟨rfl, hb⟩
      have hs := St.below hb HS1.out
      clear q30z q300 q301 q302 q40z q400 q401 q402 q403 hbz
      have ⟨⟨⟨q30z, q300, q301, q302⟩, _⟩, _, ⟨⟨q40z, q400, q401, q402, q403⟩, ⟨q41z, q410, q411, q412, q413⟩, _⟩, hbz⟩ := hs
      have HS2 := hide hs
      clear hs hb HS1
      have hs := HS2.out
      go_wp2_with (first | (go_at_call 15; refine (HV.out _).mono ?_; rintro e wn ⟨rfl, hb⟩; have hs := St.below hb (by assumption); have ⟨⟨⟨q30z, q300, q301, q302⟩, _⟩, _, ⟨⟨q40z, q400, q401, q402, q403⟩, ⟨q41z, q410, q411, q412, q413⟩, _⟩, hbz⟩ := hs))
      go_ret
      exact ⟨rfl, St.out (by assumption)⟩
end Go.Proofs.Ytkkoeanjmldmdaa
