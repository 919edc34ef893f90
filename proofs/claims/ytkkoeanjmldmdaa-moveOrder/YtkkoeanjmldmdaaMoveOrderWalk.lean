/-
  The walk of MoveOrder: for every input it returns true. (By movegen.py.)
-/
import Derived.Test.YtkkoeanjmldmdaaMvLives
import Derived.Test.YtkkoeanjmldmdaaMvMath
namespace Go.Proofs.Ytkkoeanjmldmdaa
open Go.RowKit

set_option maxRecDepth 100000 in
set_option maxHeartbeats 2000000 in
theorem moveOrder_walk (k a n r c r' c' : Int) (w : World) :
    Calls Try.prog 6 #[.agg #[.int .i64 k, .int .i64 a, .int .i64 n], .agg #[.int .i64 r, .int .i64 c], .agg #[.int .i64 r', .int .i64 c']] w fun e w' => e = .returned (.bool true) ∧ Below w.heap.size w w' := by
  have H0 : Hid (St w [(w.heap.size, k, a, n)] [(w.heap.size + 1 + 1, r', c'), (w.heap.size + 1, r, c)] [] (((w.alloc (.cells #[.int .i64 k, .int .i64 a, .int .i64 n] 24)).alloc (.cells #[.int .i64 r, .int .i64 c] 26)).alloc (.cells #[.int .i64 r', .int .i64 c'] 26))) := by
    have := ((((St.nil w).box3 k a n 24).box2 r c 26).box2 r' c' 26)
    show St _ _ _ _ _
    simpa using this
  have HV : Hid (∀ W : World, Calls Try.prog 15 #[] W fun e w' => e = .returned (.bool true) ∧ Below W.heap.size W w') := fun W => lives6_any W
  have HA : Hid (∀ W : World, Calls Try.prog 9 #[.agg #[.int .i64 k, .int .i64 a, .int .i64 n], .agg #[.int .i64 r, .int .i64 c]] W fun e w' => e = .returned (.tuple #[.agg #[.int .i64 ((spotR k a n r c).1), .int .i64 ((spotR k a n r c).2.1)], .int .i64 ((spotR k a n r c).2.2.1), .int .i64 ((spotR k a n r c).2.2.2)]) ∧ Below W.heap.size W w') := fun W => spot_any k a n r c W
  have HB : Hid (∀ W : World, Calls Try.prog 9 #[.agg #[.int .i64 k, .int .i64 a, .int .i64 n], .agg #[.int .i64 r', .int .i64 c']] W fun e w' => e = .returned (.tuple #[.agg #[.int .i64 ((spotR k a n r' c').1), .int .i64 ((spotR k a n r' c').2.1)], .int .i64 ((spotR k a n r' c').2.2.1), .int .i64 ((spotR k a n r' c').2.2.2)]) ∧ Below W.heap.size W w') := fun W => spot_any k a n r' c' W
  rcases spot_cases k a n r c with ⟨ea, _⟩ | ⟨_, _, f, hf, ea⟩ | hst
  · rw [ea] at HA
    clear ea
    generalize (spotR k a n r' c').1 = x' at *
    generalize (spotR k a n r' c').2.1 = y' at *
    generalize (spotR k a n r' c').2.2.1 = g at *
    generalize (spotR k a n r' c').2.2.2 = j at *
    go_enter Try.func6, Try.ntmps6
    go_wp2_with fail
    refine (HA.out _).mono ?_
    rintro e w1 ⟨rfl, hb⟩
    have hs := St.below hb H0.out
    have ⟨⟨⟨q30z, q300, q301, q302⟩, _⟩, ⟨⟨q20z, q200, q201⟩, ⟨q21z, q210, q211⟩, _⟩, _, hbz⟩ := hs
    have HS1 := hide (hs.box2 0 0 26)
    clear hs hb
    go_wp2_with fail
    refine (HB.out _).mono ?_
    rintro e w2 ⟨rfl, hb⟩
    have hs := St.below hb HS1.out
    clear q30z q300 q301 q302 q20z q200 q201 q21z q210 q211 hbz
    have ⟨⟨⟨q30z, q300, q301, q302⟩, _⟩, ⟨⟨q20z, q200, q201⟩, ⟨q21z, q210, q211⟩, ⟨q22z, q220, q221⟩, _⟩, _, hbz⟩ := hs
    have HS2 := hide (hs.box2 x' y' 26)
    clear hs hb HS1
    have hs := HS2.out
    go_wp2_with (first | (go_at_call 15; refine (HV.out _).mono ?_; rintro e wn ⟨rfl, hb⟩; have hs := St.below hb (by assumption); have ⟨⟨⟨q30z, q300, q301, q302⟩, _⟩, ⟨⟨q20z, q200, q201⟩, ⟨q21z, q210, q211⟩, ⟨q22z, q220, q221⟩, ⟨q23z, q230, q231⟩, _⟩, _, hbz⟩ := hs))
    go_ret
    exact ⟨rfl, St.out (by assumption)⟩
  · rw [ea] at HA
    have e0 : (f == 0) = false := by rw [beq_eq_false_iff_ne]; omega
    clear ea hf
    rcases spot_cases k a n r' c' with ⟨eb, _⟩ | hst
    · rw [eb] at HB
      clear eb
      go_enter Try.func6, Try.ntmps6
      go_wp2_with fail
      refine (HA.out _).mono ?_
      rintro e w1 ⟨rfl, hb⟩
      have hs := St.below hb H0.out
      have ⟨⟨⟨q30z, q300, q301, q302⟩, _⟩, ⟨⟨q20z, q200, q201⟩, ⟨q21z, q210, q211⟩, _⟩, _, hbz⟩ := hs
      have HS1 := hide (hs.box2 0 0 26)
      clear hs hb
      go_wp2_with fail
      refine (HB.out _).mono ?_
      rintro e w2 ⟨rfl, hb⟩
      have hs := St.below hb HS1.out
      clear q30z q300 q301 q302 q20z q200 q201 q21z q210 q211 hbz
      have ⟨⟨⟨q30z, q300, q301, q302⟩, _⟩, ⟨⟨q20z, q200, q201⟩, ⟨q21z, q210, q211⟩, ⟨q22z, q220, q221⟩, _⟩, _, hbz⟩ := hs
      have HS2 := hide (hs.box2 0 0 26)
      clear hs hb HS1
      have hs := HS2.out
      go_wp2_with (first | (go_at_call 15; refine (HV.out _).mono ?_; rintro e wn ⟨rfl, hb⟩; have hs := St.below hb (by assumption); have ⟨⟨⟨q30z, q300, q301, q302⟩, _⟩, ⟨⟨q20z, q200, q201⟩, ⟨q21z, q210, q211⟩, ⟨q22z, q220, q221⟩, ⟨q23z, q230, q231⟩, _⟩, _, hbz⟩ := hs))
      go_ret
      exact ⟨rfl, St.out (by assumption)⟩
    · have eb : (spotR k a n r' c').2.2.2 = 0 := by
        rcases hst with ⟨_, _, g, _, e⟩ | ⟨_, _, _, _, e⟩ | ⟨_, _, _, _, e⟩ <;> rw [e]
      rw [eb] at HB
      clear eb hst
      generalize (spotR k a n r' c').1 = x' at *
      generalize (spotR k a n r' c').2.1 = y' at *
      generalize (spotR k a n r' c').2.2.1 = g at *
      go_enter Try.func6, Try.ntmps6
      go_wp2_with fail
      refine (HA.out _).mono ?_
      rintro e w1 ⟨rfl, hb⟩
      have hs := St.below hb H0.out
      have ⟨⟨⟨q30z, q300, q301, q302⟩, _⟩, ⟨⟨q20z, q200, q201⟩, ⟨q21z, q210, q211⟩, _⟩, _, hbz⟩ := hs
      have HS1 := hide (hs.box2 0 0 26)
      clear hs hb
      go_wp2_with fail
      refine (HB.out _).mono ?_
      rintro e w2 ⟨rfl, hb⟩
      have hs := St.below hb HS1.out
      clear q30z q300 q301 q302 q20z q200 q201 q21z q210 q211 hbz
      have ⟨⟨⟨q30z, q300, q301, q302⟩, _⟩, ⟨⟨q20z, q200, q201⟩, ⟨q21z, q210, q211⟩, ⟨q22z, q220, q221⟩, _⟩, _, hbz⟩ := hs
      have HS2 := hide (hs.box2 x' y' 26)
      clear hs hb HS1
      have hs := HS2.out
      go_wp2_with (first | (go_at_call 15; refine (HV.out _).mono ?_; rintro e wn ⟨rfl, hb⟩; have hs := St.below hb (by assumption); have ⟨⟨⟨q30z, q300, q301, q302⟩, _⟩, ⟨⟨q20z, q200, q201⟩, ⟨q21z, q210, q211⟩, ⟨q22z, q220, q221⟩, ⟨q23z, q230, q231⟩, _⟩, _, hbz⟩ := hs))
      go_ret
      exact ⟨rfl, St.out (by assumption)⟩
  · have ea : ∃ x y, spotR k a n r c = (x, y, 0, 0) := by
      rcases hst with ⟨_, _, _, _, e⟩ | ⟨_, _, _, _, e⟩ <;> exact ⟨_, _, e⟩
    obtain ⟨x, y, ea⟩ := ea
    rw [ea] at HA
    clear hst
    rcases spot_cases k a n r' c' with ⟨eb, _⟩ | ⟨_, _, g, hg, eb⟩ | hst
    · rw [eb] at HB
      clear ea eb
      go_enter Try.func6, Try.ntmps6
      go_wp2_with fail
      refine (HA.out _).mono ?_
      rintro e w1 ⟨rfl, hb⟩
      have hs := St.below hb H0.out
      have ⟨⟨⟨q30z, q300, q301, q302⟩, _⟩, ⟨⟨q20z, q200, q201⟩, ⟨q21z, q210, q211⟩, _⟩, _, hbz⟩ := hs
      have HS1 := hide (hs.box2 x y 26)
      clear hs hb
      go_wp2_with fail
      refine (HB.out _).mono ?_
      rintro e w2 ⟨rfl, hb⟩
      have hs := St.below hb HS1.out
      clear q30z q300 q301 q302 q20z q200 q201 q21z q210 q211 hbz
      have ⟨⟨⟨q30z, q300, q301, q302⟩, _⟩, ⟨⟨q20z, q200, q201⟩, ⟨q21z, q210, q211⟩, ⟨q22z, q220, q221⟩, _⟩, _, hbz⟩ := hs
      have HS2 := hide (hs.box2 0 0 26)
      clear hs hb HS1
      have hs := HS2.out
      go_wp2_with (first | (go_at_call 15; refine (HV.out _).mono ?_; rintro e wn ⟨rfl, hb⟩; have hs := St.below hb (by assumption); have ⟨⟨⟨q30z, q300, q301, q302⟩, _⟩, ⟨⟨q20z, q200, q201⟩, ⟨q21z, q210, q211⟩, ⟨q22z, q220, q221⟩, ⟨q23z, q230, q231⟩, _⟩, _, hbz⟩ := hs))
      go_ret
      exact ⟨rfl, St.out (by assumption)⟩
    · rw [eb] at HB
      have e0 : (g == 0) = false := by rw [beq_eq_false_iff_ne]; omega
      clear ea eb hg
      go_enter Try.func6, Try.ntmps6
      go_wp2_with fail
      refine (HA.out _).mono ?_
      rintro e w1 ⟨rfl, hb⟩
      have hs := St.below hb H0.out
      have ⟨⟨⟨q30z, q300, q301, q302⟩, _⟩, ⟨⟨q20z, q200, q201⟩, ⟨q21z, q210, q211⟩, _⟩, _, hbz⟩ := hs
      have HS1 := hide (hs.box2 x y 26)
      clear hs hb
      go_wp2_with fail
      refine (HB.out _).mono ?_
      rintro e w2 ⟨rfl, hb⟩
      have hs := St.below hb HS1.out
      clear q30z q300 q301 q302 q20z q200 q201 q21z q210 q211 hbz
      have ⟨⟨⟨q30z, q300, q301, q302⟩, _⟩, ⟨⟨q20z, q200, q201⟩, ⟨q21z, q210, q211⟩, ⟨q22z, q220, q221⟩, _⟩, _, hbz⟩ := hs
      have HS2 := hide (hs.box2 0 0 26)
      clear hs hb HS1
      have hs := HS2.out
      go_wp2_with (first | (go_at_call 15; refine (HV.out _).mono ?_; rintro e wn ⟨rfl, hb⟩; have hs := St.below hb (by assumption); have ⟨⟨⟨q30z, q300, q301, q302⟩, _⟩, ⟨⟨q20z, q200, q201⟩, ⟨q21z, q210, q211⟩, ⟨q22z, q220, q221⟩, ⟨q23z, q230, q231⟩, _⟩, _, hbz⟩ := hs))
      go_ret
      exact ⟨rfl, St.out (by assumption)⟩
    · have eb : ∃ x' y', spotR k a n r' c' = (x', y', 0, 0) := by
        rcases hst with ⟨_, _, _, _, e⟩ | ⟨_, _, _, _, e⟩ <;> exact ⟨_, _, e⟩
      obtain ⟨x', y', eb⟩ := eb
      rw [eb] at HB
      obtain ⟨o1, o2, o3, o4⟩ := order_facts ea eb
      clear ea eb hst
      cases e1 : (r == r')
      all_goals
        rw [e1] at o3
        cases e2 : (c == c')
        all_goals
          rw [e2] at o4
          have o3' := o3.symm
          have o4' := o4.symm
          clear o3 o4
          go_enter Try.func6, Try.ntmps6
          go_wp2_with fail
          refine (HA.out _).mono ?_
          rintro e w1 ⟨rfl, hb⟩
          have hs := St.below hb H0.out
          have ⟨⟨⟨q30z, q300, q301, q302⟩, _⟩, ⟨⟨q20z, q200, q201⟩, ⟨q21z, q210, q211⟩, _⟩, _, hbz⟩ := hs
          have HS1 := hide (hs.box2 x y 26)
          clear hs hb
          go_wp2_with fail
          refine (HB.out _).mono ?_
          rintro e w2 ⟨rfl, hb⟩
          have hs := St.below hb HS1.out
          clear q30z q300 q301 q302 q20z q200 q201 q21z q210 q211 hbz
          have ⟨⟨⟨q30z, q300, q301, q302⟩, _⟩, ⟨⟨q20z, q200, q201⟩, ⟨q21z, q210, q211⟩, ⟨q22z, q220, q221⟩, _⟩, _, hbz⟩ := hs
          have HS2 := hide (hs.box2 x' y' 26)
          clear hs hb HS1
          go_wp2_with fail
          have hs := HS2.out
          generalize w2.alloc (.cells #[.int .i64 x', .int .i64 y'] 26) = wr at *
          have HX : Hid (∀ w', St w [(w.heap.size, k, a, n)] [(w2.heap.size, x', y'), (w1.heap.size, x, y), (w.heap.size + 1 + 1, r', c'), (w.heap.size + 1, r, c)] [] w' → w'.cell? ⟨w2.heap.size, 0, none⟩ = some (.int .i64 x') ∧ w'.cell? ⟨w2.heap.size, 1, none⟩ = some (.int .i64 y') ∧ w'.cell? ⟨w1.heap.size, 0, none⟩ = some (.int .i64 x) ∧ w'.cell? ⟨w1.heap.size, 1, none⟩ = some (.int .i64 y) ∧ w'.cell? ⟨w.heap.size + 1 + 1, 0, none⟩ = some (.int .i64 r') ∧ w'.cell? ⟨w.heap.size + 1 + 1, 1, none⟩ = some (.int .i64 c') ∧ w'.cell? ⟨w.heap.size + 1, 0, none⟩ = some (.int .i64 r) ∧ w'.cell? ⟨w.heap.size + 1, 1, none⟩ = some (.int .i64 c) ∧ St w [(w.heap.size, k, a, n)] [(w2.heap.size, x', y'), (w1.heap.size, x, y), (w.heap.size + 1 + 1, r', c'), (w.heap.size + 1, r, c)] [] w') := fun w' h => ⟨h.2.1.1.2.1, h.2.1.1.2.2, h.2.1.2.1.2.1, h.2.1.2.1.2.2, h.2.1.2.2.1.2.1, h.2.1.2.2.1.2.2, h.2.1.2.2.2.1.2.1, h.2.1.2.2.2.1.2.2, h⟩
          have hs8 := HX.out wr hs
          clear q30z q300 q301 q302 q20z q200 q201 q21z q210 q211 q22z q220 q221 hbz hs
          go_region_held3 (fun w' => w'.cell? ⟨w2.heap.size, 0, none⟩ = some (.int .i64 x') ∧ w'.cell? ⟨w2.heap.size, 1, none⟩ = some (.int .i64 y') ∧ w'.cell? ⟨w1.heap.size, 0, none⟩ = some (.int .i64 x) ∧ w'.cell? ⟨w1.heap.size, 1, none⟩ = some (.int .i64 y) ∧ w'.cell? ⟨w.heap.size + 1 + 1, 0, none⟩ = some (.int .i64 r') ∧ w'.cell? ⟨w.heap.size + 1 + 1, 1, none⟩ = some (.int .i64 c') ∧ w'.cell? ⟨w.heap.size + 1, 0, none⟩ = some (.int .i64 r) ∧ w'.cell? ⟨w.heap.size + 1, 1, none⟩ = some (.int .i64 c) ∧ St w [(w.heap.size, k, a, n)] [(w2.heap.size, x', y'), (w1.heap.size, x, y), (w.heap.size + 1 + 1, r', c'), (w.heap.size + 1, r, c)] [] w') (first | exact hs8 | assumption | exact HX.out _ (St.drew (And.right (And.right (And.right (And.right (And.right (And.right (And.right (And.right (by assumption)))))))))) | exact HX.out _ (St.alloc (And.right (And.right (And.right (And.right (And.right (And.right (And.right (And.right (by assumption))))))))) _)) ((go_at_call 15; refine (HV.out _).mono ?_; rintro e wn ⟨rfl, hb⟩; have hsn := HX.out _ (St.below hb (And.right (And.right (And.right (And.right (And.right (And.right (And.right (And.right (by assumption))))))))))))
          all_goals go_wp2
          all_goals go_ret
          all_goals exact ⟨rfl, St.out (And.right (And.right (And.right (And.right (And.right (And.right (And.right (And.right (by assumption)))))))))⟩
end Go.Proofs.Ytkkoeanjmldmdaa
