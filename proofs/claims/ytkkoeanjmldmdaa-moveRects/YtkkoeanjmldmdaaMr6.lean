/-
  The contract of the answer's Clips. (By refclipgen.py.)
-/
import Derived.Test.YtkkoeanjmldmdaaMr4
import Derived.Test.YtkkoeanjmldmdaaMv9
namespace Go.Proofs.Ytkkoeanjmldmdaa
open Go.RowKit

theorem KcS.drew {w w1 : World} {k a n t l b r : Int} (h : KcS w k a n t l b r w1) : KcS w k a n t l b r w1.drew := h.below ((Below.refl _ _).drew)
set_option maxRecDepth 100000 in
set_option maxHeartbeats 2000000 in
theorem rclips_any (k a n t l b r : Int) (w : World) :
    Calls Try.prog 19 #[.agg #[.int .i64 k, .int .i64 a, .int .i64 n], .agg #[.int .i64 t, .int .i64 l, .int .i64 b, .int .i64 r]] w fun e w' => e = .returned (.tuple #[.bool (clipR k a n t l b r).1, .int .i64 (clipR k a n t l b r).2]) ∧ Below w.heap.size w w' := by
  have HR : Hid (∀ W : World, Calls Try.prog 28 #[.agg #[.int .i64 k, .int .i64 a, .int .i64 n]] W fun e w' => e = .returned (.bool (editB k a n)) ∧ Below W.heap.size W w') := fun W => reditB_any k a n W
  have HP : Hid (∀ W : World, Calls Try.prog 36 #[.agg #[.int .i64 t, .int .i64 l, .int .i64 b, .int .i64 r]] W fun e w' => e = .returned (.bool (rightB t l b r)) ∧ Below W.heap.size W w') := fun W => rright_any t l b r W
  have HO : Hid (∀ W : World, Calls Try.prog 30 #[.agg #[.int .i64 k, .int .i64 a, .int .i64 n]] W fun e w' => e = .returned (.bool (rowsB k)) ∧ Below W.heap.size W w') := fun W => rrows_any k a n W
  have H0 := hide (KcS.start w k a n t l b r 24 42)
  cases h : editB k a n
  · rw [clipR_no (Or.inl h)]
    rw [h] at HR
    clear h
    go_enter Try.func19, Try.ntmps19
    go_wp2_with ((go_at_call 28; refine (HR.out _).mono ?_; rintro e w1 ⟨rfl, hb⟩; have hs := H0.out.below hb; have ⟨⟨z1, k0, k1, k2⟩, ⟨z2, j0, j1, j2, j3⟩, hbz⟩ := hs; have HS1 := hide hs; clear hs hb))
    go_ret2
    exact ⟨rfl, by assumption⟩
  · rw [h] at HR
    cases hp : rightB t l b r
    · rw [clipR_no (Or.inr hp)]
      rw [hp] at HP
      clear h hp
      go_enter Try.func19, Try.ntmps19
      go_wp2_with (first | (go_at_call 28; refine (HR.out _).mono ?_; rintro e w1 ⟨rfl, hb⟩; have hs := H0.out.below hb; have ⟨⟨z1, k0, k1, k2⟩, ⟨z2, j0, j1, j2, j3⟩, hbz⟩ := hs; have HS1 := hide hs; clear hs hb) | (go_at_call 36; refine (HP.out _).mono ?_; rintro e w2 ⟨rfl, hb⟩; have hs := HS1.out.below hb; clear z1 k0 k1 k2 z2 j0 j1 j2 j3 hbz; have ⟨⟨z1, k0, k1, k2⟩, ⟨z2, j0, j1, j2, j3⟩, hbz⟩ := hs; have HS2 := hide hs; clear hs hb))
      go_ret2
      exact ⟨rfl, by assumption⟩
    · rw [hp] at HP
      have p := rightB_iff.1 hp
      have g := editB_iff.1 h
      have tt := topE_le k
      have u1 : IntKind.i64.wrap (a + n) = a + n := wrapI (by omega) (by omega)
      rcases editB_kinds h with e | e | e | e
      · subst e
        rw [clipR_row h hp rows1]
        rw [rows1] at HO
        rw [top1] at *
        have HL : Hid (∀ W : World, Calls Try.prog 31 #[.agg #[.int .i64 1, .int .i64 a, .int .i64 n], .int .i64 b] W fun e w' => e = .returned (.tuple #[.int .i64 (lineR 1 a n b).1, .int .i64 (lineR 1 a n b).2]) ∧ Below W.heap.size W w') := fun W => rline_any h (by omega) (by rw [top1]; omega) W
        obtain ⟨e1, e2, e3⟩ := lost_ins h ins1
        rw [top1] at e1 e2
        cases hq : takenB 1 a n b
        · rw [show clipB 1 a n t b = false by
            have := taken_no.1 hq
            cases hc : clipB 1 a n t b
            · rfl
            · have := clip_iff.1 hc; omega]
          rw [lineR_no hq] at HL
          generalize carryR 1 a n b = v at *
          clear h hp p g tt hq e1 e2 e3
          have HX : Hid (∀ w', KcS w 1 a n t l b r w' → w'.cell? ⟨w.heap.size + 1, 0, none⟩ = some (.int .i64 t) ∧ w'.cell? ⟨w.heap.size + 1, 1, none⟩ = some (.int .i64 l) ∧ w'.cell? ⟨w.heap.size + 1, 2, none⟩ = some (.int .i64 b) ∧ w'.cell? ⟨w.heap.size + 1, 3, none⟩ = some (.int .i64 r) ∧ KcS w 1 a n t l b r w') := fun w' h => ⟨h.2.1.2.1, h.2.1.2.2.1, h.2.1.2.2.2.1, h.2.1.2.2.2.2, h⟩
          go_enter Try.func19, Try.ntmps19
          go_wp2_with (first | (go_at_call 28; refine (HR.out _).mono ?_; rintro e w1 ⟨rfl, hb⟩; have hs := H0.out.below hb; have ⟨⟨z1, k0, k1, k2⟩, ⟨z2, j0, j1, j2, j3⟩, hbz⟩ := hs; have HS1 := hide hs; clear hs hb) | (go_at_call 36; refine (HP.out _).mono ?_; rintro e w2 ⟨rfl, hb⟩; have hs := HS1.out.below hb; clear z1 k0 k1 k2 z2 j0 j1 j2 j3 hbz; have ⟨⟨z1, k0, k1, k2⟩, ⟨z2, j0, j1, j2, j3⟩, hbz⟩ := hs; have HS2 := hide hs; clear hs hb))
          have hs8 := HX.out _ HS2.out
          go_region_held3 (fun w' => w'.cell? ⟨w.heap.size + 1, 0, none⟩ = some (.int .i64 t) ∧ w'.cell? ⟨w.heap.size + 1, 1, none⟩ = some (.int .i64 l) ∧ w'.cell? ⟨w.heap.size + 1, 2, none⟩ = some (.int .i64 b) ∧ w'.cell? ⟨w.heap.size + 1, 3, none⟩ = some (.int .i64 r) ∧ KcS w 1 a n t l b r w') (first | exact hs8 | assumption | exact HX.out _ (KcS.drew (And.right (And.right (And.right (And.right (by assumption))))))) (fail)
          have hsd : KcS w 1 a n t l b r w2.drew := And.right (And.right (And.right (And.right (by assumption))))
          generalize w2.drew = wd at *
          clear z1 k0 k1 k2 z2 j0 j1 j2 j3 hbz hs8 HS2
          have ⟨⟨z1, k0, k1, k2⟩, ⟨z2, j0, j1, j2, j3⟩, hbz⟩ := hsd
          have HD2 := hide hsd
          clear hsd
          go_wp2_with (go_at_call 30; refine (HO.out _).mono ?_; rintro e w3 ⟨rfl, hb⟩; have hs := HD2.out.below hb; clear z1 k0 k1 k2 z2 j0 j1 j2 j3 hbz; have ⟨⟨z1, k0, k1, k2⟩, ⟨z2, j0, j1, j2, j3⟩, hbz⟩ := hs; have HS3 := hide hs; clear hs hb)
          have hs8 := HX.out _ HS3.out
          go_region_held3 (fun w' => w'.cell? ⟨w.heap.size + 1, 0, none⟩ = some (.int .i64 t) ∧ w'.cell? ⟨w.heap.size + 1, 1, none⟩ = some (.int .i64 l) ∧ w'.cell? ⟨w.heap.size + 1, 2, none⟩ = some (.int .i64 b) ∧ w'.cell? ⟨w.heap.size + 1, 3, none⟩ = some (.int .i64 r) ∧ KcS w 1 a n t l b r w') (first | exact hs8 | assumption | exact HX.out _ (KcS.drew (And.right (And.right (And.right (And.right (by assumption))))))) (fail)
          have hsd : KcS w 1 a n t l b r w3.drew := And.right (And.right (And.right (And.right (by assumption))))
          generalize w3.drew = wf at *
          clear z1 k0 k1 k2 z2 j0 j1 j2 j3 hbz hs8 HS3
          have ⟨⟨z1, k0, k1, k2⟩, ⟨z2, j0, j1, j2, j3⟩, hbz⟩ := hsd
          have HD3 := hide hsd
          clear hsd
          go_wp2_with (go_at_call 31; refine (HL.out _).mono ?_; rintro e w4 ⟨rfl, hb⟩; have hs := HD3.out.below hb; clear z1 k0 k1 k2 z2 j0 j1 j2 j3 hbz; have ⟨⟨z1, k0, k1, k2⟩, ⟨z2, j0, j1, j2, j3⟩, hbz⟩ := hs; have HS4 := hide hs; clear hs hb)
          go_ret2
          exact ⟨rfl, by assumption⟩
        · rw [show clipB 1 a n t b = true by
            have := taken_iff.1 hq
            exact clip_iff.2 (by omega)]
          rw [lineR_yes hq, show fateR 1 = 2 by decide] at HL
          clear h hp p g tt hq e1 e2 e3
          have HX : Hid (∀ w', KcS w 1 a n t l b r w' → w'.cell? ⟨w.heap.size + 1, 0, none⟩ = some (.int .i64 t) ∧ w'.cell? ⟨w.heap.size + 1, 1, none⟩ = some (.int .i64 l) ∧ w'.cell? ⟨w.heap.size + 1, 2, none⟩ = some (.int .i64 b) ∧ w'.cell? ⟨w.heap.size + 1, 3, none⟩ = some (.int .i64 r) ∧ KcS w 1 a n t l b r w') := fun w' h => ⟨h.2.1.2.1, h.2.1.2.2.1, h.2.1.2.2.2.1, h.2.1.2.2.2.2, h⟩
          go_enter Try.func19, Try.ntmps19
          go_wp2_with (first | (go_at_call 28; refine (HR.out _).mono ?_; rintro e w1 ⟨rfl, hb⟩; have hs := H0.out.below hb; have ⟨⟨z1, k0, k1, k2⟩, ⟨z2, j0, j1, j2, j3⟩, hbz⟩ := hs; have HS1 := hide hs; clear hs hb) | (go_at_call 36; refine (HP.out _).mono ?_; rintro e w2 ⟨rfl, hb⟩; have hs := HS1.out.below hb; clear z1 k0 k1 k2 z2 j0 j1 j2 j3 hbz; have ⟨⟨z1, k0, k1, k2⟩, ⟨z2, j0, j1, j2, j3⟩, hbz⟩ := hs; have HS2 := hide hs; clear hs hb))
          have hs8 := HX.out _ HS2.out
          go_region_held3 (fun w' => w'.cell? ⟨w.heap.size + 1, 0, none⟩ = some (.int .i64 t) ∧ w'.cell? ⟨w.heap.size + 1, 1, none⟩ = some (.int .i64 l) ∧ w'.cell? ⟨w.heap.size + 1, 2, none⟩ = some (.int .i64 b) ∧ w'.cell? ⟨w.heap.size + 1, 3, none⟩ = some (.int .i64 r) ∧ KcS w 1 a n t l b r w') (first | exact hs8 | assumption | exact HX.out _ (KcS.drew (And.right (And.right (And.right (And.right (by assumption))))))) (fail)
          have hsd : KcS w 1 a n t l b r w2.drew := And.right (And.right (And.right (And.right (by assumption))))
          generalize w2.drew = wd at *
          clear z1 k0 k1 k2 z2 j0 j1 j2 j3 hbz hs8 HS2
          have ⟨⟨z1, k0, k1, k2⟩, ⟨z2, j0, j1, j2, j3⟩, hbz⟩ := hsd
          have HD2 := hide hsd
          clear hsd
          go_wp2_with (go_at_call 30; refine (HO.out _).mono ?_; rintro e w3 ⟨rfl, hb⟩; have hs := HD2.out.below hb; clear z1 k0 k1 k2 z2 j0 j1 j2 j3 hbz; have ⟨⟨z1, k0, k1, k2⟩, ⟨z2, j0, j1, j2, j3⟩, hbz⟩ := hs; have HS3 := hide hs; clear hs hb)
          have hs8 := HX.out _ HS3.out
          go_region_held3 (fun w' => w'.cell? ⟨w.heap.size + 1, 0, none⟩ = some (.int .i64 t) ∧ w'.cell? ⟨w.heap.size + 1, 1, none⟩ = some (.int .i64 l) ∧ w'.cell? ⟨w.heap.size + 1, 2, none⟩ = some (.int .i64 b) ∧ w'.cell? ⟨w.heap.size + 1, 3, none⟩ = some (.int .i64 r) ∧ KcS w 1 a n t l b r w') (first | exact hs8 | assumption | exact HX.out _ (KcS.drew (And.right (And.right (And.right (And.right (by assumption))))))) (fail)
          have hsd : KcS w 1 a n t l b r w3.drew := And.right (And.right (And.right (And.right (by assumption))))
          generalize w3.drew = wf at *
          clear z1 k0 k1 k2 z2 j0 j1 j2 j3 hbz hs8 HS3
          have ⟨⟨z1, k0, k1, k2⟩, ⟨z2, j0, j1, j2, j3⟩, hbz⟩ := hsd
          have HD3 := hide hsd
          clear hsd
          go_wp2_with (go_at_call 31; refine (HL.out _).mono ?_; rintro e w4 ⟨rfl, hb⟩; have hs := HD3.out.below hb; clear z1 k0 k1 k2 z2 j0 j1 j2 j3 hbz; have ⟨⟨z1, k0, k1, k2⟩, ⟨z2, j0, j1, j2, j3⟩, hbz⟩ := hs; have HS4 := hide hs; clear hs hb)
          go_ret2
          exact ⟨rfl, by assumption⟩
      · subst e
        rw [clipR_row h hp rows2]
        rw [rows2] at HO
        rw [top2] at *
        obtain ⟨e1, e2⟩ := lost_del (a := a) (n := n) ins2
        have hv : clipB 2 a n t b = (decide (b ≥ a) && decide (t < a + n)) := by
          rw [Bool.eq_iff_iff, clip_iff]; simp; omega
        rw [hv]
        by_cases d1 : b ≥ a
        · by_cases d2 : t < a + n
          · rw [decide_eq_true d1, decide_eq_true d2]
            clear h hp p g tt e1 e2 hv
            have HX : Hid (∀ w', KcS w 2 a n t l b r w' → w'.cell? ⟨w.heap.size + 1, 0, none⟩ = some (.int .i64 t) ∧ w'.cell? ⟨w.heap.size + 1, 1, none⟩ = some (.int .i64 l) ∧ w'.cell? ⟨w.heap.size + 1, 2, none⟩ = some (.int .i64 b) ∧ w'.cell? ⟨w.heap.size + 1, 3, none⟩ = some (.int .i64 r) ∧ KcS w 2 a n t l b r w') := fun w' h => ⟨h.2.1.2.1, h.2.1.2.2.1, h.2.1.2.2.2.1, h.2.1.2.2.2.2, h⟩
            go_enter Try.func19, Try.ntmps19
            go_wp2_with (first | (go_at_call 28; refine (HR.out _).mono ?_; rintro e w1 ⟨rfl, hb⟩; have hs := H0.out.below hb; have ⟨⟨z1, k0, k1, k2⟩, ⟨z2, j0, j1, j2, j3⟩, hbz⟩ := hs; have HS1 := hide hs; clear hs hb) | (go_at_call 36; refine (HP.out _).mono ?_; rintro e w2 ⟨rfl, hb⟩; have hs := HS1.out.below hb; clear z1 k0 k1 k2 z2 j0 j1 j2 j3 hbz; have ⟨⟨z1, k0, k1, k2⟩, ⟨z2, j0, j1, j2, j3⟩, hbz⟩ := hs; have HS2 := hide hs; clear hs hb))
            have hs8 := HX.out _ HS2.out
            go_region_held3 (fun w' => w'.cell? ⟨w.heap.size + 1, 0, none⟩ = some (.int .i64 t) ∧ w'.cell? ⟨w.heap.size + 1, 1, none⟩ = some (.int .i64 l) ∧ w'.cell? ⟨w.heap.size + 1, 2, none⟩ = some (.int .i64 b) ∧ w'.cell? ⟨w.heap.size + 1, 3, none⟩ = some (.int .i64 r) ∧ KcS w 2 a n t l b r w') (first | exact hs8 | assumption | exact HX.out _ (KcS.drew (And.right (And.right (And.right (And.right (by assumption))))))) (fail)
            have hsd : KcS w 2 a n t l b r w2.drew := And.right (And.right (And.right (And.right (by assumption))))
            generalize w2.drew = wd at *
            clear z1 k0 k1 k2 z2 j0 j1 j2 j3 hbz hs8 HS2
            have ⟨⟨z1, k0, k1, k2⟩, ⟨z2, j0, j1, j2, j3⟩, hbz⟩ := hsd
            have HD2 := hide hsd
            clear hsd
            go_wp2_with (go_at_call 30; refine (HO.out _).mono ?_; rintro e w3 ⟨rfl, hb⟩; have hs := HD2.out.below hb; clear z1 k0 k1 k2 z2 j0 j1 j2 j3 hbz; have ⟨⟨z1, k0, k1, k2⟩, ⟨z2, j0, j1, j2, j3⟩, hbz⟩ := hs; have HS3 := hide hs; clear hs hb)
            have hs8 := HX.out _ HS3.out
            go_region_held3 (fun w' => w'.cell? ⟨w.heap.size + 1, 0, none⟩ = some (.int .i64 t) ∧ w'.cell? ⟨w.heap.size + 1, 1, none⟩ = some (.int .i64 l) ∧ w'.cell? ⟨w.heap.size + 1, 2, none⟩ = some (.int .i64 b) ∧ w'.cell? ⟨w.heap.size + 1, 3, none⟩ = some (.int .i64 r) ∧ KcS w 2 a n t l b r w') (first | exact hs8 | assumption | exact HX.out _ (KcS.drew (And.right (And.right (And.right (And.right (by assumption))))))) (fail)
            have hsd : KcS w 2 a n t l b r w3.drew := And.right (And.right (And.right (And.right (by assumption))))
            generalize w3.drew = wf at *
            clear z1 k0 k1 k2 z2 j0 j1 j2 j3 hbz hs8 HS3
            have ⟨⟨z1, k0, k1, k2⟩, ⟨z2, j0, j1, j2, j3⟩, hbz⟩ := hsd
            have HD3 := hide hsd
            clear hsd
            go_wp2_with fail
            go_ret2
            exact ⟨rfl, by assumption⟩
          · rw [decide_eq_true d1, decide_eq_false d2]
            have d3 : (t < a + n) = False := by simpa using d2
            clear h hp p g tt e1 e2 hv d2
            have HX : Hid (∀ w', KcS w 2 a n t l b r w' → w'.cell? ⟨w.heap.size + 1, 0, none⟩ = some (.int .i64 t) ∧ w'.cell? ⟨w.heap.size + 1, 1, none⟩ = some (.int .i64 l) ∧ w'.cell? ⟨w.heap.size + 1, 2, none⟩ = some (.int .i64 b) ∧ w'.cell? ⟨w.heap.size + 1, 3, none⟩ = some (.int .i64 r) ∧ KcS w 2 a n t l b r w') := fun w' h => ⟨h.2.1.2.1, h.2.1.2.2.1, h.2.1.2.2.2.1, h.2.1.2.2.2.2, h⟩
            go_enter Try.func19, Try.ntmps19
            go_wp2_with (first | (go_at_call 28; refine (HR.out _).mono ?_; rintro e w1 ⟨rfl, hb⟩; have hs := H0.out.below hb; have ⟨⟨z1, k0, k1, k2⟩, ⟨z2, j0, j1, j2, j3⟩, hbz⟩ := hs; have HS1 := hide hs; clear hs hb) | (go_at_call 36; refine (HP.out _).mono ?_; rintro e w2 ⟨rfl, hb⟩; have hs := HS1.out.below hb; clear z1 k0 k1 k2 z2 j0 j1 j2 j3 hbz; have ⟨⟨z1, k0, k1, k2⟩, ⟨z2, j0, j1, j2, j3⟩, hbz⟩ := hs; have HS2 := hide hs; clear hs hb))
            have hs8 := HX.out _ HS2.out
            go_region_held3 (fun w' => w'.cell? ⟨w.heap.size + 1, 0, none⟩ = some (.int .i64 t) ∧ w'.cell? ⟨w.heap.size + 1, 1, none⟩ = some (.int .i64 l) ∧ w'.cell? ⟨w.heap.size + 1, 2, none⟩ = some (.int .i64 b) ∧ w'.cell? ⟨w.heap.size + 1, 3, none⟩ = some (.int .i64 r) ∧ KcS w 2 a n t l b r w') (first | exact hs8 | assumption | exact HX.out _ (KcS.drew (And.right (And.right (And.right (And.right (by assumption))))))) (fail)
            have hsd : KcS w 2 a n t l b r w2.drew := And.right (And.right (And.right (And.right (by assumption))))
            generalize w2.drew = wd at *
            clear z1 k0 k1 k2 z2 j0 j1 j2 j3 hbz hs8 HS2
            have ⟨⟨z1, k0, k1, k2⟩, ⟨z2, j0, j1, j2, j3⟩, hbz⟩ := hsd
            have HD2 := hide hsd
            clear hsd
            go_wp2_with (go_at_call 30; refine (HO.out _).mono ?_; rintro e w3 ⟨rfl, hb⟩; have hs := HD2.out.below hb; clear z1 k0 k1 k2 z2 j0 j1 j2 j3 hbz; have ⟨⟨z1, k0, k1, k2⟩, ⟨z2, j0, j1, j2, j3⟩, hbz⟩ := hs; have HS3 := hide hs; clear hs hb)
            have hs8 := HX.out _ HS3.out
            go_region_held3 (fun w' => w'.cell? ⟨w.heap.size + 1, 0, none⟩ = some (.int .i64 t) ∧ w'.cell? ⟨w.heap.size + 1, 1, none⟩ = some (.int .i64 l) ∧ w'.cell? ⟨w.heap.size + 1, 2, none⟩ = some (.int .i64 b) ∧ w'.cell? ⟨w.heap.size + 1, 3, none⟩ = some (.int .i64 r) ∧ KcS w 2 a n t l b r w') (first | exact hs8 | assumption | exact HX.out _ (KcS.drew (And.right (And.right (And.right (And.right (by assumption))))))) (fail)
            have hsd : KcS w 2 a n t l b r w3.drew := And.right (And.right (And.right (And.right (by assumption))))
            generalize w3.drew = wf at *
            clear z1 k0 k1 k2 z2 j0 j1 j2 j3 hbz hs8 HS3
            have ⟨⟨z1, k0, k1, k2⟩, ⟨z2, j0, j1, j2, j3⟩, hbz⟩ := hsd
            have HD3 := hide hsd
            clear hsd
            go_wp2_with fail
            go_ret2
            exact ⟨rfl, by assumption⟩
        · rw [decide_eq_false d1]
          clear h hp p g tt e1 e2 hv
          have HX : Hid (∀ w', KcS w 2 a n t l b r w' → w'.cell? ⟨w.heap.size + 1, 0, none⟩ = some (.int .i64 t) ∧ w'.cell? ⟨w.heap.size + 1, 1, none⟩ = some (.int .i64 l) ∧ w'.cell? ⟨w.heap.size + 1, 2, none⟩ = some (.int .i64 b) ∧ w'.cell? ⟨w.heap.size + 1, 3, none⟩ = some (.int .i64 r) ∧ KcS w 2 a n t l b r w') := fun w' h => ⟨h.2.1.2.1, h.2.1.2.2.1, h.2.1.2.2.2.1, h.2.1.2.2.2.2, h⟩
          go_enter Try.func19, Try.ntmps19
          go_wp2_with (first | (go_at_call 28; refine (HR.out _).mono ?_; rintro e w1 ⟨rfl, hb⟩; have hs := H0.out.below hb; have ⟨⟨z1, k0, k1, k2⟩, ⟨z2, j0, j1, j2, j3⟩, hbz⟩ := hs; have HS1 := hide hs; clear hs hb) | (go_at_call 36; refine (HP.out _).mono ?_; rintro e w2 ⟨rfl, hb⟩; have hs := HS1.out.below hb; clear z1 k0 k1 k2 z2 j0 j1 j2 j3 hbz; have ⟨⟨z1, k0, k1, k2⟩, ⟨z2, j0, j1, j2, j3⟩, hbz⟩ := hs; have HS2 := hide hs; clear hs hb))
          have hs8 := HX.out _ HS2.out
          go_region_held3 (fun w' => w'.cell? ⟨w.heap.size + 1, 0, none⟩ = some (.int .i64 t) ∧ w'.cell? ⟨w.heap.size + 1, 1, none⟩ = some (.int .i64 l) ∧ w'.cell? ⟨w.heap.size + 1, 2, none⟩ = some (.int .i64 b) ∧ w'.cell? ⟨w.heap.size + 1, 3, none⟩ = some (.int .i64 r) ∧ KcS w 2 a n t l b r w') (first | exact hs8 | assumption | exact HX.out _ (KcS.drew (And.right (And.right (And.right (And.right (by assumption))))))) (fail)
          have hsd : KcS w 2 a n t l b r w2.drew := And.right (And.right (And.right (And.right (by assumption))))
          generalize w2.drew = wd at *
          clear z1 k0 k1 k2 z2 j0 j1 j2 j3 hbz hs8 HS2
          have ⟨⟨z1, k0, k1, k2⟩, ⟨z2, j0, j1, j2, j3⟩, hbz⟩ := hsd
          have HD2 := hide hsd
          clear hsd
          go_wp2_with (go_at_call 30; refine (HO.out _).mono ?_; rintro e w3 ⟨rfl, hb⟩; have hs := HD2.out.below hb; clear z1 k0 k1 k2 z2 j0 j1 j2 j3 hbz; have ⟨⟨z1, k0, k1, k2⟩, ⟨z2, j0, j1, j2, j3⟩, hbz⟩ := hs; have HS3 := hide hs; clear hs hb)
          have hs8 := HX.out _ HS3.out
          go_region_held3 (fun w' => w'.cell? ⟨w.heap.size + 1, 0, none⟩ = some (.int .i64 t) ∧ w'.cell? ⟨w.heap.size + 1, 1, none⟩ = some (.int .i64 l) ∧ w'.cell? ⟨w.heap.size + 1, 2, none⟩ = some (.int .i64 b) ∧ w'.cell? ⟨w.heap.size + 1, 3, none⟩ = some (.int .i64 r) ∧ KcS w 2 a n t l b r w') (first | exact hs8 | assumption | exact HX.out _ (KcS.drew (And.right (And.right (And.right (And.right (by assumption))))))) (fail)
          have hsd : KcS w 2 a n t l b r w3.drew := And.right (And.right (And.right (And.right (by assumption))))
          generalize w3.drew = wf at *
          clear z1 k0 k1 k2 z2 j0 j1 j2 j3 hbz hs8 HS3
          have ⟨⟨z1, k0, k1, k2⟩, ⟨z2, j0, j1, j2, j3⟩, hbz⟩ := hsd
          have HD3 := hide hsd
          clear hsd
          go_wp2_with fail
          go_ret2
          exact ⟨rfl, by assumption⟩
      · subst e
        rw [clipR_col h hp rows3]
        rw [rows3] at HO
        rw [top3] at *
        have HL : Hid (∀ W : World, Calls Try.prog 31 #[.agg #[.int .i64 3, .int .i64 a, .int .i64 n], .int .i64 r] W fun e w' => e = .returned (.tuple #[.int .i64 (lineR 3 a n r).1, .int .i64 (lineR 3 a n r).2]) ∧ Below W.heap.size W w') := fun W => rline_any h (by omega) (by rw [top3]; omega) W
        obtain ⟨e1, e2, e3⟩ := lost_ins h ins3
        rw [top3] at e1 e2
        cases hq : takenB 3 a n r
        · rw [show clipB 3 a n l r = false by
            have := taken_no.1 hq
            cases hc : clipB 3 a n l r
            · rfl
            · have := clip_iff.1 hc; omega]
          rw [lineR_no hq] at HL
          generalize carryR 3 a n r = v at *
          clear h hp p g tt hq e1 e2 e3
          have HX : Hid (∀ w', KcS w 3 a n t l b r w' → w'.cell? ⟨w.heap.size + 1, 0, none⟩ = some (.int .i64 t) ∧ w'.cell? ⟨w.heap.size + 1, 1, none⟩ = some (.int .i64 l) ∧ w'.cell? ⟨w.heap.size + 1, 2, none⟩ = some (.int .i64 b) ∧ w'.cell? ⟨w.heap.size + 1, 3, none⟩ = some (.int .i64 r) ∧ KcS w 3 a n t l b r w') := fun w' h => ⟨h.2.1.2.1, h.2.1.2.2.1, h.2.1.2.2.2.1, h.2.1.2.2.2.2, h⟩
          go_enter Try.func19, Try.ntmps19
          go_wp2_with (first | (go_at_call 28; refine (HR.out _).mono ?_; rintro e w1 ⟨rfl, hb⟩; have hs := H0.out.below hb; have ⟨⟨z1, k0, k1, k2⟩, ⟨z2, j0, j1, j2, j3⟩, hbz⟩ := hs; have HS1 := hide hs; clear hs hb) | (go_at_call 36; refine (HP.out _).mono ?_; rintro e w2 ⟨rfl, hb⟩; have hs := HS1.out.below hb; clear z1 k0 k1 k2 z2 j0 j1 j2 j3 hbz; have ⟨⟨z1, k0, k1, k2⟩, ⟨z2, j0, j1, j2, j3⟩, hbz⟩ := hs; have HS2 := hide hs; clear hs hb))
          have hs8 := HX.out _ HS2.out
          go_region_held3 (fun w' => w'.cell? ⟨w.heap.size + 1, 0, none⟩ = some (.int .i64 t) ∧ w'.cell? ⟨w.heap.size + 1, 1, none⟩ = some (.int .i64 l) ∧ w'.cell? ⟨w.heap.size + 1, 2, none⟩ = some (.int .i64 b) ∧ w'.cell? ⟨w.heap.size + 1, 3, none⟩ = some (.int .i64 r) ∧ KcS w 3 a n t l b r w') (first | exact hs8 | assumption | exact HX.out _ (KcS.drew (And.right (And.right (And.right (And.right (by assumption))))))) (fail)
          have hsd : KcS w 3 a n t l b r w2.drew := And.right (And.right (And.right (And.right (by assumption))))
          generalize w2.drew = wd at *
          clear z1 k0 k1 k2 z2 j0 j1 j2 j3 hbz hs8 HS2
          have ⟨⟨z1, k0, k1, k2⟩, ⟨z2, j0, j1, j2, j3⟩, hbz⟩ := hsd
          have HD2 := hide hsd
          clear hsd
          go_wp2_with (first | (go_at_call 30; refine (HO.out _).mono ?_; rintro e w3 ⟨rfl, hb⟩; have hs := HD2.out.below hb; clear z1 k0 k1 k2 z2 j0 j1 j2 j3 hbz; have ⟨⟨z1, k0, k1, k2⟩, ⟨z2, j0, j1, j2, j3⟩, hbz⟩ := hs; have HS3 := hide hs; clear hs hb) | (go_at_call 31; refine (HL.out _).mono ?_; rintro e w4 ⟨rfl, hb⟩; have hs := HS3.out.below hb; clear z1 k0 k1 k2 z2 j0 j1 j2 j3 hbz; have ⟨⟨z1, k0, k1, k2⟩, ⟨z2, j0, j1, j2, j3⟩, hbz⟩ := hs; have HS4 := hide hs; clear hs hb))
          go_ret2
          exact ⟨rfl, by assumption⟩
        · rw [show clipB 3 a n l r = true by
            have := taken_iff.1 hq
            exact clip_iff.2 (by omega)]
          rw [lineR_yes hq, show fateR 3 = 2 by decide] at HL
          clear h hp p g tt hq e1 e2 e3
          have HX : Hid (∀ w', KcS w 3 a n t l b r w' → w'.cell? ⟨w.heap.size + 1, 0, none⟩ = some (.int .i64 t) ∧ w'.cell? ⟨w.heap.size + 1, 1, none⟩ = some (.int .i64 l) ∧ w'.cell? ⟨w.heap.size + 1, 2, none⟩ = some (.int .i64 b) ∧ w'.cell? ⟨w.heap.size + 1, 3, none⟩ = some (.int .i64 r) ∧ KcS w 3 a n t l b r w') := fun w' h => ⟨h.2.1.2.1, h.2.1.2.2.1, h.2.1.2.2.2.1, h.2.1.2.2.2.2, h⟩
          go_enter Try.func19, Try.ntmps19
          go_wp2_with (first | (go_at_call 28; refine (HR.out _).mono ?_; rintro e w1 ⟨rfl, hb⟩; have hs := H0.out.below hb; have ⟨⟨z1, k0, k1, k2⟩, ⟨z2, j0, j1, j2, j3⟩, hbz⟩ := hs; have HS1 := hide hs; clear hs hb) | (go_at_call 36; refine (HP.out _).mono ?_; rintro e w2 ⟨rfl, hb⟩; have hs := HS1.out.below hb; clear z1 k0 k1 k2 z2 j0 j1 j2 j3 hbz; have ⟨⟨z1, k0, k1, k2⟩, ⟨z2, j0, j1, j2, j3⟩, hbz⟩ := hs; have HS2 := hide hs; clear hs hb))
          have hs8 := HX.out _ HS2.out
          go_region_held3 (fun w' => w'.cell? ⟨w.heap.size + 1, 0, none⟩ = some (.int .i64 t) ∧ w'.cell? ⟨w.heap.size + 1, 1, none⟩ = some (.int .i64 l) ∧ w'.cell? ⟨w.heap.size + 1, 2, none⟩ = some (.int .i64 b) ∧ w'.cell? ⟨w.heap.size + 1, 3, none⟩ = some (.int .i64 r) ∧ KcS w 3 a n t l b r w') (first | exact hs8 | assumption | exact HX.out _ (KcS.drew (And.right (And.right (And.right (And.right (by assumption))))))) (fail)
          have hsd : KcS w 3 a n t l b r w2.drew := And.right (And.right (And.right (And.right (by assumption))))
          generalize w2.drew = wd at *
          clear z1 k0 k1 k2 z2 j0 j1 j2 j3 hbz hs8 HS2
          have ⟨⟨z1, k0, k1, k2⟩, ⟨z2, j0, j1, j2, j3⟩, hbz⟩ := hsd
          have HD2 := hide hsd
          clear hsd
          go_wp2_with (first | (go_at_call 30; refine (HO.out _).mono ?_; rintro e w3 ⟨rfl, hb⟩; have hs := HD2.out.below hb; clear z1 k0 k1 k2 z2 j0 j1 j2 j3 hbz; have ⟨⟨z1, k0, k1, k2⟩, ⟨z2, j0, j1, j2, j3⟩, hbz⟩ := hs; have HS3 := hide hs; clear hs hb) | (go_at_call 31; refine (HL.out _).mono ?_; rintro e w4 ⟨rfl, hb⟩; have hs := HS3.out.below hb; clear z1 k0 k1 k2 z2 j0 j1 j2 j3 hbz; have ⟨⟨z1, k0, k1, k2⟩, ⟨z2, j0, j1, j2, j3⟩, hbz⟩ := hs; have HS4 := hide hs; clear hs hb))
          go_ret2
          exact ⟨rfl, by assumption⟩
      · subst e
        rw [clipR_col h hp rows4]
        rw [rows4] at HO
        rw [top4] at *
        obtain ⟨e1, e2⟩ := lost_del (a := a) (n := n) ins4
        have hv : clipB 4 a n l r = (decide (r ≥ a) && decide (l < a + n)) := by
          rw [Bool.eq_iff_iff, clip_iff]; simp; omega
        rw [hv]
        by_cases d1 : r ≥ a
        · by_cases d2 : l < a + n
          · rw [decide_eq_true d1, decide_eq_true d2]
            clear h hp p g tt e1 e2 hv
            have HX : Hid (∀ w', KcS w 4 a n t l b r w' → w'.cell? ⟨w.heap.size + 1, 0, none⟩ = some (.int .i64 t) ∧ w'.cell? ⟨w.heap.size + 1, 1, none⟩ = some (.int .i64 l) ∧ w'.cell? ⟨w.heap.size + 1, 2, none⟩ = some (.int .i64 b) ∧ w'.cell? ⟨w.heap.size + 1, 3, none⟩ = some (.int .i64 r) ∧ KcS w 4 a n t l b r w') := fun w' h => ⟨h.2.1.2.1, h.2.1.2.2.1, h.2.1.2.2.2.1, h.2.1.2.2.2.2, h⟩
            go_enter Try.func19, Try.ntmps19
            go_wp2_with (first | (go_at_call 28; refine (HR.out _).mono ?_; rintro e w1 ⟨rfl, hb⟩; have hs := H0.out.below hb; have ⟨⟨z1, k0, k1, k2⟩, ⟨z2, j0, j1, j2, j3⟩, hbz⟩ := hs; have HS1 := hide hs; clear hs hb) | (go_at_call 36; refine (HP.out _).mono ?_; rintro e w2 ⟨rfl, hb⟩; have hs := HS1.out.below hb; clear z1 k0 k1 k2 z2 j0 j1 j2 j3 hbz; have ⟨⟨z1, k0, k1, k2⟩, ⟨z2, j0, j1, j2, j3⟩, hbz⟩ := hs; have HS2 := hide hs; clear hs hb))
            have hs8 := HX.out _ HS2.out
            go_region_held3 (fun w' => w'.cell? ⟨w.heap.size + 1, 0, none⟩ = some (.int .i64 t) ∧ w'.cell? ⟨w.heap.size + 1, 1, none⟩ = some (.int .i64 l) ∧ w'.cell? ⟨w.heap.size + 1, 2, none⟩ = some (.int .i64 b) ∧ w'.cell? ⟨w.heap.size + 1, 3, none⟩ = some (.int .i64 r) ∧ KcS w 4 a n t l b r w') (first | exact hs8 | assumption | exact HX.out _ (KcS.drew (And.right (And.right (And.right (And.right (by assumption))))))) (fail)
            have hsd : KcS w 4 a n t l b r w2.drew := And.right (And.right (And.right (And.right (by assumption))))
            generalize w2.drew = wd at *
            clear z1 k0 k1 k2 z2 j0 j1 j2 j3 hbz hs8 HS2
            have ⟨⟨z1, k0, k1, k2⟩, ⟨z2, j0, j1, j2, j3⟩, hbz⟩ := hsd
            have HD2 := hide hsd
            clear hsd
            go_wp2_with (first | (go_at_call 30; refine (HO.out _).mono ?_; rintro e w3 ⟨rfl, hb⟩; have hs := HD2.out.below hb; clear z1 k0 k1 k2 z2 j0 j1 j2 j3 hbz; have ⟨⟨z1, k0, k1, k2⟩, ⟨z2, j0, j1, j2, j3⟩, hbz⟩ := hs; have HS3 := hide hs; clear hs hb))
            go_ret2
            exact ⟨rfl, by assumption⟩
          · rw [decide_eq_true d1, decide_eq_false d2]
            have d3 : (l < a + n) = False := by simpa using d2
            clear h hp p g tt e1 e2 hv d2
            have HX : Hid (∀ w', KcS w 4 a n t l b r w' → w'.cell? ⟨w.heap.size + 1, 0, none⟩ = some (.int .i64 t) ∧ w'.cell? ⟨w.heap.size + 1, 1, none⟩ = some (.int .i64 l) ∧ w'.cell? ⟨w.heap.size + 1, 2, none⟩ = some (.int .i64 b) ∧ w'.cell? ⟨w.heap.size + 1, 3, none⟩ = some (.int .i64 r) ∧ KcS w 4 a n t l b r w') := fun w' h => ⟨h.2.1.2.1, h.2.1.2.2.1, h.2.1.2.2.2.1, h.2.1.2.2.2.2, h⟩
            go_enter Try.func19, Try.ntmps19
            go_wp2_with (first | (go_at_call 28; refine (HR.out _).mono ?_; rintro e w1 ⟨rfl, hb⟩; have hs := H0.out.below hb; have ⟨⟨z1, k0, k1, k2⟩, ⟨z2, j0, j1, j2, j3⟩, hbz⟩ := hs; have HS1 := hide hs; clear hs hb) | (go_at_call 36; refine (HP.out _).mono ?_; rintro e w2 ⟨rfl, hb⟩; have hs := HS1.out.below hb; clear z1 k0 k1 k2 z2 j0 j1 j2 j3 hbz; have ⟨⟨z1, k0, k1, k2⟩, ⟨z2, j0, j1, j2, j3⟩, hbz⟩ := hs; have HS2 := hide hs; clear hs hb))
            have hs8 := HX.out _ HS2.out
            go_region_held3 (fun w' => w'.cell? ⟨w.heap.size + 1, 0, none⟩ = some (.int .i64 t) ∧ w'.cell? ⟨w.heap.size + 1, 1, none⟩ = some (.int .i64 l) ∧ w'.cell? ⟨w.heap.size + 1, 2, none⟩ = some (.int .i64 b) ∧ w'.cell? ⟨w.heap.size + 1, 3, none⟩ = some (.int .i64 r) ∧ KcS w 4 a n t l b r w') (first | exact hs8 | assumption | exact HX.out _ (KcS.drew (And.right (And.right (And.right (And.right (by assumption))))))) (fail)
            have hsd : KcS w 4 a n t l b r w2.drew := And.right (And.right (And.right (And.right (by assumption))))
            generalize w2.drew = wd at *
            clear z1 k0 k1 k2 z2 j0 j1 j2 j3 hbz hs8 HS2
            have ⟨⟨z1, k0, k1, k2⟩, ⟨z2, j0, j1, j2, j3⟩, hbz⟩ := hsd
            have HD2 := hide hsd
            clear hsd
            go_wp2_with (first | (go_at_call 30; refine (HO.out _).mono ?_; rintro e w3 ⟨rfl, hb⟩; have hs := HD2.out.below hb; clear z1 k0 k1 k2 z2 j0 j1 j2 j3 hbz; have ⟨⟨z1, k0, k1, k2⟩, ⟨z2, j0, j1, j2, j3⟩, hbz⟩ := hs; have HS3 := hide hs; clear hs hb))
            go_ret2
            exact ⟨rfl, by assumption⟩
        · rw [decide_eq_false d1]
          clear h hp p g tt e1 e2 hv
          have HX : Hid (∀ w', KcS w 4 a n t l b r w' → w'.cell? ⟨w.heap.size + 1, 0, none⟩ = some (.int .i64 t) ∧ w'.cell? ⟨w.heap.size + 1, 1, none⟩ = some (.int .i64 l) ∧ w'.cell? ⟨w.heap.size + 1, 2, none⟩ = some (.int .i64 b) ∧ w'.cell? ⟨w.heap.size + 1, 3, none⟩ = some (.int .i64 r) ∧ KcS w 4 a n t l b r w') := fun w' h => ⟨h.2.1.2.1, h.2.1.2.2.1, h.2.1.2.2.2.1, h.2.1.2.2.2.2, h⟩
          go_enter Try.func19, Try.ntmps19
          go_wp2_with (first | (go_at_call 28; refine (HR.out _).mono ?_; rintro e w1 ⟨rfl, hb⟩; have hs := H0.out.below hb; have ⟨⟨z1, k0, k1, k2⟩, ⟨z2, j0, j1, j2, j3⟩, hbz⟩ := hs; have HS1 := hide hs; clear hs hb) | (go_at_call 36; refine (HP.out _).mono ?_; rintro e w2 ⟨rfl, hb⟩; have hs := HS1.out.below hb; clear z1 k0 k1 k2 z2 j0 j1 j2 j3 hbz; have ⟨⟨z1, k0, k1, k2⟩, ⟨z2, j0, j1, j2, j3⟩, hbz⟩ := hs; have HS2 := hide hs; clear hs hb))
          have hs8 := HX.out _ HS2.out
          go_region_held3 (fun w' => w'.cell? ⟨w.heap.size + 1, 0, none⟩ = some (.int .i64 t) ∧ w'.cell? ⟨w.heap.size + 1, 1, none⟩ = some (.int .i64 l) ∧ w'.cell? ⟨w.heap.size + 1, 2, none⟩ = some (.int .i64 b) ∧ w'.cell? ⟨w.heap.size + 1, 3, none⟩ = some (.int .i64 r) ∧ KcS w 4 a n t l b r w') (first | exact hs8 | assumption | exact HX.out _ (KcS.drew (And.right (And.right (And.right (And.right (by assumption))))))) (fail)
          have hsd : KcS w 4 a n t l b r w2.drew := And.right (And.right (And.right (And.right (by assumption))))
          generalize w2.drew = wd at *
          clear z1 k0 k1 k2 z2 j0 j1 j2 j3 hbz hs8 HS2
          have ⟨⟨z1, k0, k1, k2⟩, ⟨z2, j0, j1, j2, j3⟩, hbz⟩ := hsd
          have HD2 := hide hsd
          clear hsd
          go_wp2_with (first | (go_at_call 30; refine (HO.out _).mono ?_; rintro e w3 ⟨rfl, hb⟩; have hs := HD2.out.below hb; clear z1 k0 k1 k2 z2 j0 j1 j2 j3 hbz; have ⟨⟨z1, k0, k1, k2⟩, ⟨z2, j0, j1, j2, j3⟩, hbz⟩ := hs; have HS3 := hide hs; clear hs hb))
          go_ret2
          exact ⟨rfl, by assumption⟩
end Go.Proofs.Ytkkoeanjmldmdaa
