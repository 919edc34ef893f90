/-
  The contract of the answer's ends. (By endsgen.py.)
-/
import Derived.Test.YtkkoeanjmldmdaaMr2
import Derived.Test.YtkkoeanjmldmdaaRegion
namespace Go.Proofs.Ytkkoeanjmldmdaa
open Go.RowKit

set_option maxRecDepth 100000 in
set_option maxHeartbeats 2000000 in
theorem rends_any {k a n f l : Int} (h : editB k a n = true) (h1 : 1 ≤ f) (h2 : f ≤ l) (h3 : l ≤ topE k) (w : World) :
    Calls Try.prog 37 #[.agg #[.int .i64 k, .int .i64 a, .int .i64 n], .int .i64 f, .int .i64 l] w fun e w' => e = .returned (.tuple #[.int .i64 (linesR k a n f l).1, .int .i64 (linesR k a n f l).2.1, .bool (linesR k a n f l).2.2]) ∧ Below w.heap.size w w' := by
  have HF : Hid (∀ W : World, Calls Try.prog 31 #[.agg #[.int .i64 k, .int .i64 a, .int .i64 n], .int .i64 f] W fun e w' => e = .returned (.tuple #[.int .i64 (lineR k a n f).1, .int .i64 (lineR k a n f).2]) ∧ Below W.heap.size W w') := fun W => rline_any h (by omega) (by omega) W
  have HL : Hid (∀ W : World, Calls Try.prog 31 #[.agg #[.int .i64 k, .int .i64 a, .int .i64 n], .int .i64 l] W fun e w' => e = .returned (.tuple #[.int .i64 (lineR k a n l).1, .int .i64 (lineR k a n l).2]) ∧ Below W.heap.size W w') := fun W => rline_any h (by omega) (by omega) W
  have HM : Hid (∀ W : World, Calls Try.prog 42 #[.agg #[.int .i64 k, .int .i64 a, .int .i64 n]] W fun e w' => e = .returned (.int .i64 (topE k)) ∧ Below W.heap.size W w') := fun W => rmost_any k a n W
  have HX : Hid (∀ w', EdS w k a n w' → w'.cell? ⟨w.heap.size, 0, none⟩ = some (.int .i64 k) ∧ w'.cell? ⟨w.heap.size, 1, none⟩ = some (.int .i64 a) ∧ w'.cell? ⟨w.heap.size, 2, none⟩ = some (.int .i64 n) ∧ EdS w k a n w') := fun w' h => ⟨h.1.2.1, h.1.2.2.1, h.1.2.2.2, h⟩
  have H0 := hide (EdS.start w k a n 24)
  have g := editB_iff.1 h
  have ht := topE_le k
  have ord := lost_ord h
  have u1 : IntKind.i64.wrap (a + n) = a + n := wrapI (by omega) (by omega)
  have u2 : IntKind.i64.wrap (a - 1) = a - 1 := wrapI (by omega) (by omega)
  cases hf : takenB k a n f
  · rw [lineR_no hf] at HF
    have tf := taken_no.1 hf
    cases hl : takenB k a n l
    · rw [lineR_no hl] at HL
      rw [linesR_yes (by rw [leftF_no hf, leftL_no hl]; exact h2), leftF_no hf, leftL_no hl]
      generalize carryR k a n f = X at *
      generalize carryR k a n l = Y at *
      clear h g ht ord hf hl h1 h2 h3 tf HX HM
      go_enter Try.func37, Try.ntmps37
      go_wp2_with (first | (go_at_call_of 31 [Value.agg #[Value.int IntKind.i64 k, Value.int IntKind.i64 a, Value.int IntKind.i64 n], Value.int IntKind.i64 f]; refine (HF.out _).mono ?_; rintro e wn ⟨rfl, hb⟩; have hs := EdS.below (by first | assumption | exact H0.out) hb; have ⟨⟨z1, k0, k1, k2⟩, hbz⟩ := hs) | (go_at_call_of 31 [Value.agg #[Value.int IntKind.i64 k, Value.int IntKind.i64 a, Value.int IntKind.i64 n], Value.int IntKind.i64 l]; refine (HL.out _).mono ?_; rintro e wn ⟨rfl, hb⟩; have hs := EdS.below (by first | assumption | exact H0.out) hb; have ⟨⟨z1, k0, k1, k2⟩, hbz⟩ := hs))
      refine bodyPost_ret (v := .tuple #[.int .i64 X, .int .i64 Y, .bool true]) (by simp [results, Try.results37, go_sem]) rfl ⟨rfl, by assumption⟩
    · rw [lineR_yes hl] at HL
      have tl := taken_iff.1 hl
      have hq : leftF k a n f ≤ leftL k a n l := by rw [leftF_no hf, leftL_yes hl]; omega
      rw [linesR_yes hq, leftF_no hf, leftL_yes hl]
      cases hi : insB k
      · obtain ⟨e1, e2⟩ := lost_del (a := a) (n := n) hi
        rw [show fateR k = 1 by simp [fateR, hi]] at HL
        rw [e1, carry_low (show a - 1 < a by omega)]
        generalize carryR k a n f = X at *
        clear h g ht ord hf hl h1 h2 h3 tf tl hq hi e1 e2 HX HM
        go_enter Try.func37, Try.ntmps37
        go_wp2_with (first | (go_at_call_of 31 [Value.agg #[Value.int IntKind.i64 k, Value.int IntKind.i64 a, Value.int IntKind.i64 n], Value.int IntKind.i64 f]; refine (HF.out _).mono ?_; rintro e wn ⟨rfl, hb⟩; have hs := EdS.below (by first | assumption | exact H0.out) hb; have ⟨⟨z1, k0, k1, k2⟩, hbz⟩ := hs) | (go_at_call_of 31 [Value.agg #[Value.int IntKind.i64 k, Value.int IntKind.i64 a, Value.int IntKind.i64 n], Value.int IntKind.i64 l]; refine (HL.out _).mono ?_; rintro e wn ⟨rfl, hb⟩; have hs := EdS.below (by first | assumption | exact H0.out) hb; have ⟨⟨z1, k0, k1, k2⟩, hbz⟩ := hs))
        refine bodyPost_ret (v := .tuple #[.int .i64 X, .int .i64 (a - 1), .bool true]) (by simp [results, Try.results37, go_sem]) rfl ⟨rfl, by assumption⟩
      · obtain ⟨e1, e2, e3⟩ := lost_ins h hi
        rw [show fateR k = 2 by simp [fateR, hi]] at HL
        by_cases d1 : f < a
        · by_cases d2 : a + n > topE k
          · rw [show lostF k a n - 1 = a - 1 by omega, carry_low (show a - 1 < a by omega)]
            generalize carryR k a n f = X at *
            generalize topE k = T at *
            clear h g ht ord hf hl h1 h2 h3 tf tl hq hi e1 e2 e3
            go_enter Try.func37, Try.ntmps37
            go_wp2_with (first | (go_at_call_of 31 [Value.agg #[Value.int IntKind.i64 k, Value.int IntKind.i64 a, Value.int IntKind.i64 n], Value.int IntKind.i64 f]; refine (HF.out _).mono ?_; rintro e wn ⟨rfl, hb⟩; have hs := EdS.below (by first | assumption | exact H0.out) hb; have ⟨⟨z1, k0, k1, k2⟩, hbz⟩ := hs) | (go_at_call_of 31 [Value.agg #[Value.int IntKind.i64 k, Value.int IntKind.i64 a, Value.int IntKind.i64 n], Value.int IntKind.i64 l]; refine (HL.out _).mono ?_; rintro e wn ⟨rfl, hb⟩; have hs := EdS.below (by first | assumption | exact H0.out) hb; have ⟨⟨z1, k0, k1, k2⟩, hbz⟩ := hs) | (go_at_call 42; refine (HM.out _).mono ?_; rintro e wn ⟨rfl, hb⟩; have hs := EdS.below (by first | assumption | exact H0.out) hb; have ⟨⟨z1, k0, k1, k2⟩, hbz⟩ := hs))
            have hs8 := HX.out _ hs
            go_region_held3 (fun w' => w'.cell? ⟨w.heap.size, 0, none⟩ = some (.int .i64 k) ∧ w'.cell? ⟨w.heap.size, 1, none⟩ = some (.int .i64 a) ∧ w'.cell? ⟨w.heap.size, 2, none⟩ = some (.int .i64 n) ∧ EdS w k a n w') (first | exact hs8 | assumption | exact HX.out _ (EdS.drew (And.right (And.right (And.right (by assumption)))))) ((go_at_call 42; refine (HM.out _).mono ?_; rintro e wn ⟨rfl, hb⟩; have hs9 := HX.out _ (EdS.below (And.right (And.right (And.right (by assumption)))) hb); have ⟨⟨z1, k0, k1, k2⟩, hbz⟩ := And.right (And.right (And.right (hs9)))))
            go_wp2
            refine bodyPost_ret (v := .tuple #[.int .i64 X, .int .i64 (a - 1), .bool true]) (by simp [results, Try.results37, go_sem]) rfl ⟨rfl, EdS.out (And.right (And.right (And.right (by assumption))))⟩
          · have hv : carryR k a n (lostF k a n - 1) = topE k := by rw [carry_ins (by omega) hi]; omega
            rw [hv]
            have d3 : (a + n > topE k) = False := by simpa using d2
            generalize carryR k a n f = X at *
            generalize topE k = T at *
            clear h g ht ord hf hl h1 h2 h3 tf tl hq hi e1 e2 e3 d2 hv
            go_enter Try.func37, Try.ntmps37
            go_wp2_with (first | (go_at_call_of 31 [Value.agg #[Value.int IntKind.i64 k, Value.int IntKind.i64 a, Value.int IntKind.i64 n], Value.int IntKind.i64 f]; refine (HF.out _).mono ?_; rintro e wn ⟨rfl, hb⟩; have hs := EdS.below (by first | assumption | exact H0.out) hb; have ⟨⟨z1, k0, k1, k2⟩, hbz⟩ := hs) | (go_at_call_of 31 [Value.agg #[Value.int IntKind.i64 k, Value.int IntKind.i64 a, Value.int IntKind.i64 n], Value.int IntKind.i64 l]; refine (HL.out _).mono ?_; rintro e wn ⟨rfl, hb⟩; have hs := EdS.below (by first | assumption | exact H0.out) hb; have ⟨⟨z1, k0, k1, k2⟩, hbz⟩ := hs) | (go_at_call 42; refine (HM.out _).mono ?_; rintro e wn ⟨rfl, hb⟩; have hs := EdS.below (by first | assumption | exact H0.out) hb; have ⟨⟨z1, k0, k1, k2⟩, hbz⟩ := hs))
            have hs8 := HX.out _ hs
            go_region_held3 (fun w' => w'.cell? ⟨w.heap.size, 0, none⟩ = some (.int .i64 k) ∧ w'.cell? ⟨w.heap.size, 1, none⟩ = some (.int .i64 a) ∧ w'.cell? ⟨w.heap.size, 2, none⟩ = some (.int .i64 n) ∧ EdS w k a n w') (first | exact hs8 | assumption | exact HX.out _ (EdS.drew (And.right (And.right (And.right (by assumption)))))) ((go_at_call 42; refine (HM.out _).mono ?_; rintro e wn ⟨rfl, hb⟩; have hs9 := HX.out _ (EdS.below (And.right (And.right (And.right (by assumption)))) hb); have ⟨⟨z1, k0, k1, k2⟩, hbz⟩ := And.right (And.right (And.right (hs9)))))
            go_wp2
            refine bodyPost_ret (v := .tuple #[.int .i64 X, .int .i64 T, .bool true]) (by simp [results, Try.results37, go_sem]) rfl ⟨rfl, EdS.out (And.right (And.right (And.right (by assumption))))⟩
        · have hv : carryR k a n (lostF k a n - 1) = topE k := by rw [carry_ins (by omega) hi]; omega
          rw [hv]
          have d3 : (f < a) = False := by simpa using d1
          generalize carryR k a n f = X at *
          generalize topE k = T at *
          clear h g ht ord hf hl h1 h2 h3 tf tl hq hi e1 e2 e3 d1 hv
          go_enter Try.func37, Try.ntmps37
          go_wp2_with (first | (go_at_call_of 31 [Value.agg #[Value.int IntKind.i64 k, Value.int IntKind.i64 a, Value.int IntKind.i64 n], Value.int IntKind.i64 f]; refine (HF.out _).mono ?_; rintro e wn ⟨rfl, hb⟩; have hs := EdS.below (by first | assumption | exact H0.out) hb; have ⟨⟨z1, k0, k1, k2⟩, hbz⟩ := hs) | (go_at_call_of 31 [Value.agg #[Value.int IntKind.i64 k, Value.int IntKind.i64 a, Value.int IntKind.i64 n], Value.int IntKind.i64 l]; refine (HL.out _).mono ?_; rintro e wn ⟨rfl, hb⟩; have hs := EdS.below (by first | assumption | exact H0.out) hb; have ⟨⟨z1, k0, k1, k2⟩, hbz⟩ := hs) | (go_at_call 42; refine (HM.out _).mono ?_; rintro e wn ⟨rfl, hb⟩; have hs := EdS.below (by first | assumption | exact H0.out) hb; have ⟨⟨z1, k0, k1, k2⟩, hbz⟩ := hs))
          have hs8 := HX.out _ hs
          refine wp_region_held_drew (S := fun w' => w'.cell? ⟨w.heap.size, 0, none⟩ = some (.int .i64 k) ∧ w'.cell? ⟨w.heap.size, 1, none⟩ = some (.int .i64 a) ∧ w'.cell? ⟨w.heap.size, 2, none⟩ = some (.int .i64 n) ∧ EdS w k a n w') (by kernel_rfl) (HX.out _ (EdS.drew hs)) (fun hHeld => ?_)
          (refine takeD (i := 0) (some 55) rfl rfl (by kernel_rfl) (by kernel_rfl) (by kernel_rfl) (fun _ _ _ h => h) (v := ?_) rfl ?_ (by assumption) ?_; rotate_left; (focus (intro w hSw; (try dsimp only at hSw); first | (go_simp; done) | (go_simp; with_reducible rfl))); try simp only [Act.put, List.setIfInBounds_toArray, List.set_cons_zero, List.set_cons_succ]); (refine takeD (i := 1) (some 56) rfl rfl (by kernel_rfl) (by kernel_rfl) (by kernel_rfl) (fun _ _ _ h => h) (v := ?_) rfl ?_ (by assumption) ?_; rotate_left; (focus (intro w hSw; (try dsimp only at hSw); first | (go_simp; done) | (go_simp; with_reducible rfl))); try simp only [Act.put, List.setIfInBounds_toArray, List.set_cons_zero, List.set_cons_succ]); (refine takeD (i := 2) (some 57) rfl rfl (by kernel_rfl) (by kernel_rfl) (by kernel_rfl) (fun _ _ _ h => h) (v := ?_) rfl ?_ (by assumption) ?_; rotate_left; (focus (intro w hSw; (try dsimp only at hSw); first | (go_simp; done) | (go_simp; with_reducible rfl))); try simp only [Act.put, List.setIfInBounds_toArray, List.set_cons_zero, List.set_cons_succ]); (refine takeD (i := 3) (some 58) rfl rfl (by kernel_rfl) (by kernel_rfl) (by kernel_rfl) (fun _ _ _ h => h) (v := ?_) rfl ?_ (by assumption) ?_; rotate_left; (focus (intro w hSw; (try dsimp only at hSw); first | (go_simp; done) | (go_simp; with_reducible rfl))); try simp only [Act.put, List.setIfInBounds_toArray, List.set_cons_zero, List.set_cons_succ]); (refine takeD (i := 4) (some 59) rfl rfl (by kernel_rfl) (by kernel_rfl) (by kernel_rfl) (fun _ _ _ h => h) (v := ?_) rfl ?_ (by assumption) ?_; rotate_left; (focus (intro w hSw; (try dsimp only at hSw); first | (go_simp; done) | (go_simp; with_reducible rfl))); try simp only [Act.put, List.setIfInBounds_toArray, List.set_cons_zero, List.set_cons_succ]); (refine skipD (i := 5) (some 60) rfl rfl (by kernel_rfl) (by kernel_rfl) (by kernel_rfl) (fun _ _ _ h => h) rfl (by assumption) ?_; try simp only [Act.put, List.setIfInBounds_toArray, List.set_cons_zero, List.set_cons_succ]); (refine skipD (i := 6) (some 61) rfl rfl (by kernel_rfl) (by kernel_rfl) (by kernel_rfl) (fun _ _ _ h => h) rfl (by assumption) ?_; try simp only [Act.put, List.setIfInBounds_toArray, List.set_cons_zero, List.set_cons_succ]); (refine skipD (i := 7) (some 62) rfl rfl (by kernel_rfl) (by kernel_rfl) (by kernel_rfl) (fun _ _ _ h => h) rfl (by assumption) ?_; try simp only [Act.put, List.setIfInBounds_toArray, List.set_cons_zero, List.set_cons_succ]); (refine skipD (i := 8) (some 63) rfl rfl (by kernel_rfl) (by kernel_rfl) (by kernel_rfl) (fun _ _ _ h => h) rfl (by assumption) ?_; try simp only [Act.put, List.setIfInBounds_toArray, List.set_cons_zero, List.set_cons_succ]); (refine skipD (i := 9) (some 64) rfl rfl (by kernel_rfl) (by kernel_rfl) (by kernel_rfl) (fun _ _ _ h => h) rfl (by assumption) ?_; try simp only [Act.put, List.setIfInBounds_toArray, List.set_cons_zero, List.set_cons_succ]); (refine skipD (i := 10) (some 65) rfl rfl (by kernel_rfl) (by kernel_rfl) (by kernel_rfl) (fun _ _ _ h => h) rfl (by assumption) ?_; try simp only [Act.put, List.setIfInBounds_toArray, List.set_cons_zero, List.set_cons_succ]); (refine skipD (i := 11) (some 66) rfl rfl (by kernel_rfl) (by kernel_rfl) (by kernel_rfl) (fun _ _ _ h => h) rfl (by assumption) ?_; try simp only [Act.put, List.setIfInBounds_toArray, List.set_cons_zero, List.set_cons_succ]); (refine skipD (i := 12) (some 67) rfl rfl (by kernel_rfl) (by kernel_rfl) (by kernel_rfl) (fun _ _ _ h => h) rfl (by assumption) ?_; try simp only [Act.put, List.setIfInBounds_toArray, List.set_cons_zero, List.set_cons_succ]); (refine takeD (i := 13) (some 68) rfl rfl (by kernel_rfl) (by kernel_rfl) (by kernel_rfl) (fun _ _ _ h => h) (v := ?_) rfl ?_ (by assumption) ?_; rotate_left; (focus (intro w hSw; (try dsimp only at hSw); first | (go_simp; done) | (go_simp; with_reducible rfl))); try simp only [Act.put, List.setIfInBounds_toArray, List.set_cons_zero, List.set_cons_succ]); refine wpAnyH_done (by kernel_rfl) ?_ _
          go_wp2
          refine bodyPost_ret (v := .tuple #[.int .i64 X, .int .i64 T, .bool true]) (by simp [results, Try.results37, go_sem]) rfl ⟨rfl, EdS.out (And.right (And.right (And.right (by assumption))))⟩
  · have tf := taken_iff.1 hf
    rw [lineR_yes hf] at HF
    cases hi : insB k
    · obtain ⟨e1, e2⟩ := lost_del (a := a) (n := n) hi
      rw [show fateR k = 1 by simp [fateR, hi]] at HF
      by_cases d1 : l < a + n
      · have hl : takenB k a n l = true := taken_iff.2 (by omega)
        rw [linesR_no (by rw [leftF_yes hf, leftL_yes hl]; omega)]
        clear h g ht ord hf hl h1 h2 h3 tf hi e1 e2 HX HM HL
        go_enter Try.func37, Try.ntmps37
        go_wp2_with (first | (go_at_call_of 31 [Value.agg #[Value.int IntKind.i64 k, Value.int IntKind.i64 a, Value.int IntKind.i64 n], Value.int IntKind.i64 f]; refine (HF.out _).mono ?_; rintro e wn ⟨rfl, hb⟩; have hs := EdS.below (by first | assumption | exact H0.out) hb; have ⟨⟨z1, k0, k1, k2⟩, hbz⟩ := hs))
        refine bodyPost_ret (v := .tuple #[.int .i64 0, .int .i64 0, .bool false]) (by simp [results, Try.results37, go_sem]) rfl ⟨rfl, by assumption⟩
      · have hl : takenB k a n l = false := taken_no.2 (by omega)
        have hg : takenB k a n (a + n) = false := taken_no.2 (by omega)
        have HG : Hid (∀ W : World, Calls Try.prog 31 #[.agg #[.int .i64 k, .int .i64 a, .int .i64 n], .int .i64 (a + n)] W fun e w' => e = .returned (.tuple #[.int .i64 (carryR k a n (a + n)), .int .i64 0]) ∧ Below W.heap.size W w') := fun W => by have := rline_any h (x := a + n) (by omega) (by omega) W; rw [lineR_no hg] at this; exact this
        rw [lineR_no hl] at HL
        have hq : leftF k a n f ≤ leftL k a n l := by rw [leftF_yes hf, leftL_no hl]; omega
        rw [linesR_yes hq, leftF_yes hf, leftL_no hl, show lostL k a n + 1 = a + n by omega]
        generalize carryR k a n (a + n) = X at *
        generalize carryR k a n l = Y at *
        clear h g ht ord hf hl h1 h2 h3 tf hi e1 e2 HX HM hq hg
        go_enter Try.func37, Try.ntmps37
        go_wp2_with (first | (go_at_call_of 31 [Value.agg #[Value.int IntKind.i64 k, Value.int IntKind.i64 a, Value.int IntKind.i64 n], Value.int IntKind.i64 f]; refine (HF.out _).mono ?_; rintro e wn ⟨rfl, hb⟩; have hs := EdS.below (by first | assumption | exact H0.out) hb; have ⟨⟨z1, k0, k1, k2⟩, hbz⟩ := hs) | (go_at_call_of 31 [Value.agg #[Value.int IntKind.i64 k, Value.int IntKind.i64 a, Value.int IntKind.i64 n], Value.int IntKind.i64 (a + n)]; refine (HG.out _).mono ?_; rintro e wn ⟨rfl, hb⟩; have hs := EdS.below (by first | assumption | exact H0.out) hb; have ⟨⟨z1, k0, k1, k2⟩, hbz⟩ := hs) | (go_at_call_of 31 [Value.agg #[Value.int IntKind.i64 k, Value.int IntKind.i64 a, Value.int IntKind.i64 n], Value.int IntKind.i64 l]; refine (HL.out _).mono ?_; rintro e wn ⟨rfl, hb⟩; have hs := EdS.below (by first | assumption | exact H0.out) hb; have ⟨⟨z1, k0, k1, k2⟩, hbz⟩ := hs))
        refine bodyPost_ret (v := .tuple #[.int .i64 X, .int .i64 Y, .bool true]) (by simp [results, Try.results37, go_sem]) rfl ⟨rfl, by assumption⟩
    · obtain ⟨e1, e2, e3⟩ := lost_ins h hi
      rw [show fateR k = 2 by simp [fateR, hi]] at HF
      have hl : takenB k a n l = true := taken_iff.2 (by omega)
      rw [linesR_no (by rw [leftF_yes hf, leftL_yes hl]; omega)]
      clear h g ht ord hf hl h1 h2 h3 tf hi e1 e2 e3 HX HM HL
      go_enter Try.func37, Try.ntmps37
      go_wp2_with (first | (go_at_call_of 31 [Value.agg #[Value.int IntKind.i64 k, Value.int IntKind.i64 a, Value.int IntKind.i64 n], Value.int IntKind.i64 f]; refine (HF.out _).mono ?_; rintro e wn ⟨rfl, hb⟩; have hs := EdS.below (by first | assumption | exact H0.out) hb; have ⟨⟨z1, k0, k1, k2⟩, hbz⟩ := hs))
      refine bodyPost_ret (v := .tuple #[.int .i64 0, .int .i64 0, .bool false]) (by simp [results, Try.results37, go_sem]) rfl ⟨rfl, by assumption⟩
end Go.Proofs.Ytkkoeanjmldmdaa
