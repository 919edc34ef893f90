/-
  Out of Mr1, Mr2, Mr3, Mr4, Mr5, what is asked for (laid by pack9.py).
-/
import Derived.Test.YtfpmmckpobpokaaGreatMVMv5
import Derived.Test.YtfpmmckpobpokaaGreatMVVal3
set_option maxRecDepth 100000
set_option maxHeartbeats 4000000
namespace Go.Proofs.YtfpmmckpobpokaaGreat.Pla
section
open Go.RowKit
def EdS (w : World) (k a n : Int) (w' : World) : Prop := At3 w' w.heap.size k a n ∧ Below w.heap.size w w'
theorem EdS.below {w w1 w' : World} {k a n : Int} (h : EdS w k a n w1) (m : Below w1.heap.size w1 w') : EdS w k a n w' := ⟨h.1.below m, h.2.trans (m.mono h.2.size)⟩
theorem EdS.drew {w w1 : World} {k a n : Int} (h : EdS w k a n w1) : EdS w k a n w1.drew := h.below ((Below.refl _ _).drew)
theorem EdS.start (w : World) (k a n : Int) (t : TypeId) : EdS w k a n (w.alloc (.cells #[.int .i64 k, .int .i64 a, .int .i64 n] t)) := ⟨At3.new w k a n t, (Below.refl _ _).alloc (Nat.le_refl _) _⟩
theorem EdS.out {w w' : World} {k a n : Int} (h : EdS w k a n w') : Below w.heap.size w w' := h.2
theorem rrows_any (k a n : Int) (w : World) :
  Calls Tryz.prog 117 #[.agg #[.int .i64 k, .int .i64 a, .int .i64 n]] w fun e w' => e = .returned (.bool (rowsB k)) ∧ Below w.heap.size w w' := by
 by_cases h1 : k = 1
 ·
  subst h1
  go_enter Tryz.func117, Tryz.ntmps117
  go_wp2
  go_ret
  refine ⟨rfl, ?_⟩
  exact bl
 by_cases h2 : k = 2
 ·
  subst h2
  go_enter Tryz.func117, Tryz.ntmps117
  go_wp2
  go_ret
  refine ⟨rfl, ?_⟩
  exact bl
 have e : rowsB k = false := by simp [rowsB, h1, h2]
 have e1 : (k == 1) = false := by simpa using h1
 have e2 : (k == 2) = false := by simpa using h2
 rw [e]
 clear e h1 h2
 go_enter Tryz.func117, Tryz.ntmps117
 go_wp2
 go_ret
 refine ⟨rfl, ?_⟩
 exact bl
theorem rmost_any (k a n : Int) (w : World) :
  Calls Tryz.prog 94 #[.agg #[.int .i64 k, .int .i64 a, .int .i64 n]] w fun e w' => e = .returned (.int .i64 (topE k)) ∧ Below w.heap.size w w' := by
 have HR : Hid (∀ W : World, Calls Tryz.prog 117 #[.agg #[.int .i64 k, .int .i64 a, .int .i64 n]] W fun e w' => e = .returned (.bool (rowsB k)) ∧ Below W.heap.size W w') := fun W => rrows_any k a n W
 unfold topE
 cases h : rowsB k
 all_goals
  rw [h] at HR
  clear h
  go_enter Tryz.func94, Tryz.ntmps94
  go_wp2_with (go_at_call 117; refine (HR.out _).mono ?_; rintro e w1 ⟨rfl, hb1⟩)
  go_ret
  refine ⟨rfl, ?_⟩
  exact bl
theorem reditB_any (k a n : Int) (w : World) :
  Calls Tryz.prog 66 #[.agg #[.int .i64 k, .int .i64 a, .int .i64 n]] w fun e w' => e = .returned (.bool (editB k a n)) ∧ Below w.heap.size w w' := by
 have HM : Hid (∀ W : World, Calls Tryz.prog 94 #[.agg #[.int .i64 k, .int .i64 a, .int .i64 n]] W fun e w' => e = .returned (.int .i64 (topE k)) ∧ Below W.heap.size W w') := fun W => rmost_any k a n W
 have HX : Hid (∀ w', EdS w k a n w' → w'.cell? ⟨w.heap.size, 0, none⟩ = some (.int .i64 k) ∧ w'.cell? ⟨w.heap.size, 1, none⟩ = some (.int .i64 a) ∧ w'.cell? ⟨w.heap.size, 2, none⟩ = some (.int .i64 n) ∧ EdS w k a n w') := fun w' h => ⟨h.1.2.1, h.1.2.2.1, h.1.2.2.2, h⟩
 have ht := topE_le k
 have hno : ∀ (_ : ¬ (1 ≤ k ∧ k ≤ 4 ∧ 1 ≤ a ∧ a ≤ topE k ∧ 1 ≤ n ∧ n ≤ topE k - a + 1)), editB k a n = false := fun h => by
  cases e : editB k a n
  ·
   rfl
  ·
   exact absurd (editB_iff.1 e) h
 by_cases a1 : k ≥ 1
 ·
  skip
  by_cases a2 : k ≤ 4
  ·
   skip
   by_cases a3 : a ≥ 1
   ·
    skip
    by_cases a4 : a ≤ topE k
    ·
     skip
     by_cases a5 : n ≥ 1
     ·
      skip
      have u1 : IntKind.i64.wrap (topE k - a) = topE k - a := wrapI (by omega) (by omega)
      have u2 : IntKind.i64.wrap (topE k - a + 1) = topE k - a + 1 := wrapI (by omega) (by omega)
      by_cases a6 : n ≤ topE k - a + 1
      ·
       rw [editB_iff.2 (by omega)]
       clear hno
       generalize topE k = T at *
       go_enter Tryz.func66, Tryz.ntmps66
       go_wp2
       refine wp_region_held_drew (S := fun w' => w'.cell? ⟨w.heap.size, 0, none⟩ = some (.int .i64 k) ∧ w'.cell? ⟨w.heap.size, 1, none⟩ = some (.int .i64 a) ∧ w'.cell? ⟨w.heap.size, 2, none⟩ = some (.int .i64 n) ∧ EdS w k a n w') (by kernel_rfl) (HX.out _ (EdS.drew (EdS.start w k a n 36))) (fun hHeld => ?_)
       refine takeF 0 (some 3) ?_; refine takeF 1 (some 4) ?_; refine takeF 2 (some 5) ?_; refine takeF 3 (some 6) ?_; refine takeF 4 (some 7) ?_; refine takeF 5 (some 8) ?_; refine takeF 6 (some 9) ?_; refine takeF 7 (some 10) ?_; refine takeF 8 (some 11) ?_; refine takeF 9 (some 12) ?_; refine takeF 10 (some 13) ?_; refine takeF 11 (some 14) ?_; refine takeF 12 (some 15) ?_; refine takeF 13 (some 16) ?_; refine takeF 14 (some 17) ?_; refine takeF 15 (some 18) ?_; refine takeF 16 (some 19) ?_; (refine wpAnyH_ready (rs := [17]) (by kernel_rfl) (by simp) ?_; refine AllReadyH.cons (o := _) rfl (fun K hK => ?_) AllReadyH.nil; go_simp; (go_at_call 94; refine (HM.out _).mono ?_; rintro e wn ⟨rfl, hb⟩; have hsn := HX.out _ (EdS.below (And.right (And.right (And.right (hHeld)))) hb)); refine hK.out _ _ hsn (fun hHeld => ?_); clear hK K; try simp only [Act.put, pA, pB, pC]); refine takeF 18 (some 21) ?_; refine takeF 19 (some 22) ?_; refine takeF 20 (some 23) ?_; refine takeF 21 (some 24) ?_; refine takeF 22 (some 25) ?_; refine takeF 23 (some 26) ?_; refine takeF 24 (some 27) ?_; refine takeF 25 (some 28) ?_; refine takeF 26 (some 29) ?_; refine takeF 27 (some 30) ?_; refine takeF 28 (some 31) ?_; refine takeF 30 (some 33) ?_; refine takeF 31 (some 34) ?_; (refine wpAnyH_ready (rs := [29]) (by kernel_rfl) (by simp) ?_; refine AllReadyH.cons (o := _) rfl (fun K hK => ?_) AllReadyH.nil; go_simp; (go_at_call 94; refine (HM.out _).mono ?_; rintro e wn ⟨rfl, hb⟩; have hsn := HX.out _ (EdS.below (And.right (And.right (And.right (hHeld)))) hb)); refine hK.out _ _ hsn (fun hHeld => ?_); clear hK K; try simp only [Act.put, pA, pB, pC]); refine takeF 32 (some 35) ?_; refine takeF 33 (some 36) ?_; refine takeF 34 (some 37) ?_; refine takeF 35 (some 38) ?_; refine takeF 36 (some 2) ?_; refine wpAnyH_done (by kernel_rfl) ?_ _
       go_wp2
       go_ret
       exact ⟨rfl, EdS.out (And.right (And.right (And.right (hHeld))))⟩
      ·
       rw [hno (by omega)]
       clear hno
       have d : (n ≤ topE k - a + 1) = False := by simpa using a6
       clear a6
       generalize topE k = T at *
       go_enter Tryz.func66, Tryz.ntmps66
       go_wp2
       refine wp_region_held_drew (S := fun w' => w'.cell? ⟨w.heap.size, 0, none⟩ = some (.int .i64 k) ∧ w'.cell? ⟨w.heap.size, 1, none⟩ = some (.int .i64 a) ∧ w'.cell? ⟨w.heap.size, 2, none⟩ = some (.int .i64 n) ∧ EdS w k a n w') (by kernel_rfl) (HX.out _ (EdS.drew (EdS.start w k a n 36))) (fun hHeld => ?_)
       refine takeF 0 (some 3) ?_; refine takeF 1 (some 4) ?_; refine takeF 2 (some 5) ?_; refine takeF 3 (some 6) ?_; refine takeF 4 (some 7) ?_; refine takeF 5 (some 8) ?_; refine takeF 6 (some 9) ?_; refine takeF 7 (some 10) ?_; refine takeF 8 (some 11) ?_; refine takeF 9 (some 12) ?_; refine takeF 10 (some 13) ?_; refine takeF 11 (some 14) ?_; refine takeF 12 (some 15) ?_; refine takeF 13 (some 16) ?_; refine takeF 14 (some 17) ?_; refine takeF 15 (some 18) ?_; refine takeF 16 (some 19) ?_; (refine wpAnyH_ready (rs := [17]) (by kernel_rfl) (by simp) ?_; refine AllReadyH.cons (o := _) rfl (fun K hK => ?_) AllReadyH.nil; go_simp; (go_at_call 94; refine (HM.out _).mono ?_; rintro e wn ⟨rfl, hb⟩; have hsn := HX.out _ (EdS.below (And.right (And.right (And.right (hHeld)))) hb)); refine hK.out _ _ hsn (fun hHeld => ?_); clear hK K; try simp only [Act.put, pA, pB, pC]); refine takeF 18 (some 21) ?_; refine takeF 19 (some 22) ?_; refine takeF 20 (some 23) ?_; refine takeF 21 (some 24) ?_; refine takeF 22 (some 25) ?_; refine takeF 23 (some 26) ?_; refine takeF 24 (some 27) ?_; refine takeF 25 (some 28) ?_; refine takeF 26 (some 29) ?_; refine takeF 27 (some 30) ?_; refine takeF 28 (some 31) ?_; refine takeF 30 (some 33) ?_; refine takeF 31 (some 34) ?_; (refine wpAnyH_ready (rs := [29]) (by kernel_rfl) (by simp) ?_; refine AllReadyH.cons (o := _) rfl (fun K hK => ?_) AllReadyH.nil; go_simp; (go_at_call 94; refine (HM.out _).mono ?_; rintro e wn ⟨rfl, hb⟩; have hsn := HX.out _ (EdS.below (And.right (And.right (And.right (hHeld)))) hb)); refine hK.out _ _ hsn (fun hHeld => ?_); clear hK K; try simp only [Act.put, pA, pB, pC]); refine takeF 32 (some 35) ?_; refine takeF 33 (some 36) ?_; refine takeF 34 (some 37) ?_; refine takeF 35 (some 38) ?_; refine takeF 36 (some 2) ?_; refine wpAnyH_done (by kernel_rfl) ?_ _
       go_wp2
       go_ret
       exact ⟨rfl, EdS.out (And.right (And.right (And.right (hHeld))))⟩
     ·
      rw [hno (by omega)]
      clear hno
      have d : (n ≥ 1) = False := by simpa using a5
      clear a5
      generalize topE k = T at *
      go_enter Tryz.func66, Tryz.ntmps66
      go_wp2
      refine wp_region_held_drew (S := fun w' => w'.cell? ⟨w.heap.size, 0, none⟩ = some (.int .i64 k) ∧ w'.cell? ⟨w.heap.size, 1, none⟩ = some (.int .i64 a) ∧ w'.cell? ⟨w.heap.size, 2, none⟩ = some (.int .i64 n) ∧ EdS w k a n w') (by kernel_rfl) (HX.out _ (EdS.drew (EdS.start w k a n 36))) (fun hHeld => ?_)
      refine takeF 0 (some 3) ?_; refine takeF 1 (some 4) ?_; refine takeF 2 (some 5) ?_; refine takeF 3 (some 6) ?_; refine takeF 4 (some 7) ?_; refine takeF 5 (some 8) ?_; refine takeF 6 (some 9) ?_; refine takeF 7 (some 10) ?_; refine takeF 8 (some 11) ?_; refine takeF 9 (some 12) ?_; refine takeF 10 (some 13) ?_; refine takeF 11 (some 14) ?_; refine takeF 12 (some 15) ?_; refine takeF 13 (some 16) ?_; refine takeF 14 (some 17) ?_; refine takeF 15 (some 18) ?_; refine takeF 16 (some 19) ?_; (refine wpAnyH_ready (rs := [17]) (by kernel_rfl) (by simp) ?_; refine AllReadyH.cons (o := _) rfl (fun K hK => ?_) AllReadyH.nil; go_simp; (go_at_call 94; refine (HM.out _).mono ?_; rintro e wn ⟨rfl, hb⟩; have hsn := HX.out _ (EdS.below (And.right (And.right (And.right (hHeld)))) hb)); refine hK.out _ _ hsn (fun hHeld => ?_); clear hK K; try simp only [Act.put, pA, pB, pC]); refine takeF 18 (some 21) ?_; refine takeF 19 (some 22) ?_; refine takeF 20 (some 23) ?_; refine takeF 21 (some 24) ?_; refine takeF 22 (some 25) ?_; refine takeF 23 (some 26) ?_; refine takeF 24 (some 27) ?_; refine takeF 25 (some 28) ?_; (refine skipE (i := 26) (some 29) rfl rfl (by kernel_rfl) rfl (by assumption) ?_; try simp only [Act.put, pA, pB, pC]); (refine skipE (i := 27) (some 30) rfl rfl (by kernel_rfl) rfl (by assumption) ?_; try simp only [Act.put, pA, pB, pC]); (refine skipE (i := 28) (some 31) rfl rfl (by kernel_rfl) rfl (by assumption) ?_; try simp only [Act.put, pA, pB, pC]); (refine skipE (i := 29) (some 32) rfl rfl (by kernel_rfl) rfl (by assumption) ?_; try simp only [Act.put, pA, pB, pC]); (refine skipE (i := 30) (some 33) rfl rfl (by kernel_rfl) rfl (by assumption) ?_; try simp only [Act.put, pA, pB, pC]); (refine skipE (i := 31) (some 34) rfl rfl (by kernel_rfl) rfl (by assumption) ?_; try simp only [Act.put, pA, pB, pC]); (refine skipE (i := 32) (some 35) rfl rfl (by kernel_rfl) rfl (by assumption) ?_; try simp only [Act.put, pA, pB, pC]); (refine skipE (i := 33) (some 36) rfl rfl (by kernel_rfl) rfl (by assumption) ?_; try simp only [Act.put, pA, pB, pC]); (refine skipE (i := 34) (some 37) rfl rfl (by kernel_rfl) rfl (by assumption) ?_; try simp only [Act.put, pA, pB, pC]); refine takeF 35 (some 38) ?_; refine takeF 36 (some 2) ?_; refine wpAnyH_done (by kernel_rfl) ?_ _
      go_wp2
      go_ret
      exact ⟨rfl, EdS.out (And.right (And.right (And.right (hHeld))))⟩
    ·
     rw [hno (by omega)]
     clear hno
     have d : (a ≤ topE k) = False := by simpa using a4
     clear a4
     generalize topE k = T at *
     go_enter Tryz.func66, Tryz.ntmps66
     go_wp2
     refine wp_region_held_drew (S := fun w' => w'.cell? ⟨w.heap.size, 0, none⟩ = some (.int .i64 k) ∧ w'.cell? ⟨w.heap.size, 1, none⟩ = some (.int .i64 a) ∧ w'.cell? ⟨w.heap.size, 2, none⟩ = some (.int .i64 n) ∧ EdS w k a n w') (by kernel_rfl) (HX.out _ (EdS.drew (EdS.start w k a n 36))) (fun hHeld => ?_)
     refine takeF 0 (some 3) ?_; refine takeF 1 (some 4) ?_; refine takeF 2 (some 5) ?_; refine takeF 3 (some 6) ?_; refine takeF 4 (some 7) ?_; refine takeF 5 (some 8) ?_; refine takeF 6 (some 9) ?_; refine takeF 7 (some 10) ?_; refine takeF 8 (some 11) ?_; refine takeF 9 (some 12) ?_; refine takeF 10 (some 13) ?_; refine takeF 11 (some 14) ?_; refine takeF 12 (some 15) ?_; refine takeF 13 (some 16) ?_; refine takeF 14 (some 17) ?_; refine takeF 15 (some 18) ?_; refine takeF 16 (some 19) ?_; (refine wpAnyH_ready (rs := [17]) (by kernel_rfl) (by simp) ?_; refine AllReadyH.cons (o := _) rfl (fun K hK => ?_) AllReadyH.nil; go_simp; (go_at_call 94; refine (HM.out _).mono ?_; rintro e wn ⟨rfl, hb⟩; have hsn := HX.out _ (EdS.below (And.right (And.right (And.right (hHeld)))) hb)); refine hK.out _ _ hsn (fun hHeld => ?_); clear hK K; try simp only [Act.put, pA, pB, pC]); refine takeF 18 (some 21) ?_; refine takeF 19 (some 22) ?_; refine takeF 20 (some 23) ?_; (refine skipE (i := 21) (some 24) rfl rfl (by kernel_rfl) rfl (by assumption) ?_; try simp only [Act.put, pA, pB, pC]); (refine skipE (i := 22) (some 25) rfl rfl (by kernel_rfl) rfl (by assumption) ?_; try simp only [Act.put, pA, pB, pC]); (refine skipE (i := 23) (some 26) rfl rfl (by kernel_rfl) rfl (by assumption) ?_; try simp only [Act.put, pA, pB, pC]); refine takeF 24 (some 27) ?_; refine takeF 25 (some 28) ?_; (refine skipE (i := 26) (some 29) rfl rfl (by kernel_rfl) rfl (by assumption) ?_; try simp only [Act.put, pA, pB, pC]); (refine skipE (i := 27) (some 30) rfl rfl (by kernel_rfl) rfl (by assumption) ?_; try simp only [Act.put, pA, pB, pC]); (refine skipE (i := 28) (some 31) rfl rfl (by kernel_rfl) rfl (by assumption) ?_; try simp only [Act.put, pA, pB, pC]); (refine skipE (i := 29) (some 32) rfl rfl (by kernel_rfl) rfl (by assumption) ?_; try simp only [Act.put, pA, pB, pC]); (refine skipE (i := 30) (some 33) rfl rfl (by kernel_rfl) rfl (by assumption) ?_; try simp only [Act.put, pA, pB, pC]); (refine skipE (i := 31) (some 34) rfl rfl (by kernel_rfl) rfl (by assumption) ?_; try simp only [Act.put, pA, pB, pC]); (refine skipE (i := 32) (some 35) rfl rfl (by kernel_rfl) rfl (by assumption) ?_; try simp only [Act.put, pA, pB, pC]); (refine skipE (i := 33) (some 36) rfl rfl (by kernel_rfl) rfl (by assumption) ?_; try simp only [Act.put, pA, pB, pC]); (refine skipE (i := 34) (some 37) rfl rfl (by kernel_rfl) rfl (by assumption) ?_; try simp only [Act.put, pA, pB, pC]); refine takeF 35 (some 38) ?_; refine takeF 36 (some 2) ?_; refine wpAnyH_done (by kernel_rfl) ?_ _
     go_wp2
     go_ret
     exact ⟨rfl, EdS.out (And.right (And.right (And.right (hHeld))))⟩
   ·
    rw [hno (by omega)]
    clear hno
    have d : (a ≥ 1) = False := by simpa using a3
    clear a3
    generalize topE k = T at *
    go_enter Tryz.func66, Tryz.ntmps66
    go_wp2
    refine wp_region_held_drew (S := fun w' => w'.cell? ⟨w.heap.size, 0, none⟩ = some (.int .i64 k) ∧ w'.cell? ⟨w.heap.size, 1, none⟩ = some (.int .i64 a) ∧ w'.cell? ⟨w.heap.size, 2, none⟩ = some (.int .i64 n) ∧ EdS w k a n w') (by kernel_rfl) (HX.out _ (EdS.drew (EdS.start w k a n 36))) (fun hHeld => ?_)
    refine takeF 0 (some 3) ?_; refine takeF 1 (some 4) ?_; refine takeF 2 (some 5) ?_; refine takeF 3 (some 6) ?_; refine takeF 4 (some 7) ?_; refine takeF 5 (some 8) ?_; refine takeF 6 (some 9) ?_; refine takeF 7 (some 10) ?_; refine takeF 8 (some 11) ?_; refine takeF 9 (some 12) ?_; refine takeF 10 (some 13) ?_; refine takeF 11 (some 14) ?_; refine takeF 12 (some 15) ?_; refine takeF 13 (some 16) ?_; (refine skipE (i := 14) (some 17) rfl rfl (by kernel_rfl) rfl (by assumption) ?_; try simp only [Act.put, pA, pB, pC]); (refine skipE (i := 15) (some 18) rfl rfl (by kernel_rfl) rfl (by assumption) ?_; try simp only [Act.put, pA, pB, pC]); (refine skipE (i := 16) (some 19) rfl rfl (by kernel_rfl) rfl (by assumption) ?_; try simp only [Act.put, pA, pB, pC]); (refine skipE (i := 17) (some 20) rfl rfl (by kernel_rfl) rfl (by assumption) ?_; try simp only [Act.put, pA, pB, pC]); (refine skipE (i := 18) (some 21) rfl rfl (by kernel_rfl) rfl (by assumption) ?_; try simp only [Act.put, pA, pB, pC]); refine takeF 19 (some 22) ?_; refine takeF 20 (some 23) ?_; (refine skipE (i := 21) (some 24) rfl rfl (by kernel_rfl) rfl (by assumption) ?_; try simp only [Act.put, pA, pB, pC]); (refine skipE (i := 22) (some 25) rfl rfl (by kernel_rfl) rfl (by assumption) ?_; try simp only [Act.put, pA, pB, pC]); (refine skipE (i := 23) (some 26) rfl rfl (by kernel_rfl) rfl (by assumption) ?_; try simp only [Act.put, pA, pB, pC]); refine takeF 24 (some 27) ?_; refine takeF 25 (some 28) ?_; (refine skipE (i := 26) (some 29) rfl rfl (by kernel_rfl) rfl (by assumption) ?_; try simp only [Act.put, pA, pB, pC]); (refine skipE (i := 27) (some 30) rfl rfl (by kernel_rfl) rfl (by assumption) ?_; try simp only [Act.put, pA, pB, pC]); (refine skipE (i := 28) (some 31) rfl rfl (by kernel_rfl) rfl (by assumption) ?_; try simp only [Act.put, pA, pB, pC]); (refine skipE (i := 29) (some 32) rfl rfl (by kernel_rfl) rfl (by assumption) ?_; try simp only [Act.put, pA, pB, pC]); (refine skipE (i := 30) (some 33) rfl rfl (by kernel_rfl) rfl (by assumption) ?_; try simp only [Act.put, pA, pB, pC]); (refine skipE (i := 31) (some 34) rfl rfl (by kernel_rfl) rfl (by assumption) ?_; try simp only [Act.put, pA, pB, pC]); (refine skipE (i := 32) (some 35) rfl rfl (by kernel_rfl) rfl (by assumption) ?_; try simp only [Act.put, pA, pB, pC]); (refine skipE (i := 33) (some 36) rfl rfl (by kernel_rfl) rfl (by assumption) ?_; try simp only [Act.put, pA, pB, pC]); (refine skipE (i := 34) (some 37) rfl rfl (by kernel_rfl) rfl (by assumption) ?_; try simp only [Act.put, pA, pB, pC]); refine takeF 35 (some 38) ?_; refine takeF 36 (some 2) ?_; refine wpAnyH_done (by kernel_rfl) ?_ _
    go_wp2
    go_ret
    exact ⟨rfl, EdS.out (And.right (And.right (And.right (hHeld))))⟩
  ·
   rw [hno (by omega)]
   clear hno
   have d : (k ≤ 4) = False := by simpa using a2
   clear a2
   generalize topE k = T at *
   go_enter Tryz.func66, Tryz.ntmps66
   go_wp2
   refine wp_region_held_drew (S := fun w' => w'.cell? ⟨w.heap.size, 0, none⟩ = some (.int .i64 k) ∧ w'.cell? ⟨w.heap.size, 1, none⟩ = some (.int .i64 a) ∧ w'.cell? ⟨w.heap.size, 2, none⟩ = some (.int .i64 n) ∧ EdS w k a n w') (by kernel_rfl) (HX.out _ (EdS.drew (EdS.start w k a n 36))) (fun hHeld => ?_)
   refine takeF 0 (some 3) ?_; refine takeF 1 (some 4) ?_; refine takeF 2 (some 5) ?_; refine takeF 3 (some 6) ?_; refine takeF 4 (some 7) ?_; refine takeF 5 (some 8) ?_; refine takeF 6 (some 9) ?_; refine takeF 7 (some 10) ?_; refine takeF 8 (some 11) ?_; (refine skipE (i := 9) (some 12) rfl rfl (by kernel_rfl) rfl (by assumption) ?_; try simp only [Act.put, pA, pB, pC]); (refine skipE (i := 10) (some 13) rfl rfl (by kernel_rfl) rfl (by assumption) ?_; try simp only [Act.put, pA, pB, pC]); (refine skipE (i := 11) (some 14) rfl rfl (by kernel_rfl) rfl (by assumption) ?_; try simp only [Act.put, pA, pB, pC]); refine takeF 12 (some 15) ?_; refine takeF 13 (some 16) ?_; (refine skipE (i := 14) (some 17) rfl rfl (by kernel_rfl) rfl (by assumption) ?_; try simp only [Act.put, pA, pB, pC]); (refine skipE (i := 15) (some 18) rfl rfl (by kernel_rfl) rfl (by assumption) ?_; try simp only [Act.put, pA, pB, pC]); (refine skipE (i := 16) (some 19) rfl rfl (by kernel_rfl) rfl (by assumption) ?_; try simp only [Act.put, pA, pB, pC]); (refine skipE (i := 17) (some 20) rfl rfl (by kernel_rfl) rfl (by assumption) ?_; try simp only [Act.put, pA, pB, pC]); (refine skipE (i := 18) (some 21) rfl rfl (by kernel_rfl) rfl (by assumption) ?_; try simp only [Act.put, pA, pB, pC]); refine takeF 19 (some 22) ?_; refine takeF 20 (some 23) ?_; (refine skipE (i := 21) (some 24) rfl rfl (by kernel_rfl) rfl (by assumption) ?_; try simp only [Act.put, pA, pB, pC]); (refine skipE (i := 22) (some 25) rfl rfl (by kernel_rfl) rfl (by assumption) ?_; try simp only [Act.put, pA, pB, pC]); (refine skipE (i := 23) (some 26) rfl rfl (by kernel_rfl) rfl (by assumption) ?_; try simp only [Act.put, pA, pB, pC]); refine takeF 24 (some 27) ?_; refine takeF 25 (some 28) ?_; (refine skipE (i := 26) (some 29) rfl rfl (by kernel_rfl) rfl (by assumption) ?_; try simp only [Act.put, pA, pB, pC]); (refine skipE (i := 27) (some 30) rfl rfl (by kernel_rfl) rfl (by assumption) ?_; try simp only [Act.put, pA, pB, pC]); (refine skipE (i := 28) (some 31) rfl rfl (by kernel_rfl) rfl (by assumption) ?_; try simp only [Act.put, pA, pB, pC]); (refine skipE (i := 29) (some 32) rfl rfl (by kernel_rfl) rfl (by assumption) ?_; try simp only [Act.put, pA, pB, pC]); (refine skipE (i := 30) (some 33) rfl rfl (by kernel_rfl) rfl (by assumption) ?_; try simp only [Act.put, pA, pB, pC]); (refine skipE (i := 31) (some 34) rfl rfl (by kernel_rfl) rfl (by assumption) ?_; try simp only [Act.put, pA, pB, pC]); (refine skipE (i := 32) (some 35) rfl rfl (by kernel_rfl) rfl (by assumption) ?_; try simp only [Act.put, pA, pB, pC]); (refine skipE (i := 33) (some 36) rfl rfl (by kernel_rfl) rfl (by assumption) ?_; try simp only [Act.put, pA, pB, pC]); (refine skipE (i := 34) (some 37) rfl rfl (by kernel_rfl) rfl (by assumption) ?_; try simp only [Act.put, pA, pB, pC]); refine takeF 35 (some 38) ?_; refine takeF 36 (some 2) ?_; refine wpAnyH_done (by kernel_rfl) ?_ _
   go_wp2
   go_ret
   exact ⟨rfl, EdS.out (And.right (And.right (And.right (hHeld))))⟩
 ·
  rw [hno (by omega)]
  clear hno
  have d : (k ≥ 1) = False := by simpa using a1
  clear a1
  generalize topE k = T at *
  go_enter Tryz.func66, Tryz.ntmps66
  go_wp2
  refine wp_region_held_drew (S := fun w' => w'.cell? ⟨w.heap.size, 0, none⟩ = some (.int .i64 k) ∧ w'.cell? ⟨w.heap.size, 1, none⟩ = some (.int .i64 a) ∧ w'.cell? ⟨w.heap.size, 2, none⟩ = some (.int .i64 n) ∧ EdS w k a n w') (by kernel_rfl) (HX.out _ (EdS.drew (EdS.start w k a n 36))) (fun hHeld => ?_)
  refine takeF 0 (some 3) ?_; refine takeF 1 (some 4) ?_; refine takeF 2 (some 5) ?_; refine takeF 3 (some 6) ?_; (refine skipE (i := 4) (some 7) rfl rfl (by kernel_rfl) rfl (by assumption) ?_; try simp only [Act.put, pA, pB, pC]); (refine skipE (i := 5) (some 8) rfl rfl (by kernel_rfl) rfl (by assumption) ?_; try simp only [Act.put, pA, pB, pC]); (refine skipE (i := 6) (some 9) rfl rfl (by kernel_rfl) rfl (by assumption) ?_; try simp only [Act.put, pA, pB, pC]); refine takeF 7 (some 10) ?_; refine takeF 8 (some 11) ?_; (refine skipE (i := 9) (some 12) rfl rfl (by kernel_rfl) rfl (by assumption) ?_; try simp only [Act.put, pA, pB, pC]); (refine skipE (i := 10) (some 13) rfl rfl (by kernel_rfl) rfl (by assumption) ?_; try simp only [Act.put, pA, pB, pC]); (refine skipE (i := 11) (some 14) rfl rfl (by kernel_rfl) rfl (by assumption) ?_; try simp only [Act.put, pA, pB, pC]); refine takeF 12 (some 15) ?_; refine takeF 13 (some 16) ?_; (refine skipE (i := 14) (some 17) rfl rfl (by kernel_rfl) rfl (by assumption) ?_; try simp only [Act.put, pA, pB, pC]); (refine skipE (i := 15) (some 18) rfl rfl (by kernel_rfl) rfl (by assumption) ?_; try simp only [Act.put, pA, pB, pC]); (refine skipE (i := 16) (some 19) rfl rfl (by kernel_rfl) rfl (by assumption) ?_; try simp only [Act.put, pA, pB, pC]); (refine skipE (i := 17) (some 20) rfl rfl (by kernel_rfl) rfl (by assumption) ?_; try simp only [Act.put, pA, pB, pC]); (refine skipE (i := 18) (some 21) rfl rfl (by kernel_rfl) rfl (by assumption) ?_; try simp only [Act.put, pA, pB, pC]); refine takeF 19 (some 22) ?_; refine takeF 20 (some 23) ?_; (refine skipE (i := 21) (some 24) rfl rfl (by kernel_rfl) rfl (by assumption) ?_; try simp only [Act.put, pA, pB, pC]); (refine skipE (i := 22) (some 25) rfl rfl (by kernel_rfl) rfl (by assumption) ?_; try simp only [Act.put, pA, pB, pC]); (refine skipE (i := 23) (some 26) rfl rfl (by kernel_rfl) rfl (by assumption) ?_; try simp only [Act.put, pA, pB, pC]); refine takeF 24 (some 27) ?_; refine takeF 25 (some 28) ?_; (refine skipE (i := 26) (some 29) rfl rfl (by kernel_rfl) rfl (by assumption) ?_; try simp only [Act.put, pA, pB, pC]); (refine skipE (i := 27) (some 30) rfl rfl (by kernel_rfl) rfl (by assumption) ?_; try simp only [Act.put, pA, pB, pC]); (refine skipE (i := 28) (some 31) rfl rfl (by kernel_rfl) rfl (by assumption) ?_; try simp only [Act.put, pA, pB, pC]); (refine skipE (i := 29) (some 32) rfl rfl (by kernel_rfl) rfl (by assumption) ?_; try simp only [Act.put, pA, pB, pC]); (refine skipE (i := 30) (some 33) rfl rfl (by kernel_rfl) rfl (by assumption) ?_; try simp only [Act.put, pA, pB, pC]); (refine skipE (i := 31) (some 34) rfl rfl (by kernel_rfl) rfl (by assumption) ?_; try simp only [Act.put, pA, pB, pC]); (refine skipE (i := 32) (some 35) rfl rfl (by kernel_rfl) rfl (by assumption) ?_; try simp only [Act.put, pA, pB, pC]); (refine skipE (i := 33) (some 36) rfl rfl (by kernel_rfl) rfl (by assumption) ?_; try simp only [Act.put, pA, pB, pC]); (refine skipE (i := 34) (some 37) rfl rfl (by kernel_rfl) rfl (by assumption) ?_; try simp only [Act.put, pA, pB, pC]); refine takeF 35 (some 38) ?_; refine takeF 36 (some 2) ?_; refine wpAnyH_done (by kernel_rfl) ?_ _
  go_wp2
  go_ret
  exact ⟨rfl, EdS.out (And.right (And.right (And.right (hHeld))))⟩
theorem redit_any (k a n : Int) (w : World) :
  Calls Tryz.prog 34 #[.agg #[.int .i64 k, .int .i64 a, .int .i64 n]] w fun e w' => e = .returned (.int .i64 (editR k a n)) ∧ Below w.heap.size w w' := by
 have HR : Hid (∀ W : World, Calls Tryz.prog 66 #[.agg #[.int .i64 k, .int .i64 a, .int .i64 n]] W fun e w' => e = .returned (.bool (editB k a n)) ∧ Below W.heap.size W w') := fun W => reditB_any k a n W
 unfold editR
 cases h : editB k a n
 all_goals
  rw [h] at HR
  clear h
  go_enter Tryz.func34, Tryz.ntmps34
  go_wp2_with (go_at_call 66; refine (HR.out _).mono ?_; rintro e w1 ⟨rfl, hb1⟩)
  go_ret
  refine ⟨rfl, ?_⟩
  exact bl
end
section
open Go.RowKit
def lineR (k a n x : Int) : Int × Int := if takenB k a n x then (0, fateR k) else (carryR k a n x, 0)
theorem lineR_yes {k a n x : Int} (h : takenB k a n x = true) : lineR k a n x = (0, fateR k) := by simp [lineR, h]
theorem lineR_no {k a n x : Int} (h : takenB k a n x = false) : lineR k a n x = (carryR k a n x, 0) := by simp [lineR, h]
theorem rline_any {k a n x : Int} (h : editB k a n = true) (h1 : 1 ≤ x) (h2 : x ≤ topE k) (w : World) :
  Calls Tryz.prog 118 #[.agg #[.int .i64 k, .int .i64 a, .int .i64 n], .int .i64 x] w fun e w' => e = .returned (.tuple #[.int .i64 (lineR k a n x).1, .int .i64 (lineR k a n x).2]) ∧ Below w.heap.size w w' := by
 have HM : Hid (∀ W : World, Calls Tryz.prog 94 #[.agg #[.int .i64 k, .int .i64 a, .int .i64 n]] W fun e w' => e = .returned (.int .i64 (topE k)) ∧ Below W.heap.size W w') := fun W => rmost_any k a n W
 have g := editB_iff.1 h
 have ht := topE_le k
 have u1 : IntKind.i64.wrap (x + n) = x + n := wrapI (by omega) (by omega)
 have u2 : IntKind.i64.wrap (x - n) = x - n := wrapI (by omega) (by omega)
 have u3 : IntKind.i64.wrap (a + n) = a + n := wrapI (by omega) (by omega)
 by_cases c : x < a
 ·
  have hn : takenB k a n x = false := by
   cases hi : insB k
   ·
    obtain ⟨e1, e2⟩ := lost_del (a := a) (n := n) hi; exact taken_no.2 (by omega)
   ·
    obtain ⟨e1, e2, e3⟩ := lost_ins h hi; exact taken_no.2 (by omega)
  rw [lineR_no hn, carry_low c]
  clear h g ht h1 h2 hn HM
  go_enter Tryz.func118, Tryz.ntmps118
  go_wp2
  go_ret2
  refine ⟨rfl, ?_⟩
  exact bl
 ·
  rcases editB_kinds h with e | e | e | e
  ·
   subst e
   obtain ⟨e1, e2, e3⟩ := lost_ins h ins1
   rw [top1] at *
   by_cases d : x + n > 1048576
   ·
    rw [lineR_yes (taken_iff.2 (by omega)), show fateR 1 = 2 by decide]
    ·
     clear h g ht h1 h2 e1 e2 e3
     have HX : Hid (∀ w', EdS w 1 a n w' → w'.cell? ⟨w.heap.size, 0, none⟩ = some (.int .i64 1) ∧ w'.cell? ⟨w.heap.size, 1, none⟩ = some (.int .i64 a) ∧ w'.cell? ⟨w.heap.size, 2, none⟩ = some (.int .i64 n) ∧ EdS w 1 a n w') := fun w' h => ⟨h.1.2.1, h.1.2.2.1, h.1.2.2.2, h⟩
     have hs8 := HX.out _ (EdS.start w 1 a n 36)
     go_enter Tryz.func118, Tryz.ntmps118
     go_wp2
     go_region_held3 (fun w' => w'.cell? ⟨w.heap.size, 0, none⟩ = some (.int .i64 1) ∧ w'.cell? ⟨w.heap.size, 1, none⟩ = some (.int .i64 a) ∧ w'.cell? ⟨w.heap.size, 2, none⟩ = some (.int .i64 n) ∧ EdS w 1 a n w') (first | exact hs8 | assumption | exact HX.out _ (EdS.drew (And.right (And.right (And.right (by assumption)))))) ((go_at_call 94; refine (HM.out _).mono ?_; rintro e w1 ⟨rfl, hb1⟩; have hs1 := HX.out _ (EdS.below (And.right (And.right (And.right (by assumption)))) hb1); have ⟨z1, k0, k1, k2⟩ := (And.right (And.right (And.right (hs1)))).1))
     go_wp2
     go_ret2
     exact ⟨rfl, EdS.out (And.right (And.right (And.right (by assumption))))⟩
   ·
    rw [lineR_no (taken_no.2 (by omega)), carry_ins c ins1]
    ·
     clear h g ht h1 h2 e1 e2 e3
     have HX : Hid (∀ w', EdS w 1 a n w' → w'.cell? ⟨w.heap.size, 0, none⟩ = some (.int .i64 1) ∧ w'.cell? ⟨w.heap.size, 1, none⟩ = some (.int .i64 a) ∧ w'.cell? ⟨w.heap.size, 2, none⟩ = some (.int .i64 n) ∧ EdS w 1 a n w') := fun w' h => ⟨h.1.2.1, h.1.2.2.1, h.1.2.2.2, h⟩
     have hs8 := HX.out _ (EdS.start w 1 a n 36)
     go_enter Tryz.func118, Tryz.ntmps118
     go_wp2
     go_region_held3 (fun w' => w'.cell? ⟨w.heap.size, 0, none⟩ = some (.int .i64 1) ∧ w'.cell? ⟨w.heap.size, 1, none⟩ = some (.int .i64 a) ∧ w'.cell? ⟨w.heap.size, 2, none⟩ = some (.int .i64 n) ∧ EdS w 1 a n w') (first | exact hs8 | assumption | exact HX.out _ (EdS.drew (And.right (And.right (And.right (by assumption)))))) ((go_at_call 94; refine (HM.out _).mono ?_; rintro e w1 ⟨rfl, hb1⟩; have hs1 := HX.out _ (EdS.below (And.right (And.right (And.right (by assumption)))) hb1); have ⟨z1, k0, k1, k2⟩ := (And.right (And.right (And.right (hs1)))).1))
     go_wp2
     go_ret2
     exact ⟨rfl, EdS.out (And.right (And.right (And.right (by assumption))))⟩
  ·
   subst e
   obtain ⟨e1, e2⟩ := lost_del (a := a) (n := n) ins2
   by_cases d : x < a + n
   ·
    rw [lineR_yes (taken_iff.2 (by omega)), show fateR 2 = 1 by decide]
    clear h g ht h1 h2 e1 e2 HM
    go_enter Tryz.func118, Tryz.ntmps118
    go_wp2
    go_ret2
    refine ⟨rfl, ?_⟩
    exact bl
   ·
    rw [lineR_no (taken_no.2 (by omega)), carry_del c ins2]
    clear h g ht h1 h2 e1 e2 HM
    go_enter Tryz.func118, Tryz.ntmps118
    go_wp2
    go_ret2
    refine ⟨rfl, ?_⟩
    exact bl
  ·
   subst e
   obtain ⟨e1, e2, e3⟩ := lost_ins h ins3
   rw [top3] at *
   by_cases d : x + n > 16384
   ·
    rw [lineR_yes (taken_iff.2 (by omega)), show fateR 3 = 2 by decide]
    ·
     clear h g ht h1 h2 e1 e2 e3
     have HX : Hid (∀ w', EdS w 3 a n w' → w'.cell? ⟨w.heap.size, 0, none⟩ = some (.int .i64 3) ∧ w'.cell? ⟨w.heap.size, 1, none⟩ = some (.int .i64 a) ∧ w'.cell? ⟨w.heap.size, 2, none⟩ = some (.int .i64 n) ∧ EdS w 3 a n w') := fun w' h => ⟨h.1.2.1, h.1.2.2.1, h.1.2.2.2, h⟩
     have hs8 := HX.out _ (EdS.start w 3 a n 36)
     go_enter Tryz.func118, Tryz.ntmps118
     go_wp2
     go_region_held3 (fun w' => w'.cell? ⟨w.heap.size, 0, none⟩ = some (.int .i64 3) ∧ w'.cell? ⟨w.heap.size, 1, none⟩ = some (.int .i64 a) ∧ w'.cell? ⟨w.heap.size, 2, none⟩ = some (.int .i64 n) ∧ EdS w 3 a n w') (first | exact hs8 | assumption | exact HX.out _ (EdS.drew (And.right (And.right (And.right (by assumption)))))) ((go_at_call 94; refine (HM.out _).mono ?_; rintro e w1 ⟨rfl, hb1⟩; have hs1 := HX.out _ (EdS.below (And.right (And.right (And.right (by assumption)))) hb1); have ⟨z1, k0, k1, k2⟩ := (And.right (And.right (And.right (hs1)))).1))
     go_wp2
     go_ret2
     exact ⟨rfl, EdS.out (And.right (And.right (And.right (by assumption))))⟩
   ·
    rw [lineR_no (taken_no.2 (by omega)), carry_ins c ins3]
    ·
     clear h g ht h1 h2 e1 e2 e3
     have HX : Hid (∀ w', EdS w 3 a n w' → w'.cell? ⟨w.heap.size, 0, none⟩ = some (.int .i64 3) ∧ w'.cell? ⟨w.heap.size, 1, none⟩ = some (.int .i64 a) ∧ w'.cell? ⟨w.heap.size, 2, none⟩ = some (.int .i64 n) ∧ EdS w 3 a n w') := fun w' h => ⟨h.1.2.1, h.1.2.2.1, h.1.2.2.2, h⟩
     have hs8 := HX.out _ (EdS.start w 3 a n 36)
     go_enter Tryz.func118, Tryz.ntmps118
     go_wp2
     go_region_held3 (fun w' => w'.cell? ⟨w.heap.size, 0, none⟩ = some (.int .i64 3) ∧ w'.cell? ⟨w.heap.size, 1, none⟩ = some (.int .i64 a) ∧ w'.cell? ⟨w.heap.size, 2, none⟩ = some (.int .i64 n) ∧ EdS w 3 a n w') (first | exact hs8 | assumption | exact HX.out _ (EdS.drew (And.right (And.right (And.right (by assumption)))))) ((go_at_call 94; refine (HM.out _).mono ?_; rintro e w1 ⟨rfl, hb1⟩; have hs1 := HX.out _ (EdS.below (And.right (And.right (And.right (by assumption)))) hb1); have ⟨z1, k0, k1, k2⟩ := (And.right (And.right (And.right (hs1)))).1))
     go_wp2
     go_ret2
     exact ⟨rfl, EdS.out (And.right (And.right (And.right (by assumption))))⟩
  ·
   subst e
   obtain ⟨e1, e2⟩ := lost_del (a := a) (n := n) ins4
   by_cases d : x < a + n
   ·
    rw [lineR_yes (taken_iff.2 (by omega)), show fateR 4 = 1 by decide]
    clear h g ht h1 h2 e1 e2 HM
    go_enter Tryz.func118, Tryz.ntmps118
    go_wp2
    go_ret2
    refine ⟨rfl, ?_⟩
    exact bl
   ·
    rw [lineR_no (taken_no.2 (by omega)), carry_del c ins4]
    clear h g ht h1 h2 e1 e2 HM
    go_enter Tryz.func118, Tryz.ntmps118
    go_wp2
    go_ret2
    refine ⟨rfl, ?_⟩
    exact bl
end
section
open Go.RowKit
theorem rplace_below (r c : Int) (w : World) : Calls Tryz.prog 81 #[.agg #[.int .i64 r, .int .i64 c]] w fun e w' => e = .returned (.bool (placeB r c)) ∧ Below w.heap.size w w' :=
 (rplace_any r c w).mono fun e w' ⟨h1, h2⟩ => ⟨h1, by rw [h2]; exact (Below.refl _ _).alloc (Nat.le_refl _) _⟩
theorem rspot_any (k a n r c : Int) (w : World) :
  Calls Tryz.prog 95 #[.agg #[.int .i64 k, .int .i64 a, .int .i64 n], .agg #[.int .i64 r, .int .i64 c]] w fun e w' => e = .returned (.tuple #[.agg #[.int .i64 (spotR k a n r c).1, .int .i64 (spotR k a n r c).2.1], .int .i64 (spotR k a n r c).2.2.1, .int .i64 (spotR k a n r c).2.2.2]) ∧ Below w.heap.size w w' := by
 have HR : Hid (∀ W : World, Calls Tryz.prog 66 #[.agg #[.int .i64 k, .int .i64 a, .int .i64 n]] W fun e w' => e = .returned (.bool (editB k a n)) ∧ Below W.heap.size W w') := fun W => reditB_any k a n W
 have HP : Hid (∀ W : World, Calls Tryz.prog 81 #[.agg #[.int .i64 r, .int .i64 c]] W fun e w' => e = .returned (.bool (placeB r c)) ∧ Below W.heap.size W w') := fun W => rplace_below r c W
 have HO : Hid (∀ W : World, Calls Tryz.prog 117 #[.agg #[.int .i64 k, .int .i64 a, .int .i64 n]] W fun e w' => e = .returned (.bool (rowsB k)) ∧ Below W.heap.size W w') := fun W => rrows_any k a n W
 have H0 := hide (SpS.start w k a n r c 36 28 28)
 cases h : editB k a n
 ·
  rw [spotR_no (Or.inl h)]
  rw [h] at HR
  clear h
  go_enter Tryz.func95, Tryz.ntmps95
  go_wp2_with ((go_at_call 66; refine (HR.out _).mono ?_; rintro e w1 ⟨rfl, hb⟩; have hs := H0.out.below hb; have ⟨⟨z1, k0, k1, k2⟩, ⟨⟨z2, j0, j1⟩, f0, f1⟩, ⟨⟨z3, i0, i1⟩, g0, g1⟩, hbz⟩ := hs; have HS1 := hide hs; clear hs hb))
  refine bodyPost_ret (v := .tuple #[.agg #[.int .i64 0, .int .i64 0], .int .i64 0, .int .i64 2]) (by simp [results, Tryz.results95, go_sem, *]) rfl ⟨rfl, ?_⟩
  exact bl
 ·
  rw [h] at HR
  cases hp : placeB r c
  ·
   rw [spotR_no (Or.inr hp)]
   rw [hp] at HP
   clear h hp
   go_enter Tryz.func95, Tryz.ntmps95
   go_wp2_with (first | (go_at_call 66; refine (HR.out _).mono ?_; rintro e w1 ⟨rfl, hb⟩; have hs := H0.out.below hb; have ⟨⟨z1, k0, k1, k2⟩, ⟨⟨z2, j0, j1⟩, f0, f1⟩, ⟨⟨z3, i0, i1⟩, g0, g1⟩, hbz⟩ := hs; have HS1 := hide hs; clear hs hb) | (go_at_call 81; refine (HP.out _).mono ?_; rintro e w2 ⟨rfl, hb⟩; have hs := HS1.out.below hb; clear z1 k0 k1 k2 z2 j0 j1 f0 f1 z3 i0 i1 g0 g1 hbz; have ⟨⟨z1, k0, k1, k2⟩, ⟨⟨z2, j0, j1⟩, f0, f1⟩, ⟨⟨z3, i0, i1⟩, g0, g1⟩, hbz⟩ := hs; have HS2 := hide hs; clear hs hb))
   refine bodyPost_ret (v := .tuple #[.agg #[.int .i64 0, .int .i64 0], .int .i64 0, .int .i64 2]) (by simp [results, Tryz.results95, go_sem, *]) rfl ⟨rfl, ?_⟩
   exact bl
  ·
   rw [hp] at HP
   have p := placeB_iff.1 hp
   cases hr : rowsB k
   ·
    rw [spotR_col h hp hr]
    rw [hr] at HO
    have ht := top_cols hr
    have HL : Hid (∀ W : World, Calls Tryz.prog 118 #[.agg #[.int .i64 k, .int .i64 a, .int .i64 n], .int .i64 c] W fun e w' => e = .returned (.tuple #[.int .i64 (lineR k a n c).1, .int .i64 (lineR k a n c).2]) ∧ Below W.heap.size W w') := fun W => rline_any h (by omega) (by omega) W
    have hf : fateR k = 1 ∨ fateR k = 2 := by unfold fateR; split <;> simp
    cases hq : takenB k a n c
    ·
     rw [lineR_no hq] at HL
     generalize carryR k a n c = v at *
     clear h hp hr ht hq p hf
     go_enter Tryz.func95, Tryz.ntmps95
     go_wp2_with (first | (go_at_call 66; refine (HR.out _).mono ?_; rintro e w1 ⟨rfl, hb⟩; have hs := H0.out.below hb; have ⟨⟨z1, k0, k1, k2⟩, ⟨⟨z2, j0, j1⟩, f0, f1⟩, ⟨⟨z3, i0, i1⟩, g0, g1⟩, hbz⟩ := hs; have HS1 := hide hs; clear hs hb) | (go_at_call 81; refine (HP.out _).mono ?_; rintro e w2 ⟨rfl, hb⟩; have hs := HS1.out.below hb; clear z1 k0 k1 k2 z2 j0 j1 f0 f1 z3 i0 i1 g0 g1 hbz; have ⟨⟨z1, k0, k1, k2⟩, ⟨⟨z2, j0, j1⟩, f0, f1⟩, ⟨⟨z3, i0, i1⟩, g0, g1⟩, hbz⟩ := hs; have HS2 := hide hs; clear hs hb) | (go_at_call 117; refine (HO.out _).mono ?_; rintro e w3 ⟨rfl, hb⟩; have hs := HS2.out.below hb; clear z1 k0 k1 k2 z2 j0 j1 f0 f1 z3 i0 i1 g0 g1 hbz; have ⟨⟨z1, k0, k1, k2⟩, ⟨⟨z2, j0, j1⟩, f0, f1⟩, ⟨⟨z3, i0, i1⟩, g0, g1⟩, hbz⟩ := hs; have HS3 := hide hs; clear hs hb) | (go_at_call 118; refine (HL.out _).mono ?_; rintro e w4 ⟨rfl, hb⟩; have hs := HS3.out.below hb; clear z1 k0 k1 k2 z2 j0 j1 f0 f1 z3 i0 i1 g0 g1 hbz; have ⟨⟨z1, k0, k1, k2⟩, ⟨⟨z2, j0, j1⟩, f0, f1⟩, ⟨⟨z3, i0, i1⟩, g0, g1⟩, hbz⟩ := hs; have HS4 := hide hs; clear hs hb))
     refine bodyPost_ret (v := .tuple #[.agg #[.int .i64 r, .int .i64 v], .int .i64 0, .int .i64 0]) (by simp [results, Tryz.results95, go_sem, *]) rfl ⟨rfl, ?_⟩
     exact bl
    ·
     rw [lineR_yes hq] at HL
     generalize fateR k = F at *
     have e0 : (F == 0) = false := by rw [beq_eq_false_iff_ne]; omega
     clear h hp hr ht hq p hf
     go_enter Tryz.func95, Tryz.ntmps95
     go_wp2_with (first | (go_at_call 66; refine (HR.out _).mono ?_; rintro e w1 ⟨rfl, hb⟩; have hs := H0.out.below hb; have ⟨⟨z1, k0, k1, k2⟩, ⟨⟨z2, j0, j1⟩, f0, f1⟩, ⟨⟨z3, i0, i1⟩, g0, g1⟩, hbz⟩ := hs; have HS1 := hide hs; clear hs hb) | (go_at_call 81; refine (HP.out _).mono ?_; rintro e w2 ⟨rfl, hb⟩; have hs := HS1.out.below hb; clear z1 k0 k1 k2 z2 j0 j1 f0 f1 z3 i0 i1 g0 g1 hbz; have ⟨⟨z1, k0, k1, k2⟩, ⟨⟨z2, j0, j1⟩, f0, f1⟩, ⟨⟨z3, i0, i1⟩, g0, g1⟩, hbz⟩ := hs; have HS2 := hide hs; clear hs hb) | (go_at_call 117; refine (HO.out _).mono ?_; rintro e w3 ⟨rfl, hb⟩; have hs := HS2.out.below hb; clear z1 k0 k1 k2 z2 j0 j1 f0 f1 z3 i0 i1 g0 g1 hbz; have ⟨⟨z1, k0, k1, k2⟩, ⟨⟨z2, j0, j1⟩, f0, f1⟩, ⟨⟨z3, i0, i1⟩, g0, g1⟩, hbz⟩ := hs; have HS3 := hide hs; clear hs hb) | (go_at_call 118; refine (HL.out _).mono ?_; rintro e w4 ⟨rfl, hb⟩; have hs := HS3.out.below hb; clear z1 k0 k1 k2 z2 j0 j1 f0 f1 z3 i0 i1 g0 g1 hbz; have ⟨⟨z1, k0, k1, k2⟩, ⟨⟨z2, j0, j1⟩, f0, f1⟩, ⟨⟨z3, i0, i1⟩, g0, g1⟩, hbz⟩ := hs; have HS4 := hide hs; clear hs hb))
     refine bodyPost_ret (v := .tuple #[.agg #[.int .i64 0, .int .i64 0], .int .i64 F, .int .i64 0]) (by simp [results, Tryz.results95, go_sem, *]) rfl ⟨rfl, ?_⟩
     exact bl
   ·
    rw [spotR_row h hp hr]
    rw [hr] at HO
    have ht := top_rows hr
    have HL : Hid (∀ W : World, Calls Tryz.prog 118 #[.agg #[.int .i64 k, .int .i64 a, .int .i64 n], .int .i64 r] W fun e w' => e = .returned (.tuple #[.int .i64 (lineR k a n r).1, .int .i64 (lineR k a n r).2]) ∧ Below W.heap.size W w') := fun W => rline_any h (by omega) (by omega) W
    have hf : fateR k = 1 ∨ fateR k = 2 := by unfold fateR; split <;> simp
    cases hq : takenB k a n r
    ·
     rw [lineR_no hq] at HL
     generalize carryR k a n r = v at *
     clear h hp hr ht hq p hf
     go_enter Tryz.func95, Tryz.ntmps95
     go_wp2_with (first | (go_at_call 66; refine (HR.out _).mono ?_; rintro e w1 ⟨rfl, hb⟩; have hs := H0.out.below hb; have ⟨⟨z1, k0, k1, k2⟩, ⟨⟨z2, j0, j1⟩, f0, f1⟩, ⟨⟨z3, i0, i1⟩, g0, g1⟩, hbz⟩ := hs; have HS1 := hide hs; clear hs hb) | (go_at_call 81; refine (HP.out _).mono ?_; rintro e w2 ⟨rfl, hb⟩; have hs := HS1.out.below hb; clear z1 k0 k1 k2 z2 j0 j1 f0 f1 z3 i0 i1 g0 g1 hbz; have ⟨⟨z1, k0, k1, k2⟩, ⟨⟨z2, j0, j1⟩, f0, f1⟩, ⟨⟨z3, i0, i1⟩, g0, g1⟩, hbz⟩ := hs; have HS2 := hide hs; clear hs hb) | (go_at_call 117; refine (HO.out _).mono ?_; rintro e w3 ⟨rfl, hb⟩; have hs := HS2.out.below hb; clear z1 k0 k1 k2 z2 j0 j1 f0 f1 z3 i0 i1 g0 g1 hbz; have ⟨⟨z1, k0, k1, k2⟩, ⟨⟨z2, j0, j1⟩, f0, f1⟩, ⟨⟨z3, i0, i1⟩, g0, g1⟩, hbz⟩ := hs; have HS3 := hide hs; clear hs hb) | (go_at_call 118; refine (HL.out _).mono ?_; rintro e w4 ⟨rfl, hb⟩; have hs := HS3.out.below hb; clear z1 k0 k1 k2 z2 j0 j1 f0 f1 z3 i0 i1 g0 g1 hbz; have ⟨⟨z1, k0, k1, k2⟩, ⟨⟨z2, j0, j1⟩, f0, f1⟩, ⟨⟨z3, i0, i1⟩, g0, g1⟩, hbz⟩ := hs; have HS4 := hide hs; clear hs hb))
     refine bodyPost_ret (v := .tuple #[.agg #[.int .i64 v, .int .i64 c], .int .i64 0, .int .i64 0]) (by simp [results, Tryz.results95, go_sem, *]) rfl ⟨rfl, ?_⟩
     exact bl
    ·
     rw [lineR_yes hq] at HL
     generalize fateR k = F at *
     have e0 : (F == 0) = false := by rw [beq_eq_false_iff_ne]; omega
     clear h hp hr ht hq p hf
     go_enter Tryz.func95, Tryz.ntmps95
     go_wp2_with (first | (go_at_call 66; refine (HR.out _).mono ?_; rintro e w1 ⟨rfl, hb⟩; have hs := H0.out.below hb; have ⟨⟨z1, k0, k1, k2⟩, ⟨⟨z2, j0, j1⟩, f0, f1⟩, ⟨⟨z3, i0, i1⟩, g0, g1⟩, hbz⟩ := hs; have HS1 := hide hs; clear hs hb) | (go_at_call 81; refine (HP.out _).mono ?_; rintro e w2 ⟨rfl, hb⟩; have hs := HS1.out.below hb; clear z1 k0 k1 k2 z2 j0 j1 f0 f1 z3 i0 i1 g0 g1 hbz; have ⟨⟨z1, k0, k1, k2⟩, ⟨⟨z2, j0, j1⟩, f0, f1⟩, ⟨⟨z3, i0, i1⟩, g0, g1⟩, hbz⟩ := hs; have HS2 := hide hs; clear hs hb) | (go_at_call 117; refine (HO.out _).mono ?_; rintro e w3 ⟨rfl, hb⟩; have hs := HS2.out.below hb; clear z1 k0 k1 k2 z2 j0 j1 f0 f1 z3 i0 i1 g0 g1 hbz; have ⟨⟨z1, k0, k1, k2⟩, ⟨⟨z2, j0, j1⟩, f0, f1⟩, ⟨⟨z3, i0, i1⟩, g0, g1⟩, hbz⟩ := hs; have HS3 := hide hs; clear hs hb) | (go_at_call 118; refine (HL.out _).mono ?_; rintro e w4 ⟨rfl, hb⟩; have hs := HS3.out.below hb; clear z1 k0 k1 k2 z2 j0 j1 f0 f1 z3 i0 i1 g0 g1 hbz; have ⟨⟨z1, k0, k1, k2⟩, ⟨⟨z2, j0, j1⟩, f0, f1⟩, ⟨⟨z3, i0, i1⟩, g0, g1⟩, hbz⟩ := hs; have HS4 := hide hs; clear hs hb))
     refine bodyPost_ret (v := .tuple #[.agg #[.int .i64 0, .int .i64 0], .int .i64 F, .int .i64 0]) (by simp [results, Tryz.results95, go_sem, *]) rfl ⟨rfl, ?_⟩
     exact bl
end
section
open Go.RowKit
theorem rends_any {k a n f l : Int} (h : editB k a n = true) (h1 : 1 ≤ f) (h2 : f ≤ l) (h3 : l ≤ topE k) (w : World) :
  Calls Tryz.prog 120 #[.agg #[.int .i64 k, .int .i64 a, .int .i64 n], .int .i64 f, .int .i64 l] w fun e w' => e = .returned (.tuple #[.int .i64 (linesR k a n f l).1, .int .i64 (linesR k a n f l).2.1, .bool (linesR k a n f l).2.2]) ∧ Below w.heap.size w w' := by
 have HF : Hid (∀ W : World, Calls Tryz.prog 118 #[.agg #[.int .i64 k, .int .i64 a, .int .i64 n], .int .i64 f] W fun e w' => e = .returned (.tuple #[.int .i64 (lineR k a n f).1, .int .i64 (lineR k a n f).2]) ∧ Below W.heap.size W w') := fun W => rline_any h (by omega) (by omega) W
 have HL : Hid (∀ W : World, Calls Tryz.prog 118 #[.agg #[.int .i64 k, .int .i64 a, .int .i64 n], .int .i64 l] W fun e w' => e = .returned (.tuple #[.int .i64 (lineR k a n l).1, .int .i64 (lineR k a n l).2]) ∧ Below W.heap.size W w') := fun W => rline_any h (by omega) (by omega) W
 have HM : Hid (∀ W : World, Calls Tryz.prog 94 #[.agg #[.int .i64 k, .int .i64 a, .int .i64 n]] W fun e w' => e = .returned (.int .i64 (topE k)) ∧ Below W.heap.size W w') := fun W => rmost_any k a n W
 have HX : Hid (∀ w', EdS w k a n w' → w'.cell? ⟨w.heap.size, 0, none⟩ = some (.int .i64 k) ∧ w'.cell? ⟨w.heap.size, 1, none⟩ = some (.int .i64 a) ∧ w'.cell? ⟨w.heap.size, 2, none⟩ = some (.int .i64 n) ∧ EdS w k a n w') := fun w' h => ⟨h.1.2.1, h.1.2.2.1, h.1.2.2.2, h⟩
 have H0 := hide (EdS.start w k a n 36)
 have g := editB_iff.1 h
 have ht := topE_le k
 have ord := lost_ord h
 have u1 : IntKind.i64.wrap (a + n) = a + n := wrapI (by omega) (by omega)
 have u2 : IntKind.i64.wrap (a - 1) = a - 1 := wrapI (by omega) (by omega)
 cases hf : takenB k a n f
 ·
  rw [lineR_no hf] at HF
  have tf := taken_no.1 hf
  cases hl : takenB k a n l
  ·
   rw [lineR_no hl] at HL
   rw [linesR_yes (by rw [leftF_no hf, leftL_no hl]; exact h2), leftF_no hf, leftL_no hl]
   generalize carryR k a n f = X at *
   generalize carryR k a n l = Y at *
   clear h g ht ord hf hl h1 h2 h3 tf HX HM
   go_enter Tryz.func120, Tryz.ntmps120
   go_wp2_with (first | (go_at_call_of 118 [Value.agg #[Value.int IntKind.i64 k, Value.int IntKind.i64 a, Value.int IntKind.i64 n], Value.int IntKind.i64 f]; refine (HF.out _).mono ?_; rintro e wn ⟨rfl, hb⟩; have hs := EdS.below (by first | assumption | exact H0.out) hb; have ⟨⟨z1, k0, k1, k2⟩, hbz⟩ := hs) | (go_at_call_of 118 [Value.agg #[Value.int IntKind.i64 k, Value.int IntKind.i64 a, Value.int IntKind.i64 n], Value.int IntKind.i64 l]; refine (HL.out _).mono ?_; rintro e wn ⟨rfl, hb⟩; have hs := EdS.below (by first | assumption | exact H0.out) hb; have ⟨⟨z1, k0, k1, k2⟩, hbz⟩ := hs))
   refine bodyPost_ret (v := .tuple #[.int .i64 X, .int .i64 Y, .bool true]) (by simp [results, Tryz.results120, go_sem]) rfl ⟨rfl, by assumption⟩
  ·
   rw [lineR_yes hl] at HL
   have tl := taken_iff.1 hl
   have hq : leftF k a n f ≤ leftL k a n l := by rw [leftF_no hf, leftL_yes hl]; omega
   rw [linesR_yes hq, leftF_no hf, leftL_yes hl]
   cases hi : insB k
   ·
    obtain ⟨e1, e2⟩ := lost_del (a := a) (n := n) hi
    rw [show fateR k = 1 by simp [fateR, hi]] at HL
    rw [e1, carry_low (show a - 1 < a by omega)]
    generalize carryR k a n f = X at *
    clear h g ht ord hf hl h1 h2 h3 tf tl hq hi e1 e2 HX HM
    go_enter Tryz.func120, Tryz.ntmps120
    go_wp2_with (first | (go_at_call_of 118 [Value.agg #[Value.int IntKind.i64 k, Value.int IntKind.i64 a, Value.int IntKind.i64 n], Value.int IntKind.i64 f]; refine (HF.out _).mono ?_; rintro e wn ⟨rfl, hb⟩; have hs := EdS.below (by first | assumption | exact H0.out) hb; have ⟨⟨z1, k0, k1, k2⟩, hbz⟩ := hs) | (go_at_call_of 118 [Value.agg #[Value.int IntKind.i64 k, Value.int IntKind.i64 a, Value.int IntKind.i64 n], Value.int IntKind.i64 l]; refine (HL.out _).mono ?_; rintro e wn ⟨rfl, hb⟩; have hs := EdS.below (by first | assumption | exact H0.out) hb; have ⟨⟨z1, k0, k1, k2⟩, hbz⟩ := hs))
    refine bodyPost_ret (v := .tuple #[.int .i64 X, .int .i64 (a - 1), .bool true]) (by simp [results, Tryz.results120, go_sem]) rfl ⟨rfl, by assumption⟩
   ·
    obtain ⟨e1, e2, e3⟩ := lost_ins h hi
    rw [show fateR k = 2 by simp [fateR, hi]] at HL
    by_cases d1 : f < a
    ·
     by_cases d2 : a + n > topE k
     ·
      rw [show lostF k a n - 1 = a - 1 by omega, carry_low (show a - 1 < a by omega)]
      generalize carryR k a n f = X at *
      generalize topE k = T at *
      clear h g ht ord hf hl h1 h2 h3 tf tl hq hi e1 e2 e3
      go_enter Tryz.func120, Tryz.ntmps120
      go_wp2_with (first | (go_at_call_of 118 [Value.agg #[Value.int IntKind.i64 k, Value.int IntKind.i64 a, Value.int IntKind.i64 n], Value.int IntKind.i64 f]; refine (HF.out _).mono ?_; rintro e wn ⟨rfl, hb⟩; have hs := EdS.below (by first | assumption | exact H0.out) hb; have ⟨⟨z1, k0, k1, k2⟩, hbz⟩ := hs) | (go_at_call_of 118 [Value.agg #[Value.int IntKind.i64 k, Value.int IntKind.i64 a, Value.int IntKind.i64 n], Value.int IntKind.i64 l]; refine (HL.out _).mono ?_; rintro e wn ⟨rfl, hb⟩; have hs := EdS.below (by first | assumption | exact H0.out) hb; have ⟨⟨z1, k0, k1, k2⟩, hbz⟩ := hs) | (go_at_call 94; refine (HM.out _).mono ?_; rintro e wn ⟨rfl, hb⟩; have hs := EdS.below (by first | assumption | exact H0.out) hb; have ⟨⟨z1, k0, k1, k2⟩, hbz⟩ := hs))
      have hs8 := HX.out _ hs
      go_region_held3 (fun w' => w'.cell? ⟨w.heap.size, 0, none⟩ = some (.int .i64 k) ∧ w'.cell? ⟨w.heap.size, 1, none⟩ = some (.int .i64 a) ∧ w'.cell? ⟨w.heap.size, 2, none⟩ = some (.int .i64 n) ∧ EdS w k a n w') (first | exact hs8 | assumption | exact HX.out _ (EdS.drew (And.right (And.right (And.right (by assumption)))))) ((go_at_call 94; refine (HM.out _).mono ?_; rintro e wn ⟨rfl, hb⟩; have hs9 := HX.out _ (EdS.below (And.right (And.right (And.right (by assumption)))) hb); have ⟨⟨z1, k0, k1, k2⟩, hbz⟩ := And.right (And.right (And.right (hs9)))))
      go_wp2
      refine bodyPost_ret (v := .tuple #[.int .i64 X, .int .i64 (a - 1), .bool true]) (by simp [results, Tryz.results120, go_sem]) rfl ⟨rfl, EdS.out (And.right (And.right (And.right (by assumption))))⟩
     ·
      have hv : carryR k a n (lostF k a n - 1) = topE k := by rw [carry_ins (by omega) hi]; omega
      rw [hv]
      have d3 : (a + n > topE k) = False := by simpa using d2
      generalize carryR k a n f = X at *
      generalize topE k = T at *
      clear h g ht ord hf hl h1 h2 h3 tf tl hq hi e1 e2 e3 d2 hv
      go_enter Tryz.func120, Tryz.ntmps120
      go_wp2_with (first | (go_at_call_of 118 [Value.agg #[Value.int IntKind.i64 k, Value.int IntKind.i64 a, Value.int IntKind.i64 n], Value.int IntKind.i64 f]; refine (HF.out _).mono ?_; rintro e wn ⟨rfl, hb⟩; have hs := EdS.below (by first | assumption | exact H0.out) hb; have ⟨⟨z1, k0, k1, k2⟩, hbz⟩ := hs) | (go_at_call_of 118 [Value.agg #[Value.int IntKind.i64 k, Value.int IntKind.i64 a, Value.int IntKind.i64 n], Value.int IntKind.i64 l]; refine (HL.out _).mono ?_; rintro e wn ⟨rfl, hb⟩; have hs := EdS.below (by first | assumption | exact H0.out) hb; have ⟨⟨z1, k0, k1, k2⟩, hbz⟩ := hs) | (go_at_call 94; refine (HM.out _).mono ?_; rintro e wn ⟨rfl, hb⟩; have hs := EdS.below (by first | assumption | exact H0.out) hb; have ⟨⟨z1, k0, k1, k2⟩, hbz⟩ := hs))
      have hs8 := HX.out _ hs
      go_region_held3 (fun w' => w'.cell? ⟨w.heap.size, 0, none⟩ = some (.int .i64 k) ∧ w'.cell? ⟨w.heap.size, 1, none⟩ = some (.int .i64 a) ∧ w'.cell? ⟨w.heap.size, 2, none⟩ = some (.int .i64 n) ∧ EdS w k a n w') (first | exact hs8 | assumption | exact HX.out _ (EdS.drew (And.right (And.right (And.right (by assumption)))))) ((go_at_call 94; refine (HM.out _).mono ?_; rintro e wn ⟨rfl, hb⟩; have hs9 := HX.out _ (EdS.below (And.right (And.right (And.right (by assumption)))) hb); have ⟨⟨z1, k0, k1, k2⟩, hbz⟩ := And.right (And.right (And.right (hs9)))))
      go_wp2
      refine bodyPost_ret (v := .tuple #[.int .i64 X, .int .i64 T, .bool true]) (by simp [results, Tryz.results120, go_sem]) rfl ⟨rfl, EdS.out (And.right (And.right (And.right (by assumption))))⟩
    ·
     have hv : carryR k a n (lostF k a n - 1) = topE k := by rw [carry_ins (by omega) hi]; omega
     rw [hv]
     have d3 : (f < a) = False := by simpa using d1
     generalize carryR k a n f = X at *
     generalize topE k = T at *
     clear h g ht ord hf hl h1 h2 h3 tf tl hq hi e1 e2 e3 d1 hv
     go_enter Tryz.func120, Tryz.ntmps120
     go_wp2_with (first | (go_at_call_of 118 [Value.agg #[Value.int IntKind.i64 k, Value.int IntKind.i64 a, Value.int IntKind.i64 n], Value.int IntKind.i64 f]; refine (HF.out _).mono ?_; rintro e wn ⟨rfl, hb⟩; have hs := EdS.below (by first | assumption | exact H0.out) hb; have ⟨⟨z1, k0, k1, k2⟩, hbz⟩ := hs) | (go_at_call_of 118 [Value.agg #[Value.int IntKind.i64 k, Value.int IntKind.i64 a, Value.int IntKind.i64 n], Value.int IntKind.i64 l]; refine (HL.out _).mono ?_; rintro e wn ⟨rfl, hb⟩; have hs := EdS.below (by first | assumption | exact H0.out) hb; have ⟨⟨z1, k0, k1, k2⟩, hbz⟩ := hs) | (go_at_call 94; refine (HM.out _).mono ?_; rintro e wn ⟨rfl, hb⟩; have hs := EdS.below (by first | assumption | exact H0.out) hb; have ⟨⟨z1, k0, k1, k2⟩, hbz⟩ := hs))
     have hs8 := HX.out _ hs
     refine wp_region_held_drew (S := fun w' => w'.cell? ⟨w.heap.size, 0, none⟩ = some (.int .i64 k) ∧ w'.cell? ⟨w.heap.size, 1, none⟩ = some (.int .i64 a) ∧ w'.cell? ⟨w.heap.size, 2, none⟩ = some (.int .i64 n) ∧ EdS w k a n w') (by kernel_rfl) (HX.out _ (EdS.drew hs)) (fun hHeld => ?_)
     refine takeF 0 (some 55) ?_; refine takeF 1 (some 56) ?_; refine takeF 2 (some 57) ?_; refine takeF 3 (some 58) ?_; refine takeF 4 (some 59) ?_; (refine skipE (i := 5) (some 60) rfl rfl (by kernel_rfl) rfl (by assumption) ?_; try simp only [Act.put, pA, pB, pC]); (refine skipE (i := 6) (some 61) rfl rfl (by kernel_rfl) rfl (by assumption) ?_; try simp only [Act.put, pA, pB, pC]); (refine skipE (i := 7) (some 62) rfl rfl (by kernel_rfl) rfl (by assumption) ?_; try simp only [Act.put, pA, pB, pC]); (refine skipE (i := 8) (some 63) rfl rfl (by kernel_rfl) rfl (by assumption) ?_; try simp only [Act.put, pA, pB, pC]); (refine skipE (i := 9) (some 64) rfl rfl (by kernel_rfl) rfl (by assumption) ?_; try simp only [Act.put, pA, pB, pC]); (refine skipE (i := 10) (some 65) rfl rfl (by kernel_rfl) rfl (by assumption) ?_; try simp only [Act.put, pA, pB, pC]); (refine skipE (i := 11) (some 66) rfl rfl (by kernel_rfl) rfl (by assumption) ?_; try simp only [Act.put, pA, pB, pC]); (refine skipE (i := 12) (some 67) rfl rfl (by kernel_rfl) rfl (by assumption) ?_; try simp only [Act.put, pA, pB, pC]); refine takeF 13 (some 68) ?_; refine wpAnyH_done (by kernel_rfl) ?_ _
     go_wp2
     refine bodyPost_ret (v := .tuple #[.int .i64 X, .int .i64 T, .bool true]) (by simp [results, Tryz.results120, go_sem]) rfl ⟨rfl, EdS.out (And.right (And.right (And.right (by assumption))))⟩
 ·
  have tf := taken_iff.1 hf
  rw [lineR_yes hf] at HF
  cases hi : insB k
  ·
   obtain ⟨e1, e2⟩ := lost_del (a := a) (n := n) hi
   rw [show fateR k = 1 by simp [fateR, hi]] at HF
   by_cases d1 : l < a + n
   ·
    have hl : takenB k a n l = true := taken_iff.2 (by omega)
    rw [linesR_no (by rw [leftF_yes hf, leftL_yes hl]; omega)]
    clear h g ht ord hf hl h1 h2 h3 tf hi e1 e2 HX HM HL
    go_enter Tryz.func120, Tryz.ntmps120
    go_wp2_with (first | (go_at_call_of 118 [Value.agg #[Value.int IntKind.i64 k, Value.int IntKind.i64 a, Value.int IntKind.i64 n], Value.int IntKind.i64 f]; refine (HF.out _).mono ?_; rintro e wn ⟨rfl, hb⟩; have hs := EdS.below (by first | assumption | exact H0.out) hb; have ⟨⟨z1, k0, k1, k2⟩, hbz⟩ := hs))
    refine bodyPost_ret (v := .tuple #[.int .i64 0, .int .i64 0, .bool false]) (by simp [results, Tryz.results120, go_sem]) rfl ⟨rfl, by assumption⟩
   ·
    have hl : takenB k a n l = false := taken_no.2 (by omega)
    have hg : takenB k a n (a + n) = false := taken_no.2 (by omega)
    have HG : Hid (∀ W : World, Calls Tryz.prog 118 #[.agg #[.int .i64 k, .int .i64 a, .int .i64 n], .int .i64 (a + n)] W fun e w' => e = .returned (.tuple #[.int .i64 (carryR k a n (a + n)), .int .i64 0]) ∧ Below W.heap.size W w') := fun W => by have := rline_any h (x := a + n) (by omega) (by omega) W; rw [lineR_no hg] at this; exact this
    rw [lineR_no hl] at HL
    have hq : leftF k a n f ≤ leftL k a n l := by rw [leftF_yes hf, leftL_no hl]; omega
    rw [linesR_yes hq, leftF_yes hf, leftL_no hl, show lostL k a n + 1 = a + n by omega]
    generalize carryR k a n (a + n) = X at *
    generalize carryR k a n l = Y at *
    clear h g ht ord hf hl h1 h2 h3 tf hi e1 e2 HX HM hq hg
    go_enter Tryz.func120, Tryz.ntmps120
    go_wp2_with (first | (go_at_call_of 118 [Value.agg #[Value.int IntKind.i64 k, Value.int IntKind.i64 a, Value.int IntKind.i64 n], Value.int IntKind.i64 f]; refine (HF.out _).mono ?_; rintro e wn ⟨rfl, hb⟩; have hs := EdS.below (by first | assumption | exact H0.out) hb; have ⟨⟨z1, k0, k1, k2⟩, hbz⟩ := hs) | (go_at_call_of 118 [Value.agg #[Value.int IntKind.i64 k, Value.int IntKind.i64 a, Value.int IntKind.i64 n], Value.int IntKind.i64 (a + n)]; refine (HG.out _).mono ?_; rintro e wn ⟨rfl, hb⟩; have hs := EdS.below (by first | assumption | exact H0.out) hb; have ⟨⟨z1, k0, k1, k2⟩, hbz⟩ := hs) | (go_at_call_of 118 [Value.agg #[Value.int IntKind.i64 k, Value.int IntKind.i64 a, Value.int IntKind.i64 n], Value.int IntKind.i64 l]; refine (HL.out _).mono ?_; rintro e wn ⟨rfl, hb⟩; have hs := EdS.below (by first | assumption | exact H0.out) hb; have ⟨⟨z1, k0, k1, k2⟩, hbz⟩ := hs))
    refine bodyPost_ret (v := .tuple #[.int .i64 X, .int .i64 Y, .bool true]) (by simp [results, Tryz.results120, go_sem]) rfl ⟨rfl, by assumption⟩
  ·
   obtain ⟨e1, e2, e3⟩ := lost_ins h hi
   rw [show fateR k = 2 by simp [fateR, hi]] at HF
   have hl : takenB k a n l = true := taken_iff.2 (by omega)
   rw [linesR_no (by rw [leftF_yes hf, leftL_yes hl]; omega)]
   clear h g ht ord hf hl h1 h2 h3 tf hi e1 e2 e3 HX HM HL
   go_enter Tryz.func120, Tryz.ntmps120
   go_wp2_with (first | (go_at_call_of 118 [Value.agg #[Value.int IntKind.i64 k, Value.int IntKind.i64 a, Value.int IntKind.i64 n], Value.int IntKind.i64 f]; refine (HF.out _).mono ?_; rintro e wn ⟨rfl, hb⟩; have hs := EdS.below (by first | assumption | exact H0.out) hb; have ⟨⟨z1, k0, k1, k2⟩, hbz⟩ := hs))
   refine bodyPost_ret (v := .tuple #[.int .i64 0, .int .i64 0, .bool false]) (by simp [results, Tryz.results120, go_sem]) rfl ⟨rfl, by assumption⟩
end
section
open Go.RowKit
def RwS (w : World) (k a n t l b r : Int) (w' : World) : Prop := At3 w' w.heap.size k a n ∧ Has4 w' (w.heap.size + 1) t l b r ∧ Has4 w' (w.heap.size + 1 + 1) 0 0 0 0 ∧ Below w.heap.size w w'
theorem RwS.below {w w1 w' : World} {k a n t l b r : Int} (h : RwS w k a n t l b r w1) (m : Below w1.heap.size w1 w') : RwS w k a n t l b r w' :=
 ⟨h.1.below m, h.2.1.below m, h.2.2.1.below m, h.2.2.2.trans (m.mono h.2.2.2.size)⟩
theorem RwS.drew {w w1 : World} {k a n t l b r : Int} (h : RwS w k a n t l b r w1) : RwS w k a n t l b r w1.drew := h.below ((Below.refl _ _).drew)
theorem RwS.start (w : World) (k a n t l b r : Int) (t1 t2 t3 : TypeId) : RwS w k a n t l b r (((w.alloc (.cells #[.int .i64 k, .int .i64 a, .int .i64 n] t1)).alloc (.cells #[.int .i64 t, .int .i64 l, .int .i64 b, .int .i64 r] t2)).alloc (.cells #[.int .i64 0, .int .i64 0, .int .i64 0, .int .i64 0] t3)) := by
 refine ⟨((At3.new w k a n t1).alloc _).alloc _, ?_, ?_, ?_⟩
 ·
  have := (Has4.new (w.alloc (.cells #[.int .i64 k, .int .i64 a, .int .i64 n] t1)) t l b r t2).alloc (.cells #[.int .i64 0, .int .i64 0, .int .i64 0, .int .i64 0] t3)
  simpa using this
 ·
  have := Has4.new ((w.alloc (.cells #[.int .i64 k, .int .i64 a, .int .i64 n] t1)).alloc (.cells #[.int .i64 t, .int .i64 l, .int .i64 b, .int .i64 r] t2)) 0 0 0 0 t3
  simpa using this
 ·
  exact bl
theorem rrect_any (k a n t l b r : Int) (w : World) :
  Calls Tryz.prog 97 #[.agg #[.int .i64 k, .int .i64 a, .int .i64 n], .agg #[.int .i64 t, .int .i64 l, .int .i64 b, .int .i64 r]] w fun e w' => e = .returned (.tuple #[.agg #[.int .i64 (rectR k a n t l b r).1, .int .i64 (rectR k a n t l b r).2.1, .int .i64 (rectR k a n t l b r).2.2.1, .int .i64 (rectR k a n t l b r).2.2.2.1], .bool (rectR k a n t l b r).2.2.2.2.1, .int .i64 (rectR k a n t l b r).2.2.2.2.2]) ∧ Below w.heap.size w w' := by
 have HR : Hid (∀ W : World, Calls Tryz.prog 66 #[.agg #[.int .i64 k, .int .i64 a, .int .i64 n]] W fun e w' => e = .returned (.bool (editB k a n)) ∧ Below W.heap.size W w') := fun W => reditB_any k a n W
 have HP : Hid (∀ W : World, Calls Tryz.prog 119 #[.agg #[.int .i64 t, .int .i64 l, .int .i64 b, .int .i64 r]] W fun e w' => e = .returned (.bool (rightB t l b r)) ∧ Below W.heap.size W w') := fun W => rright_any t l b r W
 have HO : Hid (∀ W : World, Calls Tryz.prog 117 #[.agg #[.int .i64 k, .int .i64 a, .int .i64 n]] W fun e w' => e = .returned (.bool (rowsB k)) ∧ Below W.heap.size W w') := fun W => rrows_any k a n W
 have H0 := hide (RwS.start w k a n t l b r 36 62 62)
 cases h : editB k a n
 ·
  rw [rectR_no (Or.inl h)]
  rw [h] at HR
  clear h
  go_enter Tryz.func97, Tryz.ntmps97
  go_wp2_with ((go_at_call 66; refine (HR.out _).mono ?_; rintro e w1 ⟨rfl, hb⟩; have hs := H0.out.below hb; have ⟨⟨z1, k0, k1, k2⟩, ⟨⟨z2, j0, j1, j2, j3⟩, h0, h1, h2, h3⟩, ⟨⟨z3, i0, i1, i2, i3⟩, g0, g1, g2, g3⟩, hbz⟩ := hs; have HS1 := hide hs; clear hs hb))
  refine bodyPost_ret (v := .tuple #[.agg #[.int .i64 0, .int .i64 0, .int .i64 0, .int .i64 0], .bool false, .int .i64 2]) (by simp [results, Tryz.results97, go_sem, *]) rfl ⟨rfl, ?_⟩
  exact bl
 ·
  rw [h] at HR
  cases hp : rightB t l b r
  ·
   rw [rectR_no (Or.inr hp)]
   rw [hp] at HP
   clear h hp
   go_enter Tryz.func97, Tryz.ntmps97
   go_wp2_with (first | (go_at_call 66; refine (HR.out _).mono ?_; rintro e w1 ⟨rfl, hb⟩; have hs := H0.out.below hb; have ⟨⟨z1, k0, k1, k2⟩, ⟨⟨z2, j0, j1, j2, j3⟩, h0, h1, h2, h3⟩, ⟨⟨z3, i0, i1, i2, i3⟩, g0, g1, g2, g3⟩, hbz⟩ := hs; have HS1 := hide hs; clear hs hb) | (go_at_call 119; refine (HP.out _).mono ?_; rintro e w2 ⟨rfl, hb⟩; have hs := HS1.out.below hb; clear z1 k0 k1 k2 z2 j0 j1 j2 j3 h0 h1 h2 h3 z3 i0 i1 i2 i3 g0 g1 g2 g3 hbz; have ⟨⟨z1, k0, k1, k2⟩, ⟨⟨z2, j0, j1, j2, j3⟩, h0, h1, h2, h3⟩, ⟨⟨z3, i0, i1, i2, i3⟩, g0, g1, g2, g3⟩, hbz⟩ := hs; have HS2 := hide hs; clear hs hb))
   refine bodyPost_ret (v := .tuple #[.agg #[.int .i64 0, .int .i64 0, .int .i64 0, .int .i64 0], .bool false, .int .i64 2]) (by simp [results, Tryz.results97, go_sem, *]) rfl ⟨rfl, ?_⟩
   exact bl
  ·
   rw [hp] at HP
   have p := rightB_iff.1 hp
   cases hr : rowsB k
   ·
    rw [rectR_col h hp hr]
    rw [hr] at HO
    have ht := top_cols hr
    have HE : Hid (∀ W : World, Calls Tryz.prog 120 #[.agg #[.int .i64 k, .int .i64 a, .int .i64 n], .int .i64 l, .int .i64 r] W fun e w' => e = .returned (.tuple #[.int .i64 (linesR k a n l r).1, .int .i64 (linesR k a n l r).2.1, .bool (linesR k a n l r).2.2]) ∧ Below W.heap.size W w') := fun W => rends_any h (by omega) (by omega) (by omega) W
    by_cases hq : leftF k a n l ≤ leftL k a n r
    ·
     rw [linesR_yes hq] at *
     generalize carryR k a n (leftF k a n l) = X at *
     generalize carryR k a n (leftL k a n r) = Y at *
     clear h hp hr ht hq p
     go_enter Tryz.func97, Tryz.ntmps97
     go_wp2_with (first | (go_at_call 66; refine (HR.out _).mono ?_; rintro e w1 ⟨rfl, hb⟩; have hs := H0.out.below hb; have ⟨⟨z1, k0, k1, k2⟩, ⟨⟨z2, j0, j1, j2, j3⟩, h0, h1, h2, h3⟩, ⟨⟨z3, i0, i1, i2, i3⟩, g0, g1, g2, g3⟩, hbz⟩ := hs; have HS1 := hide hs; clear hs hb) | (go_at_call 119; refine (HP.out _).mono ?_; rintro e w2 ⟨rfl, hb⟩; have hs := HS1.out.below hb; clear z1 k0 k1 k2 z2 j0 j1 j2 j3 h0 h1 h2 h3 z3 i0 i1 i2 i3 g0 g1 g2 g3 hbz; have ⟨⟨z1, k0, k1, k2⟩, ⟨⟨z2, j0, j1, j2, j3⟩, h0, h1, h2, h3⟩, ⟨⟨z3, i0, i1, i2, i3⟩, g0, g1, g2, g3⟩, hbz⟩ := hs; have HS2 := hide hs; clear hs hb) | (go_at_call 117; refine (HO.out _).mono ?_; rintro e w3 ⟨rfl, hb⟩; have hs := HS2.out.below hb; clear z1 k0 k1 k2 z2 j0 j1 j2 j3 h0 h1 h2 h3 z3 i0 i1 i2 i3 g0 g1 g2 g3 hbz; have ⟨⟨z1, k0, k1, k2⟩, ⟨⟨z2, j0, j1, j2, j3⟩, h0, h1, h2, h3⟩, ⟨⟨z3, i0, i1, i2, i3⟩, g0, g1, g2, g3⟩, hbz⟩ := hs; have HS3 := hide hs; clear hs hb) | (go_at_call 120; refine (HE.out _).mono ?_; rintro e w4 ⟨rfl, hb⟩; have hs := HS3.out.below hb; clear z1 k0 k1 k2 z2 j0 j1 j2 j3 h0 h1 h2 h3 z3 i0 i1 i2 i3 g0 g1 g2 g3 hbz; have ⟨⟨z1, k0, k1, k2⟩, ⟨⟨z2, j0, j1, j2, j3⟩, h0, h1, h2, h3⟩, ⟨⟨z3, i0, i1, i2, i3⟩, g0, g1, g2, g3⟩, hbz⟩ := hs; have HS4 := hide hs; clear hs hb))
     refine bodyPost_ret (v := .tuple #[.agg #[.int .i64 t, .int .i64 X, .int .i64 b, .int .i64 Y], .bool true, .int .i64 0]) (by simp [results, Tryz.results97, go_sem, *]) rfl ⟨rfl, ?_⟩
     exact bl
    ·
     rw [linesR_no hq] at *
     clear h hp hr ht hq p
     go_enter Tryz.func97, Tryz.ntmps97
     go_wp2_with (first | (go_at_call 66; refine (HR.out _).mono ?_; rintro e w1 ⟨rfl, hb⟩; have hs := H0.out.below hb; have ⟨⟨z1, k0, k1, k2⟩, ⟨⟨z2, j0, j1, j2, j3⟩, h0, h1, h2, h3⟩, ⟨⟨z3, i0, i1, i2, i3⟩, g0, g1, g2, g3⟩, hbz⟩ := hs; have HS1 := hide hs; clear hs hb) | (go_at_call 119; refine (HP.out _).mono ?_; rintro e w2 ⟨rfl, hb⟩; have hs := HS1.out.below hb; clear z1 k0 k1 k2 z2 j0 j1 j2 j3 h0 h1 h2 h3 z3 i0 i1 i2 i3 g0 g1 g2 g3 hbz; have ⟨⟨z1, k0, k1, k2⟩, ⟨⟨z2, j0, j1, j2, j3⟩, h0, h1, h2, h3⟩, ⟨⟨z3, i0, i1, i2, i3⟩, g0, g1, g2, g3⟩, hbz⟩ := hs; have HS2 := hide hs; clear hs hb) | (go_at_call 117; refine (HO.out _).mono ?_; rintro e w3 ⟨rfl, hb⟩; have hs := HS2.out.below hb; clear z1 k0 k1 k2 z2 j0 j1 j2 j3 h0 h1 h2 h3 z3 i0 i1 i2 i3 g0 g1 g2 g3 hbz; have ⟨⟨z1, k0, k1, k2⟩, ⟨⟨z2, j0, j1, j2, j3⟩, h0, h1, h2, h3⟩, ⟨⟨z3, i0, i1, i2, i3⟩, g0, g1, g2, g3⟩, hbz⟩ := hs; have HS3 := hide hs; clear hs hb) | (go_at_call 120; refine (HE.out _).mono ?_; rintro e w4 ⟨rfl, hb⟩; have hs := HS3.out.below hb; clear z1 k0 k1 k2 z2 j0 j1 j2 j3 h0 h1 h2 h3 z3 i0 i1 i2 i3 g0 g1 g2 g3 hbz; have ⟨⟨z1, k0, k1, k2⟩, ⟨⟨z2, j0, j1, j2, j3⟩, h0, h1, h2, h3⟩, ⟨⟨z3, i0, i1, i2, i3⟩, g0, g1, g2, g3⟩, hbz⟩ := hs; have HS4 := hide hs; clear hs hb))
     refine bodyPost_ret (v := .tuple #[.agg #[.int .i64 0, .int .i64 0, .int .i64 0, .int .i64 0], .bool false, .int .i64 0]) (by simp [results, Tryz.results97, go_sem, *]) rfl ⟨rfl, ?_⟩
     exact bl
   ·
    rw [rectR_row h hp hr]
    rw [hr] at HO
    have ht := top_rows hr
    have HE : Hid (∀ W : World, Calls Tryz.prog 120 #[.agg #[.int .i64 k, .int .i64 a, .int .i64 n], .int .i64 t, .int .i64 b] W fun e w' => e = .returned (.tuple #[.int .i64 (linesR k a n t b).1, .int .i64 (linesR k a n t b).2.1, .bool (linesR k a n t b).2.2]) ∧ Below W.heap.size W w') := fun W => rends_any h (by omega) (by omega) (by omega) W
    by_cases hq : leftF k a n t ≤ leftL k a n b
    ·
     rw [linesR_yes hq] at *
     generalize carryR k a n (leftF k a n t) = X at *
     generalize carryR k a n (leftL k a n b) = Y at *
     clear h hp hr ht hq p
     go_enter Tryz.func97, Tryz.ntmps97
     go_wp2_with (first | (go_at_call 66; refine (HR.out _).mono ?_; rintro e w1 ⟨rfl, hb⟩; have hs := H0.out.below hb; have ⟨⟨z1, k0, k1, k2⟩, ⟨⟨z2, j0, j1, j2, j3⟩, h0, h1, h2, h3⟩, ⟨⟨z3, i0, i1, i2, i3⟩, g0, g1, g2, g3⟩, hbz⟩ := hs; have HS1 := hide hs; clear hs hb) | (go_at_call 119; refine (HP.out _).mono ?_; rintro e w2 ⟨rfl, hb⟩; have hs := HS1.out.below hb; clear z1 k0 k1 k2 z2 j0 j1 j2 j3 h0 h1 h2 h3 z3 i0 i1 i2 i3 g0 g1 g2 g3 hbz; have ⟨⟨z1, k0, k1, k2⟩, ⟨⟨z2, j0, j1, j2, j3⟩, h0, h1, h2, h3⟩, ⟨⟨z3, i0, i1, i2, i3⟩, g0, g1, g2, g3⟩, hbz⟩ := hs; have HS2 := hide hs; clear hs hb) | (go_at_call 117; refine (HO.out _).mono ?_; rintro e w3 ⟨rfl, hb⟩; have hs := HS2.out.below hb; clear z1 k0 k1 k2 z2 j0 j1 j2 j3 h0 h1 h2 h3 z3 i0 i1 i2 i3 g0 g1 g2 g3 hbz; have ⟨⟨z1, k0, k1, k2⟩, ⟨⟨z2, j0, j1, j2, j3⟩, h0, h1, h2, h3⟩, ⟨⟨z3, i0, i1, i2, i3⟩, g0, g1, g2, g3⟩, hbz⟩ := hs; have HS3 := hide hs; clear hs hb) | (go_at_call 120; refine (HE.out _).mono ?_; rintro e w4 ⟨rfl, hb⟩; have hs := HS3.out.below hb; clear z1 k0 k1 k2 z2 j0 j1 j2 j3 h0 h1 h2 h3 z3 i0 i1 i2 i3 g0 g1 g2 g3 hbz; have ⟨⟨z1, k0, k1, k2⟩, ⟨⟨z2, j0, j1, j2, j3⟩, h0, h1, h2, h3⟩, ⟨⟨z3, i0, i1, i2, i3⟩, g0, g1, g2, g3⟩, hbz⟩ := hs; have HS4 := hide hs; clear hs hb))
     refine bodyPost_ret (v := .tuple #[.agg #[.int .i64 X, .int .i64 l, .int .i64 Y, .int .i64 r], .bool true, .int .i64 0]) (by simp [results, Tryz.results97, go_sem, *]) rfl ⟨rfl, ?_⟩
     exact bl
    ·
     rw [linesR_no hq] at *
     clear h hp hr ht hq p
     go_enter Tryz.func97, Tryz.ntmps97
     go_wp2_with (first | (go_at_call 66; refine (HR.out _).mono ?_; rintro e w1 ⟨rfl, hb⟩; have hs := H0.out.below hb; have ⟨⟨z1, k0, k1, k2⟩, ⟨⟨z2, j0, j1, j2, j3⟩, h0, h1, h2, h3⟩, ⟨⟨z3, i0, i1, i2, i3⟩, g0, g1, g2, g3⟩, hbz⟩ := hs; have HS1 := hide hs; clear hs hb) | (go_at_call 119; refine (HP.out _).mono ?_; rintro e w2 ⟨rfl, hb⟩; have hs := HS1.out.below hb; clear z1 k0 k1 k2 z2 j0 j1 j2 j3 h0 h1 h2 h3 z3 i0 i1 i2 i3 g0 g1 g2 g3 hbz; have ⟨⟨z1, k0, k1, k2⟩, ⟨⟨z2, j0, j1, j2, j3⟩, h0, h1, h2, h3⟩, ⟨⟨z3, i0, i1, i2, i3⟩, g0, g1, g2, g3⟩, hbz⟩ := hs; have HS2 := hide hs; clear hs hb) | (go_at_call 117; refine (HO.out _).mono ?_; rintro e w3 ⟨rfl, hb⟩; have hs := HS2.out.below hb; clear z1 k0 k1 k2 z2 j0 j1 j2 j3 h0 h1 h2 h3 z3 i0 i1 i2 i3 g0 g1 g2 g3 hbz; have ⟨⟨z1, k0, k1, k2⟩, ⟨⟨z2, j0, j1, j2, j3⟩, h0, h1, h2, h3⟩, ⟨⟨z3, i0, i1, i2, i3⟩, g0, g1, g2, g3⟩, hbz⟩ := hs; have HS3 := hide hs; clear hs hb) | (go_at_call 120; refine (HE.out _).mono ?_; rintro e w4 ⟨rfl, hb⟩; have hs := HS3.out.below hb; clear z1 k0 k1 k2 z2 j0 j1 j2 j3 h0 h1 h2 h3 z3 i0 i1 i2 i3 g0 g1 g2 g3 hbz; have ⟨⟨z1, k0, k1, k2⟩, ⟨⟨z2, j0, j1, j2, j3⟩, h0, h1, h2, h3⟩, ⟨⟨z3, i0, i1, i2, i3⟩, g0, g1, g2, g3⟩, hbz⟩ := hs; have HS4 := hide hs; clear hs hb))
     refine bodyPost_ret (v := .tuple #[.agg #[.int .i64 0, .int .i64 0, .int .i64 0, .int .i64 0], .bool false, .int .i64 0]) (by simp [results, Tryz.results97, go_sem, *]) rfl ⟨rfl, ?_⟩
     exact bl
end
end Go.Proofs.YtfpmmckpobpokaaGreat.Pla
