/-
  The contract of codes' take at a piece of a number: its place is kept, or it is none.
-/
import Derived.Test.YtnhaapcpklfkpaaGreatDoorCd7
namespace Go.Proofs.YtnhaapcpklfkpaaGreatDoor
open Go.RowKit
set_option linter.unusedSimpArgs false

set_option maxRecDepth 100000 in
set_option maxHeartbeats 4000000 in
theorem take_wrong (g off : Nat) (pt : List UInt8) (w : World) (hp : placeB pt = false) (ht : pt.length ≤ 1000) (hc : CellOk w) :
    Calls Tryz.prog 46 #[.pointer (some ⟨g, off, none⟩), .agg #[.int .i64 1, .string ⟨pt.toArray⟩]] w fun e w' => e = .panicked RF ∧ Below w.heap.size w w' := by
  have HP : Hid (∀ W : World, Below w.heap.size w W → Calls Tryz.prog 76 #[.string ⟨pt.toArray⟩] W fun e w' => e = .panicked RF ∧ Below W.heap.size W w') := fun W hW => by
    have := placeOf_any pt W ht (cellOk_below hc hW)
    rw [hp] at this
    exact this
  clear hp hc
  go_enter Tryz.func46, Tryz.ntmps46
  go_wp2_with (go_at_call 76; refine (HP.out _ ((Below.refl _ w).alloc (Nat.le_refl _) _)).mono ?_; rintro e w1 ⟨rfl, hb1⟩)
  exact ⟨rfl, rfl, ((Below.refl _ w).alloc (Nat.le_refl _) _).trans (hb1.mono (by simp))⟩
set_option maxRecDepth 100000 in
set_option maxHeartbeats 4000000 in
theorem take_number (g off base : Nat) (u : Value) (ps : List Pc) (pt : List UInt8) (w : World) (C : Array Value) (hC : w.heap[g]? = some (.cells C 66 (0, 0))) (h : SecAt w g off u ps) (hr : w.ownsRow base 93 2 u ps.length (ps.flatMap pcC)) (hug : u.ownBlock ≠ some g)
    (hp : placeB pt = true) (ht : pt.length ≤ 1000) (hc : CellOk w) (hn : ∀ k, cntK ps k ≤ 1000) (hl : ps.length ≤ 1000) (hbs : base ≤ w.heap.size) :
    Calls Tryz.prog 46 #[.pointer (some ⟨g, off, none⟩), .agg #[.int .i64 1, .string ⟨pt.toArray⟩]] w fun e w' => e = .returned (.tuple #[]) ∧ ∃ u', Taken w w' g off base u ps ⟨1, pt⟩ u' := by
  have hg := h.1
  have HP : Hid (∀ W : World, Below w.heap.size w W → Calls Tryz.prog 76 #[.string ⟨pt.toArray⟩] W fun e w' => e = .returned (plcV (placeR pt)) ∧ Below W.heap.size W w') := fun W hW => by
    have := placeOf_any pt W ht (cellOk_below hc hW)
    rw [hp] at this
    exact this
  obtain ⟨q1, q2, q3, rfl⟩ : ∃ q1 q2 q3, u = .slice q1 q2 q3 := by
    rcases hr.2 with ⟨e, _⟩ | ⟨b, c, _, e, _⟩
    · exact ⟨_, _, _, e⟩
    · exact ⟨_, _, _, e⟩
  have b0 := hn 1
  have hR0 : Rw w w g off (secC (.slice q1 q2 q3) ps) := Rw.first hg h.2
  have HR0 := hide hR0
  have HCC := hide hC
  simp only [plcV] at HP
  clear hp hc hR0
  have HA : Hid (∀ w1, Below (w.alloc (.cells #[.int .i64 1, .string ⟨pt.toArray⟩] 93)).heap.size (w.alloc (.cells #[.int .i64 1, .string ⟨pt.toArray⟩] 93)) w1 → Rw w w1 g off (secC (.slice q1 q2 q3) ps) ∧ w1.heap[w.heap.size]? = some (.cells #[.int .i64 1, .string ⟨pt.toArray⟩] 93) ∧
      w1.cell? ⟨w.heap.size, 0, none⟩ = some (.int .i64 1) ∧ w1.cell? ⟨w.heap.size, 1, none⟩ = some (.string ⟨pt.toArray⟩) ∧ w1.cell? ⟨g, off + 1 + 1, none⟩ = some (.int .i64 (cntK ps 1)) ∧
      w1.cell? ⟨g, off + 7, none⟩ = some (.bool (plcOf ps).comma) ∧ w1.cell? ⟨g, off + 7 + 1, none⟩ = some (.bool (plcOf ps).point) ∧ w1.cell? ⟨g, off + 7 + 2, none⟩ = some (.int .i64 (plcOf ps).noughts) ∧ w1.cell? ⟨g, off + 7 + 3, none⟩ = some (.int .i64 (plcOf ps).fixed) ∧ w1.cell? ⟨g, off + 7 + 4, none⟩ = some (.int .i64 (plcOf ps).free) ∧
      ∀ o, w1.frozen? ⟨g, o, none⟩ = false) := fun w1 hb => by
    have hR1 := (HR0.out.below ((Below.refl _ w).alloc (Nat.le_refl _) _)).below hb
    have hx := (hb.block w.heap.size (by simp)).trans (World.alloc_heap_new w _)
    refine ⟨hR1, hx, by simp [World.cell?, hx], by simp [World.cell?, hx], hR1.cells 2 (by rw [secC_len]; omega), hR1.cells 7 (by rw [secC_len]; omega), hR1.cells 8 (by rw [secC_len]; omega), hR1.cells 9 (by rw [secC_len]; omega), hR1.cells 10 (by rw [secC_len]; omega), hR1.cells 11 (by rw [secC_len]; omega), frozen_sh hR1.shape HCC.out⟩
  go_enter Tryz.func46, Tryz.ntmps46
  go_wp2_with (go_at_call 76; refine (HP.out _ ((Below.refl _ w).alloc (Nat.le_refl _) _)).mono ?_; rintro e w1 ⟨rfl, hb1⟩; obtain ⟨hR1, hx1, p0, p1, n1, n7, n8, n9, n10, n11, hf⟩ := HA.out w1 hb1; have HR1 := hide hR1; have HX1 := hide hx1; clear hx1 hR1 hb1)
  have HR2 : Hid (Rw w (((((w1.setCell ⟨g, off + 7, none⟩ (.bool (placeR pt).comma)).setCell ⟨g, off + 7 + 1, none⟩ (.bool (placeR pt).point)).setCell ⟨g, off + 7 + 2, none⟩ (.int .i64 (placeR pt).noughts)).setCell ⟨g, off + 7 + 3, none⟩ (.int .i64 (placeR pt).fixed)).setCell ⟨g, off + 7 + 4, none⟩ (.int .i64 (placeR pt).free)) g off (((((((secC (.slice q1 q2 q3) ps).set 7 (.bool (placeR pt).comma)).set 8 (.bool (placeR pt).point)).set 9 (.int .i64 (placeR pt).noughts)).set 10 (.int .i64 (placeR pt).fixed)).set 11 (.int .i64 (placeR pt).free)))) :=
    ((((HR1.out.set 7 (.bool (placeR pt).comma) (by simp [secC_len])).set 8 (.bool (placeR pt).point) (by simp [secC_len])).set 9 (.int .i64 (placeR pt).noughts) (by simp [secC_len])).set 10 (.int .i64 (placeR pt).fixed) (by simp [secC_len])).set 11 (.int .i64 (placeR pt).free) (by simp [secC_len])
  have hgx : g ≠ w.heap.size := Nat.ne_of_lt hg
  have hX2 : (((((w1.setCell ⟨g, off + 7, none⟩ (.bool (placeR pt).comma)).setCell ⟨g, off + 7 + 1, none⟩ (.bool (placeR pt).point)).setCell ⟨g, off + 7 + 2, none⟩ (.int .i64 (placeR pt).noughts)).setCell ⟨g, off + 7 + 3, none⟩ (.int .i64 (placeR pt).fixed)).setCell ⟨g, off + 7 + 4, none⟩ (.int .i64 (placeR pt).free)).heap[w.heap.size]? = some (.cells #[.int .i64 1, .string ⟨pt.toArray⟩] 93) := by
    have hb := (Array.getElem?_eq_some_iff.1 HX1.out).1
    have e : ∀ (W : World) (o : Nat) (v : Value), W.heap[w.heap.size]? = some (.cells #[.int .i64 1, .string ⟨pt.toArray⟩] 93) → (W.setCell ⟨g, o, none⟩ v).heap[w.heap.size]? = some (.cells #[.int .i64 1, .string ⟨pt.toArray⟩] 93) := fun W o v h =>
      ((grown_cells g [v] o W W (grown_refl W g)).block w.heap.size (Array.getElem?_eq_some_iff.1 h).1 (fun q => hgx (by injection q with q; exact q.symm))).trans h
    exact e _ _ _ (e _ _ _ (e _ _ _ (e _ _ _ (e _ _ _ HX1.out))))
  have HX2 := hide hX2
  clear n1 n7 n8 n9 n10 n11 hf p0 p1 HR1 HX1 hX2 HR0 h
  generalize (((((w1.setCell ⟨g, off + 7, none⟩ (.bool (placeR pt).comma)).setCell ⟨g, off + 7 + 1, none⟩ (.bool (placeR pt).point)).setCell ⟨g, off + 7 + 2, none⟩ (.int .i64 (placeR pt).noughts)).setCell ⟨g, off + 7 + 3, none⟩ (.int .i64 (placeR pt).fixed)).setCell ⟨g, off + 7 + 4, none⟩ (.int .i64 (placeR pt).free)) = W2 at *
  have p0 : W2.cell? ⟨w.heap.size, 0, none⟩ = some (.int .i64 1) := by simp [World.cell?, HX2.out]
  have n1 : W2.cell? ⟨g, off + 1 + 1, none⟩ = some (.int .i64 (cntK ps 1)) := HR2.out.cells 2 (by simp [secC_len])
  have hf := frozen_sh HR2.out.shape HCC.out
  go_region
  all_goals
    have HR : Hid (Rw w (W2.setCell ⟨g, off + 1 + 1, none⟩ (.int .i64 ((cntK ps 1 : Int) + 1))).drew g off (secC (.slice q1 q2 q3) (ps ++ [⟨1, pt⟩]))) := by
      have h1 := HR2.out.set 2 (.int .i64 ((cntK ps 1 : Int) + 1)) (by simp [secC_len])
      rw [sec_number (p := ⟨1, pt⟩) rfl] at h1
      exact h1.below (below_drewC _)
    have hx0 : ((W2.setCell ⟨g, off + 1 + 1, none⟩ (.int .i64 ((cntK ps 1 : Int) + 1))).drew).heap[w.heap.size]? = some (.cells #[.int .i64 1, .string ⟨pt.toArray⟩] 93) :=
      ((grown_cells g [.int .i64 ((cntK ps 1 : Int) + 1)] (off + 1 + 1) W2 W2 (grown_refl W2 g)).block w.heap.size (Array.getElem?_eq_some_iff.1 HX2.out).1 (fun q => hgx (by injection q with q; exact q.symm))).trans HX2.out
    clear n1 b0 p0 HR2 HX2
    generalize (W2.setCell ⟨g, off + 1 + 1, none⟩ (.int .i64 ((cntK ps 1 : Int) + 1))).drew = W at *
    go_wp2
    have hgW : g < W.heap.size := Nat.lt_of_lt_of_le hg HR.out.grown.size
    have hxs : w.heap.size < W.heap.size := (Array.getElem?_eq_some_iff.1 hx0).1
    have cD : W.drew.cell? ⟨g, off, none⟩ = some (.slice q1 q2 q3) := HR.out.cells 0 (by rw [secC_len]; omega)
    have hrW : W.ownsRow base 93 2 (.slice q1 q2 q3) ps.length (ps.flatMap pcC) := hr.kept HR.out.grown (.inr hug)
    have HO := hide ((hrW.alloc (.cells #[.int .i64 1, .string ⟨pt.toArray⟩] 93)).drew)
    have huw : ∀ k, (Value.slice q1 q2 q3).ownBlock = some k → k < w.heap.size := fun k e => (hr.lt k e).2
    have hS0 : W.drew.cell? ⟨w.heap.size, 0, none⟩ = some (.int .i64 1) ∧ W.drew.cell? ⟨w.heap.size, 1, none⟩ = some (.string ⟨pt.toArray⟩) := by
      have e0 : W.cell? ⟨w.heap.size, 0, none⟩ = some (.int .i64 1) := by simp [World.cell?, hx0]
      have e1 : W.cell? ⟨w.heap.size, 1, none⟩ = some (.string ⟨pt.toArray⟩) := by simp [World.cell?, hx0]
      exact ⟨e0, e1⟩
    have hSA : ∀ W', Below W.heap.size W W' → W'.cell? ⟨w.heap.size, 0, none⟩ = some (.int .i64 1) ∧ W'.cell? ⟨w.heap.size, 1, none⟩ = some (.string ⟨pt.toArray⟩) := by
      intro W' hW'
      have := (hW'.block w.heap.size hxs).trans hx0
      constructor <;> simp [World.cell?, this]
    have hA0 : Below W.heap.size W (W.alloc (.cells #[.int .i64 1, .string ⟨pt.toArray⟩] 93)).drew := ((Below.refl _ W).alloc (Nat.le_refl _) _).drew
    have cA : (W.alloc (.cells #[.int .i64 1, .string ⟨pt.toArray⟩] 93)).drew.cell? ⟨g, off, none⟩ = some (.slice q1 q2 q3) := (hA0.cell (p := ⟨g, off, none⟩) hgW).trans cD
    have HA0 := hide hA0
    have HSA := hide hSA
    have HR2 := hide (HR.out.below hA0)
    have HHR := hide hr
    have HUG := hide hug
    have HUW := hide huw
    have HHC := hide hC
    obtain ⟨i0, hinf, hz0, hz1, hz2⟩ := info_partsC info_piece
    clear hx0 HR hr hrW hug hC huw hSA hA0
    refine wp_region_held_drew (S := fun W' => W'.cell? ⟨w.heap.size, 0, none⟩ = some (.int .i64 1) ∧ W'.cell? ⟨w.heap.size, 1, none⟩ = some (.string ⟨pt.toArray⟩)) (by kernel_rfl) hS0 (fun hHeld => ?_)
    (refine takeD (i := 0) (some 24) rfl rfl (by kernel_rfl) (by kernel_rfl) (by kernel_rfl) (fun _ _ _ h => h) (v := ?_) rfl ?_ (by assumption) ?_; rotate_left; (focus (intro w hSw; (try dsimp only at hSw); first | (go_simp; done) | (go_simp; with_reducible rfl))); try simp only [Act.put, List.setIfInBounds_toArray, List.set_cons_zero, List.set_cons_succ]); (refine takeD (i := 1) (some 25) rfl rfl (by kernel_rfl) (by kernel_rfl) (by kernel_rfl) (fun _ _ _ h => h) (v := ?_) rfl ?_ (by assumption) ?_; rotate_left; (focus (intro w hSw; (try dsimp only at hSw); first | (go_simp; done) | (go_simp; with_reducible rfl))); try simp only [Act.put, List.setIfInBounds_toArray, List.set_cons_zero, List.set_cons_succ]); (refine takeD (i := 2) (some 26) rfl rfl (by kernel_rfl) (by kernel_rfl) (by kernel_rfl) (fun _ _ _ h => h) (v := ?_) rfl ?_ (by assumption) ?_; rotate_left; (focus (intro w hSw; (try dsimp only at hSw); first | (go_simp; done) | (go_simp; with_reducible rfl))); try simp only [Act.put, List.setIfInBounds_toArray, List.set_cons_zero, List.set_cons_succ]); (refine takeD (i := 3) (some 27) rfl rfl (by kernel_rfl) (by kernel_rfl) (by kernel_rfl) (fun _ _ _ h => h) (v := ?_) rfl ?_ (by assumption) ?_; rotate_left; (focus (intro w hSw; (try dsimp only at hSw); first | (go_simp; done) | (go_simp; with_reducible rfl))); try simp only [Act.put, List.setIfInBounds_toArray, List.set_cons_zero, List.set_cons_succ])
    (refine takeD (i := 5) (some 29) rfl rfl (by kernel_rfl) (by kernel_rfl) (by kernel_rfl) (fun _ _ _ h => h) (v := ?_) rfl ?_ (by assumption) ?_; rotate_left; (focus (intro w hSw; (try dsimp only at hSw); obtain ⟨hS1, hS2⟩ := hSw; first | (go_simp; done) | (go_simp; with_reducible rfl))); try simp only [Act.put, List.setIfInBounds_toArray, List.set_cons_zero, List.set_cons_succ])
    refine wpAnyH_ready (rs := [4, 6]) (by kernel_rfl) (by simp) ?_
    refine readyC (o := _) rfl rfl (fun K hK => ?_) (readyC (o := _) rfl rfl (fun K hK => ?_) AllReadyH.nil)
    · refine wp_runC (v := .slice q1 q2 q3) (w' := W.drew) (by go_simp) ?_
      refine hK.out _ _ hS0 (fun hHeld => ?_)
      clear hK K
      try simp only [Act.put, List.setIfInBounds_toArray, List.set_cons_zero, List.set_cons_succ]
      refine wpAnyH_ready (rs := [6]) (by kernel_rfl) (by simp) ?_
      refine readyC (o := _) rfl rfl (fun K hK => ?_) AllReadyH.nil
      go_simp
      refine hK.out _ _ (HSA.out _ HA0.out) (fun hHeld => ?_)
      clear hK K
      try simp only [Act.put, List.setIfInBounds_toArray, List.set_cons_zero, List.set_cons_succ]
      refine wpAnyH_ready (rs := [7]) (by kernel_rfl) (by simp) ?_
      refine readyC (o := _) rfl rfl (fun K hK => ?_) AllReadyH.nil
      obtain ⟨v', w4, hr4, hown4, hgr4, _, hwh4⟩ := run_append_own_at (P := Tryz.prog) _ base 61 61 93 i0 (.agg #[.int .i64 0, .string ⟨#[]⟩]) 2 24 Tryz.underlying61 hinf hz0 hz1 hz2 rfl (by decide) _ _ _ HO.out ⟨W.heap.size, 0, none⟩ 1 1 [.int .i64 1, .string ⟨pt.toArray⟩] rfl
        (fun j u hu => cells_newC W #[.int .i64 1, .string ⟨pt.toArray⟩] 93 j u (by simpa using hu))
        (by simp [Value.oneCell']) (by unfold maxLen; omega) (by omega) (by simp; omega)
      refine wp_append_own _ _ _ rfl rfl rfl ⟨v', w4, hr4, ?_⟩
      obtain ⟨c4, f4⟩ := taken_pre HR2.out HHC.out HUG.out hgr4
      have hS4 : w4.cell? ⟨w.heap.size, 0, none⟩ = some (.int .i64 1) ∧ w4.cell? ⟨w.heap.size, 1, none⟩ = some (.string ⟨pt.toArray⟩) := by
        have e := hgr4.block w.heap.size (Nat.lt_of_lt_of_le hxs HA0.out.size) (fun q => Nat.lt_irrefl _ (HUW.out _ q.symm))
        have hq := HSA.out _ HA0.out
        exact ⟨(World.cell?_of_block (a := ⟨w.heap.size, 0, none⟩) e).trans hq.1, (World.cell?_of_block (a := ⟨w.heap.size, 1, none⟩) e).trans hq.2⟩
      have HT := hide (taken_of HR2.out HUG.out hgr4 hown4 hwh4)
      obtain ⟨r1, r2, r3, rfl⟩ : ∃ r1 r2 r3, v' = .slice r1 r2 r3 := by
        rcases hown4.2 with ⟨e, _⟩ | ⟨b, c, _, e, _⟩
        · exact ⟨_, _, _, e⟩
        · exact ⟨_, _, _, e⟩
      refine hK.out _ _ hS4 (fun hHeld => ?_)
      clear hK K hown4 hgr4 hwh4 hr4
      try simp only [Act.put, List.setIfInBounds_toArray, List.set_cons_zero, List.set_cons_succ]
      (refine takeD (i := 8) (some 32) rfl rfl (by kernel_rfl) (by kernel_rfl) (by kernel_rfl) (fun _ _ _ h => h) (v := ?_) rfl ?_ (by assumption) ?_; rotate_left; (focus (intro w hSw; (try dsimp only at hSw); first | (go_simp; done) | (go_simp; with_reducible rfl))); try simp only [Act.put, List.setIfInBounds_toArray, List.set_cons_zero, List.set_cons_succ]); (refine takeD (i := 9) (some 33) rfl rfl (by kernel_rfl) (by kernel_rfl) (by kernel_rfl) (fun _ _ _ h => h) (v := ?_) rfl ?_ (by assumption) ?_; rotate_left; (focus (intro w hSw; (try dsimp only at hSw); first | (go_simp; done) | (go_simp; with_reducible rfl))); try simp only [Act.put, List.setIfInBounds_toArray, List.set_cons_zero, List.set_cons_succ])
      refine wpAnyH_ready (rs := [10]) (by kernel_rfl) (by simp) ?_
      refine readyC (o := _) rfl rfl (fun K hK => ?_) AllReadyH.nil
      go_simp
      have hgx : g ≠ w.heap.size := Nat.ne_of_lt hg
      have hS5 : (w4.setCell ⟨g, off, none⟩ (.slice r1 r2 r3)).cell? ⟨w.heap.size, 0, none⟩ = some (.int .i64 1) ∧ (w4.setCell ⟨g, off, none⟩ (.slice r1 r2 r3)).cell? ⟨w.heap.size, 1, none⟩ = some (.string ⟨pt.toArray⟩) :=
        ⟨(World.cell?_setCell_far _ _ _ _ hgx).trans hS4.1, (World.cell?_setCell_far _ _ _ _ hgx).trans hS4.2⟩
      refine hK.out _ _ hS5 (fun hHeld => ?_)
      clear hK K
      refine wpAnyH_done (by kernel_rfl) ?_ _
      go_end0
      exact ⟨rfl, _, HT.out⟩
    · go_simp
      refine hK.out _ _ (HSA.out _ HA0.out) (fun hHeld => ?_)
      clear hK K
      try simp only [Act.put, List.setIfInBounds_toArray, List.set_cons_zero, List.set_cons_succ]
      refine wpAnyH_ready (rs := [4]) (by kernel_rfl) (by simp) ?_
      refine readyC (o := _) rfl rfl (fun K hK => ?_) AllReadyH.nil
      refine wp_runC (v := .slice q1 q2 q3) (w' := (W.alloc (.cells #[.int .i64 1, .string ⟨pt.toArray⟩] 93)).drew) (by go_simp) ?_
      refine hK.out _ _ (HSA.out _ HA0.out) (fun hHeld => ?_)
      clear hK K
      try simp only [Act.put, List.setIfInBounds_toArray, List.set_cons_zero, List.set_cons_succ]
      refine wpAnyH_ready (rs := [7]) (by kernel_rfl) (by simp) ?_
      refine readyC (o := _) rfl rfl (fun K hK => ?_) AllReadyH.nil
      obtain ⟨v', w4, hr4, hown4, hgr4, _, hwh4⟩ := run_append_own_at (P := Tryz.prog) _ base 61 61 93 i0 (.agg #[.int .i64 0, .string ⟨#[]⟩]) 2 24 Tryz.underlying61 hinf hz0 hz1 hz2 rfl (by decide) _ _ _ HO.out ⟨W.heap.size, 0, none⟩ 1 1 [.int .i64 1, .string ⟨pt.toArray⟩] rfl
        (fun j u hu => cells_newC W #[.int .i64 1, .string ⟨pt.toArray⟩] 93 j u (by simpa using hu))
        (by simp [Value.oneCell']) (by unfold maxLen; omega) (by omega) (by simp; omega)
      refine wp_append_own _ _ _ rfl rfl rfl ⟨v', w4, hr4, ?_⟩
      obtain ⟨c4, f4⟩ := taken_pre HR2.out HHC.out HUG.out hgr4
      have hS4 : w4.cell? ⟨w.heap.size, 0, none⟩ = some (.int .i64 1) ∧ w4.cell? ⟨w.heap.size, 1, none⟩ = some (.string ⟨pt.toArray⟩) := by
        have e := hgr4.block w.heap.size (Nat.lt_of_lt_of_le hxs HA0.out.size) (fun q => Nat.lt_irrefl _ (HUW.out _ q.symm))
        have hq := HSA.out _ HA0.out
        exact ⟨(World.cell?_of_block (a := ⟨w.heap.size, 0, none⟩) e).trans hq.1, (World.cell?_of_block (a := ⟨w.heap.size, 1, none⟩) e).trans hq.2⟩
      have HT := hide (taken_of HR2.out HUG.out hgr4 hown4 hwh4)
      obtain ⟨r1, r2, r3, rfl⟩ : ∃ r1 r2 r3, v' = .slice r1 r2 r3 := by
        rcases hown4.2 with ⟨e, _⟩ | ⟨b, c, _, e, _⟩
        · exact ⟨_, _, _, e⟩
        · exact ⟨_, _, _, e⟩
      refine hK.out _ _ hS4 (fun hHeld => ?_)
      clear hK K hown4 hgr4 hwh4 hr4
      try simp only [Act.put, List.setIfInBounds_toArray, List.set_cons_zero, List.set_cons_succ]
      (refine takeD (i := 8) (some 32) rfl rfl (by kernel_rfl) (by kernel_rfl) (by kernel_rfl) (fun _ _ _ h => h) (v := ?_) rfl ?_ (by assumption) ?_; rotate_left; (focus (intro w hSw; (try dsimp only at hSw); first | (go_simp; done) | (go_simp; with_reducible rfl))); try simp only [Act.put, List.setIfInBounds_toArray, List.set_cons_zero, List.set_cons_succ]); (refine takeD (i := 9) (some 33) rfl rfl (by kernel_rfl) (by kernel_rfl) (by kernel_rfl) (fun _ _ _ h => h) (v := ?_) rfl ?_ (by assumption) ?_; rotate_left; (focus (intro w hSw; (try dsimp only at hSw); first | (go_simp; done) | (go_simp; with_reducible rfl))); try simp only [Act.put, List.setIfInBounds_toArray, List.set_cons_zero, List.set_cons_succ])
      refine wpAnyH_ready (rs := [10]) (by kernel_rfl) (by simp) ?_
      refine readyC (o := _) rfl rfl (fun K hK => ?_) AllReadyH.nil
      go_simp
      have hgx : g ≠ w.heap.size := Nat.ne_of_lt hg
      have hS5 : (w4.setCell ⟨g, off, none⟩ (.slice r1 r2 r3)).cell? ⟨w.heap.size, 0, none⟩ = some (.int .i64 1) ∧ (w4.setCell ⟨g, off, none⟩ (.slice r1 r2 r3)).cell? ⟨w.heap.size, 1, none⟩ = some (.string ⟨pt.toArray⟩) :=
        ⟨(World.cell?_setCell_far _ _ _ _ hgx).trans hS4.1, (World.cell?_setCell_far _ _ _ _ hgx).trans hS4.2⟩
      refine hK.out _ _ hS5 (fun hHeld => ?_)
      clear hK K
      refine wpAnyH_done (by kernel_rfl) ?_ _
      go_end0
      exact ⟨rfl, _, HT.out⟩
end Go.Proofs.YtnhaapcpklfkpaaGreatDoor
