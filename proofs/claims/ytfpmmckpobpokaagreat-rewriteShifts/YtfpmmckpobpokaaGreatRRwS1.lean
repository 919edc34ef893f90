/-
  The contracts of the answer's slid, Lost and kids.
-/
import Derived.Test.YtfpmmckpobpokaaGreatRRwC1
set_option maxRecDepth 100000
set_option maxHeartbeats 4000000
namespace Go.Proofs.YtfpmmckpobpokaaGreat
open Go.RowKit
theorem CelAt.drew {w : World} {b : Nat} {r c : Int} {x y : Bool} (h : CelAt w b r c x y) : CelAt w.drew b r c x y := h
theorem slid0 (r c dr dc R C : Int) (x y : Bool) (w : World) (hx : (x = false ∧ IntKind.i64.wrap (r + dr) = R) ∨ (x = true ∧ r = R)) (hy : (y = false ∧ IntKind.i64.wrap (c + dc) = C) ∨ (y = true ∧ c = C)) :
    Calls Tryz.prog 72 #[.agg #[.int .i64 r, .int .i64 c, .bool x, .bool y], .int .i64 dr, .int .i64 dc] w fun e w' => e = .returned (.tuple #[.agg #[.int .i64 R, .int .i64 C, .bool x, .bool y], .bool (Pla.placeB R C)]) ∧ Below w.heap.size w w' := by
  have HO : Hid (∀ W : World, Calls Tryz.prog 81 #[.agg #[.int .i64 R, .int .i64 C]] W fun e w' => e = .returned (.bool (Pla.placeB R C)) ∧ Below W.heap.size W w') := fun W => (Pla.rplace_any R C W).mono (by rintro e w' ⟨rfl, rfl⟩; exact ⟨rfl, (Below.refl _ W).alloc (Nat.le_refl _) _⟩)
  generalize Pla.placeB R C = o at *
  have HC := hide (CelAt.two w R C x y 0 0 false false 30 30)
  have HB := hide (((Below.refl _ w).alloc (Nat.le_refl _) (.cells #[.int .i64 R, .int .i64 C, .bool x, .bool y] 30)).alloc (by simp) (.cells #[.int .i64 0, .int .i64 0, .bool false, .bool false] 30))
  have hk : (x = false ∧ IntKind.i64.wrap (r + dr) = R ∧ y = false ∧ IntKind.i64.wrap (c + dc) = C) ∨ (x = false ∧ IntKind.i64.wrap (r + dr) = R ∧ y = true ∧ c = C) ∨ (x = true ∧ r = R ∧ y = false ∧ IntKind.i64.wrap (c + dc) = C) ∨ (x = true ∧ r = R ∧ y = true ∧ c = C) := by
    rcases hx with ⟨a, b⟩ | ⟨a, b⟩ <;> rcases hy with ⟨a', b'⟩ | ⟨a', b'⟩ <;> simp [a, b, a', b']
  clear hx hy
  rcases hk with ⟨rfl, hR, rfl, hC⟩ | ⟨rfl, hR, rfl, rfl⟩ | ⟨rfl, rfl, rfl, hC⟩ | ⟨rfl, rfl, rfl, rfl⟩
  · go_enter Tryz.func72, Tryz.ntmps72
    go_wp2
    have HC1 := hide HC.out.1.drew
    have HC2 := hide HC.out.2.drew
    have HBd := hide HB.out.drew
    refine wp_region_held_drew (S := fun W => W.cell? ⟨w.heap.size, 0, none⟩ = some (.int .i64 R) ∧ W.cell? ⟨w.heap.size, 1, none⟩ = some (.int .i64 C) ∧ W.cell? ⟨w.heap.size, 2, none⟩ = some (.bool false) ∧ W.cell? ⟨w.heap.size, 3, none⟩ = some (.bool false)) (by kernel_rfl) HC1.out.2.1 (fun hHeld => ?_)
    refine takeF 0 (some 28) ?_; refine takeF 1 (some 29) ?_; refine takeF 2 (some 30) ?_
    (refine wpAnyH_ready (rs := [3]) (by kernel_rfl) (by simp) ?_; refine AllReadyH.cons (o := _) rfl (fun K hK => ?_) AllReadyH.nil; go_simp; (go_at_call 81; refine (HO.out _).mono ?_; rintro e w1 ⟨rfl, hb1⟩; have HZ1 := hide (HC1.out.below hb1); have HZ2 := hide (HC2.out.below hb1); have HB1 := hide (HBd.out.trans (hb1.mono HBd.out.size)); clear hb1); refine hK.out _ _ HZ1.out.2.1 (fun hHeld => ?_); clear hK K; try simp only [Act.put, pA, pB, pC])
    have ⟨y0, ⟨y1, y2, y3, y4⟩, y5, y6, y7, y8⟩ := HZ2.out
    have HP := hide (HZ2.out.put R C false false)
    have HBf := hide ((((HB1.out.setCell (p := ⟨w.heap.size + 1, 0, none⟩) (by simp) (.int .i64 R)).setCell (p := ⟨w.heap.size + 1, 1, none⟩) (by simp) (.int .i64 C)).setCell (p := ⟨w.heap.size + 1, 2, none⟩) (by simp) (.bool false)).setCell (p := ⟨w.heap.size + 1, 3, none⟩) (by simp) (.bool false))
    refine wpAnyH_ready (rs := [4]) (by kernel_rfl) (by simp) ?_
    refine AllReadyH.cons (o := _) rfl (fun K hK => ?_) AllReadyH.nil
    go_simp
    refine hK.out _ _ ((((HZ1.out.set (by omega) 0 _).set (by omega) 1 _).set (by omega) 2 _).set (by omega) 3 _).2.1 (fun hHeld => ?_)
    clear hK K y0 y1 y2 y3 y4 y5 y6 y7 y8
    try simp only [Act.put, pA, pB, pC]
    refine takeF 5 (some 7) ?_
    refine wpAnyH_done (by kernel_rfl) ?_ _
    go_wp2
    have ⟨y0, ⟨y1, y2, y3, y4⟩, y5, y6, y7, y8⟩ := HP.out
    refine bodyPost_ret (v := .tuple #[.agg #[.int .i64 R, .int .i64 C, .bool false, .bool false], .bool o]) (by simp [results, Tryz.results72, go_sem, *]) rfl ⟨rfl, HBf.out⟩
  · go_enter Tryz.func72, Tryz.ntmps72
    go_wp2
    have HC1 := hide HC.out.1.drew
    have HC2 := hide HC.out.2.drew
    have HBd := hide HB.out.drew
    refine wp_region_held_drew (S := fun W => W.cell? ⟨w.heap.size, 0, none⟩ = some (.int .i64 R) ∧ W.cell? ⟨w.heap.size, 1, none⟩ = some (.int .i64 c) ∧ W.cell? ⟨w.heap.size, 2, none⟩ = some (.bool false) ∧ W.cell? ⟨w.heap.size, 3, none⟩ = some (.bool true)) (by kernel_rfl) HC1.out.2.1 (fun hHeld => ?_)
    refine takeF 0 (some 28) ?_; refine takeF 1 (some 29) ?_; refine takeF 2 (some 30) ?_
    (refine wpAnyH_ready (rs := [3]) (by kernel_rfl) (by simp) ?_; refine AllReadyH.cons (o := _) rfl (fun K hK => ?_) AllReadyH.nil; go_simp; (go_at_call 81; refine (HO.out _).mono ?_; rintro e w1 ⟨rfl, hb1⟩; have HZ1 := hide (HC1.out.below hb1); have HZ2 := hide (HC2.out.below hb1); have HB1 := hide (HBd.out.trans (hb1.mono HBd.out.size)); clear hb1); refine hK.out _ _ HZ1.out.2.1 (fun hHeld => ?_); clear hK K; try simp only [Act.put, pA, pB, pC])
    have ⟨y0, ⟨y1, y2, y3, y4⟩, y5, y6, y7, y8⟩ := HZ2.out
    have HP := hide (HZ2.out.put R c false true)
    have HBf := hide ((((HB1.out.setCell (p := ⟨w.heap.size + 1, 0, none⟩) (by simp) (.int .i64 R)).setCell (p := ⟨w.heap.size + 1, 1, none⟩) (by simp) (.int .i64 c)).setCell (p := ⟨w.heap.size + 1, 2, none⟩) (by simp) (.bool false)).setCell (p := ⟨w.heap.size + 1, 3, none⟩) (by simp) (.bool true))
    refine wpAnyH_ready (rs := [4]) (by kernel_rfl) (by simp) ?_
    refine AllReadyH.cons (o := _) rfl (fun K hK => ?_) AllReadyH.nil
    go_simp
    refine hK.out _ _ ((((HZ1.out.set (by omega) 0 _).set (by omega) 1 _).set (by omega) 2 _).set (by omega) 3 _).2.1 (fun hHeld => ?_)
    clear hK K y0 y1 y2 y3 y4 y5 y6 y7 y8
    try simp only [Act.put, pA, pB, pC]
    refine takeF 5 (some 7) ?_
    refine wpAnyH_done (by kernel_rfl) ?_ _
    go_wp2
    have ⟨y0, ⟨y1, y2, y3, y4⟩, y5, y6, y7, y8⟩ := HP.out
    refine bodyPost_ret (v := .tuple #[.agg #[.int .i64 R, .int .i64 c, .bool false, .bool true], .bool o]) (by simp [results, Tryz.results72, go_sem, *]) rfl ⟨rfl, HBf.out⟩
  · go_enter Tryz.func72, Tryz.ntmps72
    go_wp2
    have HC1 := hide HC.out.1.drew
    have HC2 := hide HC.out.2.drew
    have HBd := hide HB.out.drew
    refine wp_region_held_drew (S := fun W => W.cell? ⟨w.heap.size, 0, none⟩ = some (.int .i64 r) ∧ W.cell? ⟨w.heap.size, 1, none⟩ = some (.int .i64 C) ∧ W.cell? ⟨w.heap.size, 2, none⟩ = some (.bool true) ∧ W.cell? ⟨w.heap.size, 3, none⟩ = some (.bool false)) (by kernel_rfl) HC1.out.2.1 (fun hHeld => ?_)
    refine takeF 0 (some 28) ?_; refine takeF 1 (some 29) ?_; refine takeF 2 (some 30) ?_
    (refine wpAnyH_ready (rs := [3]) (by kernel_rfl) (by simp) ?_; refine AllReadyH.cons (o := _) rfl (fun K hK => ?_) AllReadyH.nil; go_simp; (go_at_call 81; refine (HO.out _).mono ?_; rintro e w1 ⟨rfl, hb1⟩; have HZ1 := hide (HC1.out.below hb1); have HZ2 := hide (HC2.out.below hb1); have HB1 := hide (HBd.out.trans (hb1.mono HBd.out.size)); clear hb1); refine hK.out _ _ HZ1.out.2.1 (fun hHeld => ?_); clear hK K; try simp only [Act.put, pA, pB, pC])
    have ⟨y0, ⟨y1, y2, y3, y4⟩, y5, y6, y7, y8⟩ := HZ2.out
    have HP := hide (HZ2.out.put r C true false)
    have HBf := hide ((((HB1.out.setCell (p := ⟨w.heap.size + 1, 0, none⟩) (by simp) (.int .i64 r)).setCell (p := ⟨w.heap.size + 1, 1, none⟩) (by simp) (.int .i64 C)).setCell (p := ⟨w.heap.size + 1, 2, none⟩) (by simp) (.bool true)).setCell (p := ⟨w.heap.size + 1, 3, none⟩) (by simp) (.bool false))
    refine wpAnyH_ready (rs := [4]) (by kernel_rfl) (by simp) ?_
    refine AllReadyH.cons (o := _) rfl (fun K hK => ?_) AllReadyH.nil
    go_simp
    refine hK.out _ _ ((((HZ1.out.set (by omega) 0 _).set (by omega) 1 _).set (by omega) 2 _).set (by omega) 3 _).2.1 (fun hHeld => ?_)
    clear hK K y0 y1 y2 y3 y4 y5 y6 y7 y8
    try simp only [Act.put, pA, pB, pC]
    refine takeF 5 (some 7) ?_
    refine wpAnyH_done (by kernel_rfl) ?_ _
    go_wp2
    have ⟨y0, ⟨y1, y2, y3, y4⟩, y5, y6, y7, y8⟩ := HP.out
    refine bodyPost_ret (v := .tuple #[.agg #[.int .i64 r, .int .i64 C, .bool true, .bool false], .bool o]) (by simp [results, Tryz.results72, go_sem, *]) rfl ⟨rfl, HBf.out⟩
  · go_enter Tryz.func72, Tryz.ntmps72
    go_wp2
    have HC1 := hide HC.out.1.drew
    have HC2 := hide HC.out.2.drew
    have HBd := hide HB.out.drew
    refine wp_region_held_drew (S := fun W => W.cell? ⟨w.heap.size, 0, none⟩ = some (.int .i64 r) ∧ W.cell? ⟨w.heap.size, 1, none⟩ = some (.int .i64 c) ∧ W.cell? ⟨w.heap.size, 2, none⟩ = some (.bool true) ∧ W.cell? ⟨w.heap.size, 3, none⟩ = some (.bool true)) (by kernel_rfl) HC1.out.2.1 (fun hHeld => ?_)
    refine takeF 0 (some 28) ?_; refine takeF 1 (some 29) ?_; refine takeF 2 (some 30) ?_
    (refine wpAnyH_ready (rs := [3]) (by kernel_rfl) (by simp) ?_; refine AllReadyH.cons (o := _) rfl (fun K hK => ?_) AllReadyH.nil; go_simp; (go_at_call 81; refine (HO.out _).mono ?_; rintro e w1 ⟨rfl, hb1⟩; have HZ1 := hide (HC1.out.below hb1); have HZ2 := hide (HC2.out.below hb1); have HB1 := hide (HBd.out.trans (hb1.mono HBd.out.size)); clear hb1); refine hK.out _ _ HZ1.out.2.1 (fun hHeld => ?_); clear hK K; try simp only [Act.put, pA, pB, pC])
    have ⟨y0, ⟨y1, y2, y3, y4⟩, y5, y6, y7, y8⟩ := HZ2.out
    have HP := hide (HZ2.out.put r c true true)
    have HBf := hide ((((HB1.out.setCell (p := ⟨w.heap.size + 1, 0, none⟩) (by simp) (.int .i64 r)).setCell (p := ⟨w.heap.size + 1, 1, none⟩) (by simp) (.int .i64 c)).setCell (p := ⟨w.heap.size + 1, 2, none⟩) (by simp) (.bool true)).setCell (p := ⟨w.heap.size + 1, 3, none⟩) (by simp) (.bool true))
    refine wpAnyH_ready (rs := [4]) (by kernel_rfl) (by simp) ?_
    refine AllReadyH.cons (o := _) rfl (fun K hK => ?_) AllReadyH.nil
    go_simp
    refine hK.out _ _ ((((HZ1.out.set (by omega) 0 _).set (by omega) 1 _).set (by omega) 2 _).set (by omega) 3 _).2.1 (fun hHeld => ?_)
    clear hK K y0 y1 y2 y3 y4 y5 y6 y7 y8
    try simp only [Act.put, pA, pB, pC]
    refine takeF 5 (some 7) ?_
    refine wpAnyH_done (by kernel_rfl) ?_ _
    go_wp2
    have ⟨y0, ⟨y1, y2, y3, y4⟩, y5, y6, y7, y8⟩ := HP.out
    refine bodyPost_ret (v := .tuple #[.agg #[.int .i64 r, .int .i64 c, .bool true, .bool true], .bool o]) (by simp [results, Tryz.results72, go_sem, *]) rfl ⟨rfl, HBf.out⟩
theorem slid_any (r c dr dc : Int) (x y : Bool) (w : World) :
  Calls Tryz.prog 72 #[.agg #[.int .i64 r, .int .i64 c, .bool x, .bool y], .int .i64 dr, .int .i64 dc] w fun e w' => e = .returned (.tuple #[.agg #[.int .i64 (slideI x r dr), .int .i64 (slideI y c dc), .bool x, .bool y], .bool (Pla.placeB (slideI x r dr) (slideI y c dc))]) ∧ Below w.heap.size w w' :=
 slid0 r c dr dc _ _ x y w (by cases x <;> simp [slideI]) (by cases y <;> simp [slideI])
theorem rlost_ans (w : World) : Calls Tryz.prog 73 #[] w fun e w' => e = .returned (.agg (hdC lostH (.slice none 0 0)).toArray) ∧ Below w.heap.size w w' := by
 have HX := hide (Box.new w (hdC zh (.slice none 0 0)))
 go_enter Tryz.func73, Tryz.ntmps73
 go_wp2_with (first | (with_reducible refine wpl_id ?_; refine wpl_buildN rfl 33 _ rfl (qs := #[(0, .int .i64 1), (1, .agg #[.int .i64 4, .int .i64 0, .string ⟨#[]⟩, .bool false, .int .i64 3])]) rfl (run_lostN _) ?_) | (with_reducible refine wpl_id ?_; refine wpl_store rfl _ _ rfl _ rfl rfl (by ((repeat' (first | with_reducible (first | exact Hid.out (by assumption) | apply Box.set | exact Box.new _ _ | apply Box.other | apply Box.alloc | apply Box.drew | apply Box.drewN) | omega)); done)) rfl ?_))
 refine bodyPost_ret (Box.ret rfl (HX.out.set _) rfl) rfl ⟨rfl, ?_⟩
 exact below_set (below_al w _) (Nat.le_refl _) _
theorem rkids_any (h : Hd) (v : Value) (a : Option Addr) (n cap : Nat) (a0 : Option Addr) (n0 cap0 : Nat) (hv : v = .slice a0 n0 cap0) (w : World) : Calls Tryz.prog 68 #[.agg (hdC h v).toArray, .slice a n cap] w fun e w' => e = .returned (.agg (hdC h (.slice a n cap)).toArray) ∧ Below w.heap.size w w' := by
 subst hv
 have HX : Hid (Box ((w.alloc (.cells ((hdC h (.slice a0 n0 cap0)).set 15 (.slice a n cap)).toArray 33)).alloc (.cells #[.int .i64 0, .int .i64 0, .int .i64 0, .string ⟨#[]⟩, .bool false, .int .i64 0, .int .i64 0, .int .i64 0, .bool false, .bool false, .int .i64 0, .int .i64 0, .bool false, .bool false, .string ⟨#[]⟩, .slice none 0 0] 33)) w.heap.size (hdC h (.slice a n cap))) := hide ((Box.new w (hdC h (.slice a n cap))).alloc _)
 have HZ : Hid (Box ((w.alloc (.cells ((hdC h (.slice a0 n0 cap0)).set 15 (.slice a n cap)).toArray 33)).alloc (.cells #[.int .i64 0, .int .i64 0, .int .i64 0, .string ⟨#[]⟩, .bool false, .int .i64 0, .int .i64 0, .int .i64 0, .bool false, .bool false, .int .i64 0, .int .i64 0, .bool false, .bool false, .string ⟨#[]⟩, .slice none 0 0] 33)) (w.heap.size + 1) (hdC zh (.slice none 0 0))) := by
  have := Box.new (w.alloc (.cells ((hdC h (.slice a0 n0 cap0)).set 15 (.slice a n cap)).toArray 33)) (hdC zh (.slice none 0 0))
  rw [World.size_alloc] at this
  exact hide this
 have HB : Hid (Below w.heap.size w ((w.alloc (.cells ((hdC h (.slice a0 n0 cap0)).set 15 (.slice a n cap)).toArray 33)).alloc (.cells #[.int .i64 0, .int .i64 0, .int .i64 0, .string ⟨#[]⟩, .bool false, .int .i64 0, .int .i64 0, .int .i64 0, .bool false, .bool false, .int .i64 0, .int .i64 0, .bool false, .bool false, .string ⟨#[]⟩, .slice none 0 0] 33))) := hide (((Below.refl _ w).alloc (Nat.le_refl _) _).alloc (by simp) _)
 go_enter Tryz.func68, Tryz.ntmps68
 go_wp2_with (first | (with_reducible refine wpl_id ?_; refine wpl_load rfl _ rfl _ rfl (by ((repeat' (first | with_reducible (first | exact Hid.out (by assumption) | apply Box.set | exact Box.new _ _ | apply Box.other | apply Box.alloc | apply Box.drew | apply Box.drewN) | omega)); done)) ?_) | (with_reducible refine wpl_id ?_; refine wpl_store rfl _ _ rfl _ rfl rfl (by ((repeat' (first | with_reducible (first | exact Hid.out (by assumption) | apply Box.set | exact Box.new _ _ | apply Box.other | apply Box.alloc | apply Box.drew | apply Box.drewN) | omega)); done)) rfl ?_))
 refine bodyPost_ret (Box.ret rfl (HZ.out.set _) rfl) rfl ⟨rfl, ?_⟩
 exact below_set HB.out (by omega) _
end Go.Proofs.YtfpmmckpobpokaaGreat
