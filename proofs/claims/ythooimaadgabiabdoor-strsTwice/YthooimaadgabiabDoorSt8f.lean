/-
  What strs' Join, Char, Code, Find and Search hand to told.
-/
import Derived.Test.YthooimaadgabiabDoorSt8
namespace Go.Proofs.YthooimaadgabiabDoor
open Go.RowKit
set_option linter.unusedSimpArgs false
set_option linter.unusedVariables false

set_option maxRecDepth 100000 in
set_option maxHeartbeats 4000000 in
theorem cFind (b0 b1 b2 : Nat) (p s : By) (f : Int) (w : World) (h0 : Bx w b0 (.string ⟨p.toArray⟩)) (h1 : Bx w b1 (.string ⟨s.toArray⟩)) (h2 : Bx w b2 (.int .i64 f)) (mp : p.length ≤ maxLen) (ms : s.length ≤ maxLen) (mf : f ≤ 9223372036854775807) :
    Calls Tryd.prog 33 #[.pointer (some ⟨b0, 0, none⟩), .pointer (some ⟨b1, 0, none⟩), .pointer (some ⟨b2, 0, none⟩)] w fun e w' => e = endI (fdS p s f) ∧ Below w.heap.size w w' := by
  have hmf : ∀ (fn : Fn) (first cap : Array Value) (w : World), (Instr.makeFunc fn first cap).run Tryd.prog w = .ok (.func fn first cap) w := fun _ _ _ _ => rfl
  have c0 : w.cell? ⟨b0, 0, none⟩ = some (.string ⟨p.toArray⟩) := h0
  have H1 := hide h1
  have H2 := hide h2
  by_cases kp : 255 < p.length
  · have HR := hide (sright_no p w kp mp)
    rw [show fdS p s f = none from if_pos kp]
    clear h0
    generalize (⟨p.toArray⟩ : ByteArray) = P at *
    go_enter Tryd.func33, Tryd.ntmps33
    go_wp2_with (go_at_call 20; refine HR.out.mono ?_; rintro e w9 ⟨rfl, hb9⟩)
    exact ⟨rfl, rfl, hb9⟩
  · have HR := hide (sright_ok p w (by omega))
    obtain ⟨Z, hZ⟩ : ∃ Z, plS (prefixB p) s f = Z := ⟨_, rfl⟩
    rw [show fdS p s f = plS (prefixB p) s f from if_neg kp, hZ]
    have HZ := hide hZ
    clear h0 hZ
    go_enter Tryd.func33, Tryd.ntmps33
    go_wp2_with (go_at_call 20; refine HR.out.mono ?_; rintro e w1 ⟨rfl, hb1⟩)
    obtain ⟨w2, hw2⟩ : ∃ x, w1.alloc (.cells #[.string ⟨p.toArray⟩] 9) = x := ⟨_, rfl⟩
    have HX : Hid (Bx w2 w1.heap.size (.string ⟨p.toArray⟩)) := by
      rw [← hw2]; exact hide (by unfold Bx; rw [Lib.cell_of_heap (World.alloc_heap_new w1 _)]; rfl)
    have hb2 : Below w.heap.size w w2 := by rw [← hw2]; exact hb1.alloc hb1.size _
    have K1 := hide (H1.out.below hb2)
    have K2 := hide (H2.out.below hb2)
    have HB := hide hb2
    rw [hw2]
    clear hw2 hb1 hb2 h1 h2
    by_cases ks : 255 < s.length
    · have HS := hide (fun W => sright_no s W ks ms)
      have HZ2 : Hid (Z = none) := HZ.out.symm.trans (if_pos (.inl ks))
      generalize (⟨p.toArray⟩ : ByteArray) = P at *
      generalize (⟨s.toArray⟩ : ByteArray) = S at *
      refine wp_region_held_drew (S := fun W => W.cell? ⟨b1, 0, none⟩ = some (.string S) ∧ W.cell? ⟨b2, 0, none⟩ = some (.int .i64 f) ∧ Below w2.heap.size w2 W) (by kernel_rfl) ⟨K1.out, K2.out, (Below.refl _ _).drew⟩ (fun hHeld => ?_)
      (refine takeD (i := 0) (some 7) rfl rfl (by kernel_rfl) (by kernel_rfl) (by kernel_rfl) (fun _ _ _ h => h) (v := ?_) rfl ?_ (by assumption) ?_; rotate_left; (focus (intro w hSw; (try dsimp only at hSw); first | (go_simp; done) | (go_simp; with_reducible rfl))); try simp only [Act.put, List.setIfInBounds_toArray, List.set_cons_zero, List.set_cons_succ]); (refine takeD (i := 2) (some 9) rfl rfl (by kernel_rfl) (by kernel_rfl) (by kernel_rfl) (fun _ _ _ h => h) (v := ?_) rfl ?_ (by assumption) ?_; rotate_left; (focus (intro w hSw; (try dsimp only at hSw); first | (go_simp; done) | (go_simp; with_reducible rfl))); try simp only [Act.put, List.setIfInBounds_toArray, List.set_cons_zero, List.set_cons_succ]); (refine takeD (i := 3) (some 10) rfl rfl (by kernel_rfl) (by kernel_rfl) (by kernel_rfl) (fun _ _ _ h => h) (v := ?_) rfl ?_ (by assumption) ?_; rotate_left; (focus (intro w hSw; (try dsimp only at hSw); first | (go_simp; done) | (go_simp; with_reducible rfl))); try simp only [Act.put, List.setIfInBounds_toArray, List.set_cons_zero, List.set_cons_succ])
      refine wpAnyH_ready (rs := [1]) (by kernel_rfl) (by simp) ?_
      refine AllReadyH.cons (o := _) rfl (fun K hK => ?_) AllReadyH.nil
      go_simp
      (go_at_call 20; refine (HS.out _).mono ?_; rintro e w9 ⟨rfl, hb9⟩)
      exact ⟨rfl, (congrArg endI HZ2.out).symm, (HB.out.trans (hHeld.2.2.mono HB.out.size)).trans (hb9.mono (Nat.le_trans HB.out.size hHeld.2.2.size))⟩
    · have HS := hide (fun W => sright_ok s W (by omega))
      have r1 : ∀ (xs : Array Value) (W : World), Sem.run Tryd.prog (callFunc 35 xs) W = .ok (.enter 35 xs) W := enters_of Tryd.func35 (by kernel_rfl) rfl
      have HP : Hid (∀ W : World, Below w2.heap.size w2 W → Calls Tryd.prog 34 #[.string ⟨s.toArray⟩, .int .i64 f, .func (.func 35) #[] #[.pointer (some ⟨w1.heap.size, 0, none⟩)]] W fun e w' => e = endI (plS (prefixB p) s f) ∧ Below W.heap.size W w') := fun W hW => placed_any s f 35 _ (prefixB p) W (by omega) mf r1 (fun W' r hW' hr => cFind1 w1.heap.size p r W' (HX.out.below (up9 hW hW')))
      clear r1
      rw [HZ.out] at HP
      cases hz : Z with
      | none =>
        have HZ2 := hide hz
        rw [hz] at HP
        simp only [endI] at HP
        clear hz
        generalize (⟨p.toArray⟩ : ByteArray) = P at *
        generalize (⟨s.toArray⟩ : ByteArray) = S at *
        refine wp_region_held_drew (S := fun W => W.cell? ⟨b1, 0, none⟩ = some (.string S) ∧ W.cell? ⟨b2, 0, none⟩ = some (.int .i64 f) ∧ Below w2.heap.size w2 W) (by kernel_rfl) ⟨K1.out, K2.out, (Below.refl _ _).drew⟩ (fun hHeld => ?_)
        (refine takeD (i := 0) (some 7) rfl rfl (by kernel_rfl) (by kernel_rfl) (by kernel_rfl) (fun _ _ _ h => h) (v := ?_) rfl ?_ (by assumption) ?_; rotate_left; (focus (intro w hSw; (try dsimp only at hSw); first | (go_simp; done) | (go_simp; with_reducible rfl))); try simp only [Act.put, List.setIfInBounds_toArray, List.set_cons_zero, List.set_cons_succ]); (refine takeD (i := 2) (some 9) rfl rfl (by kernel_rfl) (by kernel_rfl) (by kernel_rfl) (fun _ _ _ h => h) (v := ?_) rfl ?_ (by assumption) ?_; rotate_left; (focus (intro w hSw; (try dsimp only at hSw); first | (go_simp; done) | (go_simp; with_reducible rfl))); try simp only [Act.put, List.setIfInBounds_toArray, List.set_cons_zero, List.set_cons_succ]); (refine takeD (i := 3) (some 10) rfl rfl (by kernel_rfl) (by kernel_rfl) (by kernel_rfl) (fun _ _ _ h => h) (v := ?_) rfl ?_ (by assumption) ?_; rotate_left; (focus (intro w hSw; (try dsimp only at hSw); first | (go_simp; done) | (go_simp; with_reducible rfl))); try simp only [Act.put, List.setIfInBounds_toArray, List.set_cons_zero, List.set_cons_succ])
        refine wpAnyH_ready (rs := [1]) (by kernel_rfl) (by simp) ?_
        refine AllReadyH.cons (o := _) rfl (fun K hK => ?_) AllReadyH.nil
        go_simp
        (go_at_call 20; refine (HS.out _).mono ?_; rintro e w9 ⟨rfl, hb9⟩; have hB9 := up9 hHeld.2.2 hb9; have hS9 := And.intro (K1.out.below hB9) (And.intro (K2.out.below hB9) hB9); clear hb9 hB9)
        refine hK.out _ _ hS9 (fun hHeld => ?_)
        clear hK K
        try simp only [Act.put, List.setIfInBounds_toArray, List.set_cons_zero, List.set_cons_succ]
        refine wpAnyH_ready (rs := [4]) (by kernel_rfl) (by simp) ?_
        refine AllReadyH.cons (o := _) rfl (fun K hK => ?_) AllReadyH.nil
        go_simp
        (go_at_call 34; refine (HP.out _ hHeld.2.2).mono ?_; rintro e w8 ⟨rfl, hb8⟩)
        exact ⟨rfl, (congrArg endI HZ2.out).symm, (HB.out.trans (hHeld.2.2.mono HB.out.size)).trans (hb8.mono (Nat.le_trans HB.out.size hHeld.2.2.size))⟩
      | some z =>
        have HZ2 := hide hz
        rw [hz] at HP
        simp only [endI] at HP
        clear hz
        generalize (⟨p.toArray⟩ : ByteArray) = P at *
        generalize (⟨s.toArray⟩ : ByteArray) = S at *
        refine wp_region_held_drew (S := fun W => W.cell? ⟨b1, 0, none⟩ = some (.string S) ∧ W.cell? ⟨b2, 0, none⟩ = some (.int .i64 f) ∧ Below w2.heap.size w2 W) (by kernel_rfl) ⟨K1.out, K2.out, (Below.refl _ _).drew⟩ (fun hHeld => ?_)
        (refine takeD (i := 0) (some 7) rfl rfl (by kernel_rfl) (by kernel_rfl) (by kernel_rfl) (fun _ _ _ h => h) (v := ?_) rfl ?_ (by assumption) ?_; rotate_left; (focus (intro w hSw; (try dsimp only at hSw); first | (go_simp; done) | (go_simp; with_reducible rfl))); try simp only [Act.put, List.setIfInBounds_toArray, List.set_cons_zero, List.set_cons_succ]); (refine takeD (i := 2) (some 9) rfl rfl (by kernel_rfl) (by kernel_rfl) (by kernel_rfl) (fun _ _ _ h => h) (v := ?_) rfl ?_ (by assumption) ?_; rotate_left; (focus (intro w hSw; (try dsimp only at hSw); first | (go_simp; done) | (go_simp; with_reducible rfl))); try simp only [Act.put, List.setIfInBounds_toArray, List.set_cons_zero, List.set_cons_succ]); (refine takeD (i := 3) (some 10) rfl rfl (by kernel_rfl) (by kernel_rfl) (by kernel_rfl) (fun _ _ _ h => h) (v := ?_) rfl ?_ (by assumption) ?_; rotate_left; (focus (intro w hSw; (try dsimp only at hSw); first | (go_simp; done) | (go_simp; with_reducible rfl))); try simp only [Act.put, List.setIfInBounds_toArray, List.set_cons_zero, List.set_cons_succ])
        refine wpAnyH_ready (rs := [1]) (by kernel_rfl) (by simp) ?_
        refine AllReadyH.cons (o := _) rfl (fun K hK => ?_) AllReadyH.nil
        go_simp
        (go_at_call 20; refine (HS.out _).mono ?_; rintro e w9 ⟨rfl, hb9⟩; have hB9 := up9 hHeld.2.2 hb9; have hS9 := And.intro (K1.out.below hB9) (And.intro (K2.out.below hB9) hB9); clear hb9 hB9)
        refine hK.out _ _ hS9 (fun hHeld => ?_)
        clear hK K
        try simp only [Act.put, List.setIfInBounds_toArray, List.set_cons_zero, List.set_cons_succ]
        refine wpAnyH_ready (rs := [4]) (by kernel_rfl) (by simp) ?_
        refine AllReadyH.cons (o := _) rfl (fun K hK => ?_) AllReadyH.nil
        go_simp
        (go_at_call 34; refine (HP.out _ hHeld.2.2).mono ?_; rintro e w8 ⟨rfl, hb8⟩; have hB8 := up9 hHeld.2.2 hb8; have hS8 := And.intro (K1.out.below hB8) (And.intro (K2.out.below hB8) hB8); clear hb8 hB8)
        refine hK.out _ _ hS8 (fun hHeld => ?_)
        clear hK K
        try simp only [Act.put, List.setIfInBounds_toArray, List.set_cons_zero, List.set_cons_succ]
        (refine takeD (i := 5) (some 3) rfl rfl (by kernel_rfl) (by kernel_rfl) (by kernel_rfl) (fun _ _ _ h => h) (v := ?_) rfl ?_ (by assumption) ?_; rotate_left; (focus (intro w hSw; (try dsimp only at hSw); first | (go_simp; done) | (go_simp; with_reducible rfl))); try simp only [Act.put, List.setIfInBounds_toArray, List.set_cons_zero, List.set_cons_succ])
        refine wpAnyH_done (by kernel_rfl) ?_ _
        go_wp2
        go_ret
        exact ⟨(congrArg endI HZ2.out).symm, HB.out.trans (hHeld.2.2.mono HB.out.size)⟩
set_option maxRecDepth 100000 in
set_option maxHeartbeats 4000000 in
theorem cSearch (b0 b1 b2 : Nat) (p s : By) (f : Int) (w : World) (h0 : Bx w b0 (.string ⟨p.toArray⟩)) (h1 : Bx w b1 (.string ⟨s.toArray⟩)) (h2 : Bx w b2 (.int .i64 f)) (mp : p.length ≤ maxLen) (ms : s.length ≤ maxLen) (mf : f ≤ 9223372036854775807) :
    Calls Tryd.prog 37 #[.pointer (some ⟨b0, 0, none⟩), .pointer (some ⟨b1, 0, none⟩), .pointer (some ⟨b2, 0, none⟩)] w fun e w' => e = endI (srS p s f) ∧ Below w.heap.size w w' := by
  have hmf : ∀ (fn : Fn) (first cap : Array Value) (w : World), (Instr.makeFunc fn first cap).run Tryd.prog w = .ok (.func fn first cap) w := fun _ _ _ _ => rfl
  have c0 : w.cell? ⟨b0, 0, none⟩ = some (.string ⟨p.toArray⟩) := h0
  have H1 := hide h1
  have H2 := hide h2
  by_cases kp : 255 < p.length
  · have HR := hide (sright_no p w kp mp)
    rw [show srS p s f = none from if_pos kp]
    clear h0
    generalize (⟨p.toArray⟩ : ByteArray) = P at *
    go_enter Tryd.func37, Tryd.ntmps37
    go_wp2_with (go_at_call 20; refine HR.out.mono ?_; rintro e w9 ⟨rfl, hb9⟩)
    exact ⟨rfl, rfl, hb9⟩
  · have HR := hide (sright_ok p w (by omega))
    have HQ := hide (fun W => openEnded_any p W (by omega))
    have HO : Hid ((openR p).length ≤ 1000) := by
      show _ ≤ _
      unfold openR
      split <;> simp <;> omega
    obtain ⟨Z, hZ⟩ : ∃ Z, plS (anyL p) s f = Z := ⟨_, rfl⟩
    rw [show srS p s f = plS (anyL p) s f from if_neg kp, hZ]
    have HZ := hide hZ
    clear h0 hZ
    go_enter Tryd.func37, Tryd.ntmps37
    go_wp2_with (first | (go_at_call 20; refine HR.out.mono ?_; rintro e w0 ⟨rfl, hb0⟩) | (go_at_call 38; refine (HQ.out _).mono ?_; rintro e w1 ⟨rfl, hb1'⟩; have hb1 := up9 hb0 hb1'; clear hb0 hb1'))
    obtain ⟨w2, hw2⟩ : ∃ x, w1.alloc (.cells #[.string ⟨(openR p).toArray⟩] 9) = x := ⟨_, rfl⟩
    have HX : Hid (Bx w2 w1.heap.size (.string ⟨(openR p).toArray⟩)) := by
      rw [← hw2]; exact hide (by unfold Bx; rw [Lib.cell_of_heap (World.alloc_heap_new w1 _)]; rfl)
    have hb2 : Below w.heap.size w w2 := by rw [← hw2]; exact hb1.alloc hb1.size _
    have K1 := hide (H1.out.below hb2)
    have K2 := hide (H2.out.below hb2)
    have HB := hide hb2
    rw [hw2]
    clear hw2 hb1 hb2 h1 h2
    by_cases ks : 255 < s.length
    · have HS := hide (fun W => sright_no s W ks ms)
      have HZ2 : Hid (Z = none) := HZ.out.symm.trans (if_pos (.inl ks))
      generalize (⟨p.toArray⟩ : ByteArray) = P at *
      generalize (⟨(openR p).toArray⟩ : ByteArray) = PO at *
      generalize (⟨s.toArray⟩ : ByteArray) = S at *
      refine wp_region_held_drew (S := fun W => W.cell? ⟨b1, 0, none⟩ = some (.string S) ∧ W.cell? ⟨b2, 0, none⟩ = some (.int .i64 f) ∧ Below w2.heap.size w2 W) (by kernel_rfl) ⟨K1.out, K2.out, (Below.refl _ _).drew⟩ (fun hHeld => ?_)
      (refine takeD (i := 0) (some 8) rfl rfl (by kernel_rfl) (by kernel_rfl) (by kernel_rfl) (fun _ _ _ h => h) (v := ?_) rfl ?_ (by assumption) ?_; rotate_left; (focus (intro w hSw; (try dsimp only at hSw); first | (go_simp; done) | (go_simp; with_reducible rfl))); try simp only [Act.put, List.setIfInBounds_toArray, List.set_cons_zero, List.set_cons_succ]); (refine takeD (i := 2) (some 10) rfl rfl (by kernel_rfl) (by kernel_rfl) (by kernel_rfl) (fun _ _ _ h => h) (v := ?_) rfl ?_ (by assumption) ?_; rotate_left; (focus (intro w hSw; (try dsimp only at hSw); first | (go_simp; done) | (go_simp; with_reducible rfl))); try simp only [Act.put, List.setIfInBounds_toArray, List.set_cons_zero, List.set_cons_succ]); (refine takeD (i := 3) (some 11) rfl rfl (by kernel_rfl) (by kernel_rfl) (by kernel_rfl) (fun _ _ _ h => h) (v := ?_) rfl ?_ (by assumption) ?_; rotate_left; (focus (intro w hSw; (try dsimp only at hSw); first | (go_simp; done) | (go_simp; with_reducible rfl))); try simp only [Act.put, List.setIfInBounds_toArray, List.set_cons_zero, List.set_cons_succ])
      refine wpAnyH_ready (rs := [1]) (by kernel_rfl) (by simp) ?_
      refine AllReadyH.cons (o := _) rfl (fun K hK => ?_) AllReadyH.nil
      go_simp
      (go_at_call 20; refine (HS.out _).mono ?_; rintro e w9 ⟨rfl, hb9⟩)
      exact ⟨rfl, (congrArg endI HZ2.out).symm, (HB.out.trans (hHeld.2.2.mono HB.out.size)).trans (hb9.mono (Nat.le_trans HB.out.size hHeld.2.2.size))⟩
    · have HS := hide (fun W => sright_ok s W (by omega))
      have r1 : ∀ (xs : Array Value) (W : World), Sem.run Tryd.prog (callFunc 39 xs) W = .ok (.enter 39 xs) W := enters_of Tryd.func39 (by kernel_rfl) rfl
      have HP : Hid (∀ W : World, Below w2.heap.size w2 W → Calls Tryd.prog 34 #[.string ⟨s.toArray⟩, .int .i64 f, .func (.func 39) #[] #[.pointer (some ⟨w1.heap.size, 0, none⟩)]] W fun e w' => e = endI (plS (anyL p) s f) ∧ Below W.heap.size W w') := fun W hW => placed_any s f 39 _ (anyL p) W (by omega) mf r1 (fun W' r hW' hr => cSearch1 w1.heap.size p r W' (HX.out.below (up9 hW hW')) HO.out (by omega))
      clear r1
      rw [HZ.out] at HP
      cases hz : Z with
      | none =>
        have HZ2 := hide hz
        rw [hz] at HP
        simp only [endI] at HP
        clear hz
        generalize (⟨p.toArray⟩ : ByteArray) = P at *
        generalize (⟨(openR p).toArray⟩ : ByteArray) = PO at *
        generalize (⟨s.toArray⟩ : ByteArray) = S at *
        refine wp_region_held_drew (S := fun W => W.cell? ⟨b1, 0, none⟩ = some (.string S) ∧ W.cell? ⟨b2, 0, none⟩ = some (.int .i64 f) ∧ Below w2.heap.size w2 W) (by kernel_rfl) ⟨K1.out, K2.out, (Below.refl _ _).drew⟩ (fun hHeld => ?_)
        (refine takeD (i := 0) (some 8) rfl rfl (by kernel_rfl) (by kernel_rfl) (by kernel_rfl) (fun _ _ _ h => h) (v := ?_) rfl ?_ (by assumption) ?_; rotate_left; (focus (intro w hSw; (try dsimp only at hSw); first | (go_simp; done) | (go_simp; with_reducible rfl))); try simp only [Act.put, List.setIfInBounds_toArray, List.set_cons_zero, List.set_cons_succ]); (refine takeD (i := 2) (some 10) rfl rfl (by kernel_rfl) (by kernel_rfl) (by kernel_rfl) (fun _ _ _ h => h) (v := ?_) rfl ?_ (by assumption) ?_; rotate_left; (focus (intro w hSw; (try dsimp only at hSw); first | (go_simp; done) | (go_simp; with_reducible rfl))); try simp only [Act.put, List.setIfInBounds_toArray, List.set_cons_zero, List.set_cons_succ]); (refine takeD (i := 3) (some 11) rfl rfl (by kernel_rfl) (by kernel_rfl) (by kernel_rfl) (fun _ _ _ h => h) (v := ?_) rfl ?_ (by assumption) ?_; rotate_left; (focus (intro w hSw; (try dsimp only at hSw); first | (go_simp; done) | (go_simp; with_reducible rfl))); try simp only [Act.put, List.setIfInBounds_toArray, List.set_cons_zero, List.set_cons_succ])
        refine wpAnyH_ready (rs := [1]) (by kernel_rfl) (by simp) ?_
        refine AllReadyH.cons (o := _) rfl (fun K hK => ?_) AllReadyH.nil
        go_simp
        (go_at_call 20; refine (HS.out _).mono ?_; rintro e w9 ⟨rfl, hb9⟩; have hB9 := up9 hHeld.2.2 hb9; have hS9 := And.intro (K1.out.below hB9) (And.intro (K2.out.below hB9) hB9); clear hb9 hB9)
        refine hK.out _ _ hS9 (fun hHeld => ?_)
        clear hK K
        try simp only [Act.put, List.setIfInBounds_toArray, List.set_cons_zero, List.set_cons_succ]
        refine wpAnyH_ready (rs := [4]) (by kernel_rfl) (by simp) ?_
        refine AllReadyH.cons (o := _) rfl (fun K hK => ?_) AllReadyH.nil
        go_simp
        (go_at_call 34; refine (HP.out _ hHeld.2.2).mono ?_; rintro e w8 ⟨rfl, hb8⟩)
        exact ⟨rfl, (congrArg endI HZ2.out).symm, (HB.out.trans (hHeld.2.2.mono HB.out.size)).trans (hb8.mono (Nat.le_trans HB.out.size hHeld.2.2.size))⟩
      | some z =>
        have HZ2 := hide hz
        rw [hz] at HP
        simp only [endI] at HP
        clear hz
        generalize (⟨p.toArray⟩ : ByteArray) = P at *
        generalize (⟨(openR p).toArray⟩ : ByteArray) = PO at *
        generalize (⟨s.toArray⟩ : ByteArray) = S at *
        refine wp_region_held_drew (S := fun W => W.cell? ⟨b1, 0, none⟩ = some (.string S) ∧ W.cell? ⟨b2, 0, none⟩ = some (.int .i64 f) ∧ Below w2.heap.size w2 W) (by kernel_rfl) ⟨K1.out, K2.out, (Below.refl _ _).drew⟩ (fun hHeld => ?_)
        (refine takeD (i := 0) (some 8) rfl rfl (by kernel_rfl) (by kernel_rfl) (by kernel_rfl) (fun _ _ _ h => h) (v := ?_) rfl ?_ (by assumption) ?_; rotate_left; (focus (intro w hSw; (try dsimp only at hSw); first | (go_simp; done) | (go_simp; with_reducible rfl))); try simp only [Act.put, List.setIfInBounds_toArray, List.set_cons_zero, List.set_cons_succ]); (refine takeD (i := 2) (some 10) rfl rfl (by kernel_rfl) (by kernel_rfl) (by kernel_rfl) (fun _ _ _ h => h) (v := ?_) rfl ?_ (by assumption) ?_; rotate_left; (focus (intro w hSw; (try dsimp only at hSw); first | (go_simp; done) | (go_simp; with_reducible rfl))); try simp only [Act.put, List.setIfInBounds_toArray, List.set_cons_zero, List.set_cons_succ]); (refine takeD (i := 3) (some 11) rfl rfl (by kernel_rfl) (by kernel_rfl) (by kernel_rfl) (fun _ _ _ h => h) (v := ?_) rfl ?_ (by assumption) ?_; rotate_left; (focus (intro w hSw; (try dsimp only at hSw); first | (go_simp; done) | (go_simp; with_reducible rfl))); try simp only [Act.put, List.setIfInBounds_toArray, List.set_cons_zero, List.set_cons_succ])
        refine wpAnyH_ready (rs := [1]) (by kernel_rfl) (by simp) ?_
        refine AllReadyH.cons (o := _) rfl (fun K hK => ?_) AllReadyH.nil
        go_simp
        (go_at_call 20; refine (HS.out _).mono ?_; rintro e w9 ⟨rfl, hb9⟩; have hB9 := up9 hHeld.2.2 hb9; have hS9 := And.intro (K1.out.below hB9) (And.intro (K2.out.below hB9) hB9); clear hb9 hB9)
        refine hK.out _ _ hS9 (fun hHeld => ?_)
        clear hK K
        try simp only [Act.put, List.setIfInBounds_toArray, List.set_cons_zero, List.set_cons_succ]
        refine wpAnyH_ready (rs := [4]) (by kernel_rfl) (by simp) ?_
        refine AllReadyH.cons (o := _) rfl (fun K hK => ?_) AllReadyH.nil
        go_simp
        (go_at_call 34; refine (HP.out _ hHeld.2.2).mono ?_; rintro e w8 ⟨rfl, hb8⟩; have hB8 := up9 hHeld.2.2 hb8; have hS8 := And.intro (K1.out.below hB8) (And.intro (K2.out.below hB8) hB8); clear hb8 hB8)
        refine hK.out _ _ hS8 (fun hHeld => ?_)
        clear hK K
        try simp only [Act.put, List.setIfInBounds_toArray, List.set_cons_zero, List.set_cons_succ]
        (refine takeD (i := 5) (some 3) rfl rfl (by kernel_rfl) (by kernel_rfl) (by kernel_rfl) (fun _ _ _ h => h) (v := ?_) rfl ?_ (by assumption) ?_; rotate_left; (focus (intro w hSw; (try dsimp only at hSw); first | (go_simp; done) | (go_simp; with_reducible rfl))); try simp only [Act.put, List.setIfInBounds_toArray, List.set_cons_zero, List.set_cons_succ])
        refine wpAnyH_done (by kernel_rfl) ?_ _
        go_wp2
        go_ret
        exact ⟨(congrArg endI HZ2.out).symm, HB.out.trans (hHeld.2.2.mono HB.out.size)⟩
end Go.Proofs.YthooimaadgabiabDoor
