/-
  What strs' calls hand to told: closures over their arguments' boxes (e).
-/
import Derived.Test.YthooimaadgabiabDoorSt8
namespace Go.Proofs.YthooimaadgabiabDoor
open Go.RowKit
set_option linter.unusedSimpArgs false
set_option linter.unusedVariables false

set_option maxRecDepth 100000 in
set_option maxHeartbeats 4000000 in
theorem cSubst (b0 b1 b2 b3 : Nat) (s o v : By) (k : Int) (w : World) (h0 : Bx w b0 (.string ⟨s.toArray⟩)) (h1 : Bx w b1 (.string ⟨o.toArray⟩)) (h2 : Bx w b2 (.string ⟨v.toArray⟩)) (h3 : Bx w b3 (.int .i64 k)) (ms : s.length ≤ maxLen) (mo : o.length ≤ maxLen) (mv : v.length ≤ maxLen) (hc : CellOk w) :
    Calls Tryd.prog 41 #[.pointer (some ⟨b0, 0, none⟩), .pointer (some ⟨b1, 0, none⟩), .pointer (some ⟨b2, 0, none⟩), .pointer (some ⟨b3, 0, none⟩)] w fun e w' => e = endT (sbS s o v k) ∧ Below w.heap.size w w' := by
  have hmf : ∀ (fn : Fn) (first cap : Array Value) (w : World), (Instr.makeFunc fn first cap).run Tryd.prog w = .ok (.func fn first cap) w := fun _ _ _ _ => rfl
  have H0 := hide h0
  have c0 : w.cell? ⟨b0, 0, none⟩ = some (.string ⟨s.toArray⟩) := h0
  have H1 := hide h1
  have c1 : w.cell? ⟨b1, 0, none⟩ = some (.string ⟨o.toArray⟩) := h1
  have H2 := hide h2
  have c2 : w.cell? ⟨b2, 0, none⟩ = some (.string ⟨v.toArray⟩) := h2
  have H3 := hide h3
  have c3 : w.cell? ⟨b3, 0, none⟩ = some (.int .i64 k) := h3
  by_cases ks : 255 < s.length
  · have HR : Hid (∀ W : World, Calls Tryd.prog 20 #[.string ⟨s.toArray⟩] W fun e w' => e = .panicked RF ∧ Below W.heap.size W w') := fun W => sright_no s W ks ms
    rw [show sbS s o v k = none from if_pos (by omega)]
    clear h0 h1 h2 h3 ks hc
    generalize (⟨s.toArray⟩ : ByteArray) = S at *
    generalize (⟨o.toArray⟩ : ByteArray) = O at *
    generalize (⟨v.toArray⟩ : ByteArray) = V at *
    go_enter Tryd.func41, Tryd.ntmps41
    go_wp2
    refine wp_region_held_drew (S := fun W => W.cell? ⟨b0, 0, none⟩ = some (.string S) ∧ W.cell? ⟨b1, 0, none⟩ = some (.string O) ∧ W.cell? ⟨b2, 0, none⟩ = some (.string V) ∧ W.cell? ⟨b3, 0, none⟩ = some (.int .i64 k) ∧ Below w.heap.size w W) (by kernel_rfl) ⟨H0.out, H1.out, H2.out, H3.out, (Below.refl _ _).drew⟩ (fun hHeld => ?_)
    (refine takeD (i := 0) (some 5) rfl rfl (by kernel_rfl) (by kernel_rfl) (by kernel_rfl) (fun _ _ _ h => h) (v := ?_) rfl ?_ (by assumption) ?_; rotate_left; (focus (intro w hSw; (try dsimp only at hSw); first | (go_simp; done) | (go_simp; with_reducible rfl))); try simp only [Act.put, List.setIfInBounds_toArray, List.set_cons_zero, List.set_cons_succ])
    (refine takeD (i := 2) (some 7) rfl rfl (by kernel_rfl) (by kernel_rfl) (by kernel_rfl) (fun _ _ _ h => h) (v := ?_) rfl ?_ (by assumption) ?_; rotate_left; (focus (intro w hSw; (try dsimp only at hSw); first | (go_simp; done) | (go_simp; with_reducible rfl))); try simp only [Act.put, List.setIfInBounds_toArray, List.set_cons_zero, List.set_cons_succ])
    (refine takeD (i := 4) (some 9) rfl rfl (by kernel_rfl) (by kernel_rfl) (by kernel_rfl) (fun _ _ _ h => h) (v := ?_) rfl ?_ (by assumption) ?_; rotate_left; (focus (intro w hSw; (try dsimp only at hSw); first | (go_simp; done) | (go_simp; with_reducible rfl))); try simp only [Act.put, List.setIfInBounds_toArray, List.set_cons_zero, List.set_cons_succ])
    (refine takeD (i := 6) (some 11) rfl rfl (by kernel_rfl) (by kernel_rfl) (by kernel_rfl) (fun _ _ _ h => h) (v := ?_) rfl ?_ (by assumption) ?_; rotate_left; (focus (intro w hSw; (try dsimp only at hSw); first | (go_simp; done) | (go_simp; with_reducible rfl))); try simp only [Act.put, List.setIfInBounds_toArray, List.set_cons_zero, List.set_cons_succ])
    refine wpAnyH_ready (rs := [1]) (by kernel_rfl) (by simp) ?_
    refine AllReadyH.cons (o := _) rfl (fun K hK => ?_) AllReadyH.nil
    go_simp
    (go_at_call 20; refine (HR.out _).mono ?_; rintro e w9 ⟨rfl, hb9⟩; exact ⟨rfl, rfl, hHeld.2.2.2.2.trans (hb9.mono hHeld.2.2.2.2.size)⟩)
  · by_cases ko : 255 < o.length
    · have HR : Hid (∀ W : World, Calls Tryd.prog 20 #[.string ⟨s.toArray⟩] W fun e w' => e = .returned (.string ⟨s.toArray⟩) ∧ Below W.heap.size W w') := fun W => sright_ok s W (by omega)
      have HO : Hid (∀ W : World, Calls Tryd.prog 20 #[.string ⟨o.toArray⟩] W fun e w' => e = .panicked RF ∧ Below W.heap.size W w') := fun W => sright_no o W ko mo
      rw [show sbS s o v k = none from if_pos (by omega)]
      clear h0 h1 h2 h3 ks ko hc
      generalize (⟨s.toArray⟩ : ByteArray) = S at *
      generalize (⟨o.toArray⟩ : ByteArray) = O at *
      generalize (⟨v.toArray⟩ : ByteArray) = V at *
      go_enter Tryd.func41, Tryd.ntmps41
      go_wp2
      refine wp_region_held_drew (S := fun W => W.cell? ⟨b0, 0, none⟩ = some (.string S) ∧ W.cell? ⟨b1, 0, none⟩ = some (.string O) ∧ W.cell? ⟨b2, 0, none⟩ = some (.string V) ∧ W.cell? ⟨b3, 0, none⟩ = some (.int .i64 k) ∧ Below w.heap.size w W) (by kernel_rfl) ⟨H0.out, H1.out, H2.out, H3.out, (Below.refl _ _).drew⟩ (fun hHeld => ?_)
      (refine takeD (i := 0) (some 5) rfl rfl (by kernel_rfl) (by kernel_rfl) (by kernel_rfl) (fun _ _ _ h => h) (v := ?_) rfl ?_ (by assumption) ?_; rotate_left; (focus (intro w hSw; (try dsimp only at hSw); first | (go_simp; done) | (go_simp; with_reducible rfl))); try simp only [Act.put, List.setIfInBounds_toArray, List.set_cons_zero, List.set_cons_succ])
      (refine takeD (i := 2) (some 7) rfl rfl (by kernel_rfl) (by kernel_rfl) (by kernel_rfl) (fun _ _ _ h => h) (v := ?_) rfl ?_ (by assumption) ?_; rotate_left; (focus (intro w hSw; (try dsimp only at hSw); first | (go_simp; done) | (go_simp; with_reducible rfl))); try simp only [Act.put, List.setIfInBounds_toArray, List.set_cons_zero, List.set_cons_succ])
      (refine takeD (i := 4) (some 9) rfl rfl (by kernel_rfl) (by kernel_rfl) (by kernel_rfl) (fun _ _ _ h => h) (v := ?_) rfl ?_ (by assumption) ?_; rotate_left; (focus (intro w hSw; (try dsimp only at hSw); first | (go_simp; done) | (go_simp; with_reducible rfl))); try simp only [Act.put, List.setIfInBounds_toArray, List.set_cons_zero, List.set_cons_succ])
      (refine takeD (i := 6) (some 11) rfl rfl (by kernel_rfl) (by kernel_rfl) (by kernel_rfl) (fun _ _ _ h => h) (v := ?_) rfl ?_ (by assumption) ?_; rotate_left; (focus (intro w hSw; (try dsimp only at hSw); first | (go_simp; done) | (go_simp; with_reducible rfl))); try simp only [Act.put, List.setIfInBounds_toArray, List.set_cons_zero, List.set_cons_succ])
      refine wpAnyH_ready (rs := [1]) (by kernel_rfl) (by simp) ?_
      refine AllReadyH.cons (o := _) rfl (fun K hK => ?_) AllReadyH.nil
      go_simp
      (go_at_call 20; refine (HR.out _).mono ?_; rintro e w9 ⟨rfl, hb9⟩; have hB9 := hHeld.2.2.2.2.trans (hb9.mono hHeld.2.2.2.2.size); have hS9 := And.intro (H0.out.below hB9) (And.intro (H1.out.below hB9) (And.intro (H2.out.below hB9) (And.intro (H3.out.below hB9) hB9))); clear hb9 hB9)
      refine hK.out _ _ hS9 (fun hHeld => ?_)
      clear hK K
      try simp only [Act.put, List.setIfInBounds_toArray, List.set_cons_zero, List.set_cons_succ]
      refine wpAnyH_ready (rs := [3]) (by kernel_rfl) (by simp) ?_
      refine AllReadyH.cons (o := _) rfl (fun K hK => ?_) AllReadyH.nil
      go_simp
      (go_at_call 20; refine (HO.out _).mono ?_; rintro e w9 ⟨rfl, hb9⟩; exact ⟨rfl, rfl, hHeld.2.2.2.2.trans (hb9.mono hHeld.2.2.2.2.size)⟩)
    · by_cases kv : 255 < v.length
      · have HR : Hid (∀ W : World, Calls Tryd.prog 20 #[.string ⟨s.toArray⟩] W fun e w' => e = .returned (.string ⟨s.toArray⟩) ∧ Below W.heap.size W w') := fun W => sright_ok s W (by omega)
        have HO : Hid (∀ W : World, Calls Tryd.prog 20 #[.string ⟨o.toArray⟩] W fun e w' => e = .returned (.string ⟨o.toArray⟩) ∧ Below W.heap.size W w') := fun W => sright_ok o W (by omega)
        have HW : Hid (∀ W : World, Calls Tryd.prog 20 #[.string ⟨v.toArray⟩] W fun e w' => e = .panicked RF ∧ Below W.heap.size W w') := fun W => sright_no v W kv mv
        rw [show sbS s o v k = none from if_pos (by omega)]
        clear h0 h1 h2 h3 ks ko kv hc
        generalize (⟨s.toArray⟩ : ByteArray) = S at *
        generalize (⟨o.toArray⟩ : ByteArray) = O at *
        generalize (⟨v.toArray⟩ : ByteArray) = V at *
        go_enter Tryd.func41, Tryd.ntmps41
        go_wp2
        refine wp_region_held_drew (S := fun W => W.cell? ⟨b0, 0, none⟩ = some (.string S) ∧ W.cell? ⟨b1, 0, none⟩ = some (.string O) ∧ W.cell? ⟨b2, 0, none⟩ = some (.string V) ∧ W.cell? ⟨b3, 0, none⟩ = some (.int .i64 k) ∧ Below w.heap.size w W) (by kernel_rfl) ⟨H0.out, H1.out, H2.out, H3.out, (Below.refl _ _).drew⟩ (fun hHeld => ?_)
        (refine takeD (i := 0) (some 5) rfl rfl (by kernel_rfl) (by kernel_rfl) (by kernel_rfl) (fun _ _ _ h => h) (v := ?_) rfl ?_ (by assumption) ?_; rotate_left; (focus (intro w hSw; (try dsimp only at hSw); first | (go_simp; done) | (go_simp; with_reducible rfl))); try simp only [Act.put, List.setIfInBounds_toArray, List.set_cons_zero, List.set_cons_succ])
        (refine takeD (i := 2) (some 7) rfl rfl (by kernel_rfl) (by kernel_rfl) (by kernel_rfl) (fun _ _ _ h => h) (v := ?_) rfl ?_ (by assumption) ?_; rotate_left; (focus (intro w hSw; (try dsimp only at hSw); first | (go_simp; done) | (go_simp; with_reducible rfl))); try simp only [Act.put, List.setIfInBounds_toArray, List.set_cons_zero, List.set_cons_succ])
        (refine takeD (i := 4) (some 9) rfl rfl (by kernel_rfl) (by kernel_rfl) (by kernel_rfl) (fun _ _ _ h => h) (v := ?_) rfl ?_ (by assumption) ?_; rotate_left; (focus (intro w hSw; (try dsimp only at hSw); first | (go_simp; done) | (go_simp; with_reducible rfl))); try simp only [Act.put, List.setIfInBounds_toArray, List.set_cons_zero, List.set_cons_succ])
        (refine takeD (i := 6) (some 11) rfl rfl (by kernel_rfl) (by kernel_rfl) (by kernel_rfl) (fun _ _ _ h => h) (v := ?_) rfl ?_ (by assumption) ?_; rotate_left; (focus (intro w hSw; (try dsimp only at hSw); first | (go_simp; done) | (go_simp; with_reducible rfl))); try simp only [Act.put, List.setIfInBounds_toArray, List.set_cons_zero, List.set_cons_succ])
        refine wpAnyH_ready (rs := [1]) (by kernel_rfl) (by simp) ?_
        refine AllReadyH.cons (o := _) rfl (fun K hK => ?_) AllReadyH.nil
        go_simp
        (go_at_call 20; refine (HR.out _).mono ?_; rintro e w9 ⟨rfl, hb9⟩; have hB9 := hHeld.2.2.2.2.trans (hb9.mono hHeld.2.2.2.2.size); have hS9 := And.intro (H0.out.below hB9) (And.intro (H1.out.below hB9) (And.intro (H2.out.below hB9) (And.intro (H3.out.below hB9) hB9))); clear hb9 hB9)
        refine hK.out _ _ hS9 (fun hHeld => ?_)
        clear hK K
        try simp only [Act.put, List.setIfInBounds_toArray, List.set_cons_zero, List.set_cons_succ]
        refine wpAnyH_ready (rs := [3]) (by kernel_rfl) (by simp) ?_
        refine AllReadyH.cons (o := _) rfl (fun K hK => ?_) AllReadyH.nil
        go_simp
        (go_at_call 20; refine (HO.out _).mono ?_; rintro e w9 ⟨rfl, hb9⟩; have hB9 := hHeld.2.2.2.2.trans (hb9.mono hHeld.2.2.2.2.size); have hS9 := And.intro (H0.out.below hB9) (And.intro (H1.out.below hB9) (And.intro (H2.out.below hB9) (And.intro (H3.out.below hB9) hB9))); clear hb9 hB9)
        refine hK.out _ _ hS9 (fun hHeld => ?_)
        clear hK K
        try simp only [Act.put, List.setIfInBounds_toArray, List.set_cons_zero, List.set_cons_succ]
        refine wpAnyH_ready (rs := [5]) (by kernel_rfl) (by simp) ?_
        refine AllReadyH.cons (o := _) rfl (fun K hK => ?_) AllReadyH.nil
        go_simp
        (go_at_call 20; refine (HW.out _).mono ?_; rintro e w9 ⟨rfl, hb9⟩; exact ⟨rfl, rfl, hHeld.2.2.2.2.trans (hb9.mono hHeld.2.2.2.2.size)⟩)
      · by_cases kk : k < 0
        · have HR : Hid (∀ W : World, Calls Tryd.prog 20 #[.string ⟨s.toArray⟩] W fun e w' => e = .returned (.string ⟨s.toArray⟩) ∧ Below W.heap.size W w') := fun W => sright_ok s W (by omega)
          have HO : Hid (∀ W : World, Calls Tryd.prog 20 #[.string ⟨o.toArray⟩] W fun e w' => e = .returned (.string ⟨o.toArray⟩) ∧ Below W.heap.size W w') := fun W => sright_ok o W (by omega)
          have HW : Hid (∀ W : World, Calls Tryd.prog 20 #[.string ⟨v.toArray⟩] W fun e w' => e = .returned (.string ⟨v.toArray⟩) ∧ Below W.heap.size W w') := fun W => sright_ok v W (by omega)
          have HC : Hid (∀ W : World, Calls Tryd.prog 22 #[.int .i64 k] W fun e w' => e = .panicked RF ∧ w' = W) := fun W => count_no k W kk
          rw [show sbS s o v k = none from if_pos (by omega)]
          clear h0 h1 h2 h3 ks ko kv kk hc
          generalize (⟨s.toArray⟩ : ByteArray) = S at *
          generalize (⟨o.toArray⟩ : ByteArray) = O at *
          generalize (⟨v.toArray⟩ : ByteArray) = V at *
          go_enter Tryd.func41, Tryd.ntmps41
          go_wp2
          refine wp_region_held_drew (S := fun W => W.cell? ⟨b0, 0, none⟩ = some (.string S) ∧ W.cell? ⟨b1, 0, none⟩ = some (.string O) ∧ W.cell? ⟨b2, 0, none⟩ = some (.string V) ∧ W.cell? ⟨b3, 0, none⟩ = some (.int .i64 k) ∧ Below w.heap.size w W) (by kernel_rfl) ⟨H0.out, H1.out, H2.out, H3.out, (Below.refl _ _).drew⟩ (fun hHeld => ?_)
          (refine takeD (i := 0) (some 5) rfl rfl (by kernel_rfl) (by kernel_rfl) (by kernel_rfl) (fun _ _ _ h => h) (v := ?_) rfl ?_ (by assumption) ?_; rotate_left; (focus (intro w hSw; (try dsimp only at hSw); first | (go_simp; done) | (go_simp; with_reducible rfl))); try simp only [Act.put, List.setIfInBounds_toArray, List.set_cons_zero, List.set_cons_succ])
          (refine takeD (i := 2) (some 7) rfl rfl (by kernel_rfl) (by kernel_rfl) (by kernel_rfl) (fun _ _ _ h => h) (v := ?_) rfl ?_ (by assumption) ?_; rotate_left; (focus (intro w hSw; (try dsimp only at hSw); first | (go_simp; done) | (go_simp; with_reducible rfl))); try simp only [Act.put, List.setIfInBounds_toArray, List.set_cons_zero, List.set_cons_succ])
          (refine takeD (i := 4) (some 9) rfl rfl (by kernel_rfl) (by kernel_rfl) (by kernel_rfl) (fun _ _ _ h => h) (v := ?_) rfl ?_ (by assumption) ?_; rotate_left; (focus (intro w hSw; (try dsimp only at hSw); first | (go_simp; done) | (go_simp; with_reducible rfl))); try simp only [Act.put, List.setIfInBounds_toArray, List.set_cons_zero, List.set_cons_succ])
          (refine takeD (i := 6) (some 11) rfl rfl (by kernel_rfl) (by kernel_rfl) (by kernel_rfl) (fun _ _ _ h => h) (v := ?_) rfl ?_ (by assumption) ?_; rotate_left; (focus (intro w hSw; (try dsimp only at hSw); first | (go_simp; done) | (go_simp; with_reducible rfl))); try simp only [Act.put, List.setIfInBounds_toArray, List.set_cons_zero, List.set_cons_succ])
          refine wpAnyH_ready (rs := [1]) (by kernel_rfl) (by simp) ?_
          refine AllReadyH.cons (o := _) rfl (fun K hK => ?_) AllReadyH.nil
          go_simp
          (go_at_call 20; refine (HR.out _).mono ?_; rintro e w9 ⟨rfl, hb9⟩; have hB9 := hHeld.2.2.2.2.trans (hb9.mono hHeld.2.2.2.2.size); have hS9 := And.intro (H0.out.below hB9) (And.intro (H1.out.below hB9) (And.intro (H2.out.below hB9) (And.intro (H3.out.below hB9) hB9))); clear hb9 hB9)
          refine hK.out _ _ hS9 (fun hHeld => ?_)
          clear hK K
          try simp only [Act.put, List.setIfInBounds_toArray, List.set_cons_zero, List.set_cons_succ]
          refine wpAnyH_ready (rs := [3]) (by kernel_rfl) (by simp) ?_
          refine AllReadyH.cons (o := _) rfl (fun K hK => ?_) AllReadyH.nil
          go_simp
          (go_at_call 20; refine (HO.out _).mono ?_; rintro e w9 ⟨rfl, hb9⟩; have hB9 := hHeld.2.2.2.2.trans (hb9.mono hHeld.2.2.2.2.size); have hS9 := And.intro (H0.out.below hB9) (And.intro (H1.out.below hB9) (And.intro (H2.out.below hB9) (And.intro (H3.out.below hB9) hB9))); clear hb9 hB9)
          refine hK.out _ _ hS9 (fun hHeld => ?_)
          clear hK K
          try simp only [Act.put, List.setIfInBounds_toArray, List.set_cons_zero, List.set_cons_succ]
          refine wpAnyH_ready (rs := [5]) (by kernel_rfl) (by simp) ?_
          refine AllReadyH.cons (o := _) rfl (fun K hK => ?_) AllReadyH.nil
          go_simp
          (go_at_call 20; refine (HW.out _).mono ?_; rintro e w9 ⟨rfl, hb9⟩; have hB9 := hHeld.2.2.2.2.trans (hb9.mono hHeld.2.2.2.2.size); have hS9 := And.intro (H0.out.below hB9) (And.intro (H1.out.below hB9) (And.intro (H2.out.below hB9) (And.intro (H3.out.below hB9) hB9))); clear hb9 hB9)
          refine hK.out _ _ hS9 (fun hHeld => ?_)
          clear hK K
          try simp only [Act.put, List.setIfInBounds_toArray, List.set_cons_zero, List.set_cons_succ]
          refine wpAnyH_ready (rs := [7]) (by kernel_rfl) (by simp) ?_
          refine AllReadyH.cons (o := _) rfl (fun K hK => ?_) AllReadyH.nil
          go_simp
          (go_at_call 22; refine (HC.out _).mono ?_; rintro e w9 ⟨rfl, rfl⟩; exact ⟨rfl, rfl, hHeld.2.2.2.2⟩)
        · have HR : Hid (∀ W : World, Calls Tryd.prog 20 #[.string ⟨s.toArray⟩] W fun e w' => e = .returned (.string ⟨s.toArray⟩) ∧ Below W.heap.size W w') := fun W => sright_ok s W (by omega)
          have HO : Hid (∀ W : World, Calls Tryd.prog 20 #[.string ⟨o.toArray⟩] W fun e w' => e = .returned (.string ⟨o.toArray⟩) ∧ Below W.heap.size W w') := fun W => sright_ok o W (by omega)
          have HW : Hid (∀ W : World, Calls Tryd.prog 20 #[.string ⟨v.toArray⟩] W fun e w' => e = .returned (.string ⟨v.toArray⟩) ∧ Below W.heap.size W w') := fun W => sright_ok v W (by omega)
          have HC : Hid (∀ W : World, Calls Tryd.prog 22 #[.int .i64 k] W fun e w' => e = .returned (.int .i64 k) ∧ w' = W) := fun W => count_ok k W (by omega)
          obtain ⟨K, rfl⟩ : ∃ K : Nat, k = K := ⟨k.toNat, by omega⟩
          have hz : sbS s o v (K : Int) = capS ((allP s o).foldl (putP o v K) []) := by
            rw [sub_all]
            unfold sbS
            rw [if_neg (by omega), Int.toNat_natCast]
            by_cases ho : o = []
            · rw [if_pos ho, if_pos ho, cap_yes (by omega)]
            · rw [if_neg ho, if_neg ho]
          rw [hz]
          clear hz
          have HP0 : Hid (∀ W : World, Below w.heap.size w W → Calls Tryd.prog 42 #[.string ⟨s.toArray⟩, .string ⟨o.toArray⟩, .string ⟨v.toArray⟩, .int .i64 (K : Int)] W fun e w' => e = endT (capS ((allP s o).foldl (putP o v K) [])) ∧ Below W.heap.size W w') := fun W hW => substituted_any s o v K W (by omega) (cellOk_below hc hW)
          generalize capS ((allP s o).foldl (putP o v K) []) = Z at *
          cases Z with
          | none =>
            have HP : Hid (∀ W : World, Below w.heap.size w W → Calls Tryd.prog 42 #[.string ⟨s.toArray⟩, .string ⟨o.toArray⟩, .string ⟨v.toArray⟩, .int .i64 (K : Int)] W fun e w' => e = .panicked RF ∧ Below W.heap.size W w') := HP0
            clear HP0
            simp only [endT]
            clear h0 h1 h2 h3 ks ko kv kk hc
            generalize (⟨s.toArray⟩ : ByteArray) = S at *
            generalize (⟨o.toArray⟩ : ByteArray) = O at *
            generalize (⟨v.toArray⟩ : ByteArray) = V at *
            go_enter Tryd.func41, Tryd.ntmps41
            go_wp2
            refine wp_region_held_drew (S := fun W => W.cell? ⟨b0, 0, none⟩ = some (.string S) ∧ W.cell? ⟨b1, 0, none⟩ = some (.string O) ∧ W.cell? ⟨b2, 0, none⟩ = some (.string V) ∧ W.cell? ⟨b3, 0, none⟩ = some (.int .i64 (K : Int)) ∧ Below w.heap.size w W) (by kernel_rfl) ⟨H0.out, H1.out, H2.out, H3.out, (Below.refl _ _).drew⟩ (fun hHeld => ?_)
            (refine takeD (i := 0) (some 5) rfl rfl (by kernel_rfl) (by kernel_rfl) (by kernel_rfl) (fun _ _ _ h => h) (v := ?_) rfl ?_ (by assumption) ?_; rotate_left; (focus (intro w hSw; (try dsimp only at hSw); first | (go_simp; done) | (go_simp; with_reducible rfl))); try simp only [Act.put, List.setIfInBounds_toArray, List.set_cons_zero, List.set_cons_succ])
            (refine takeD (i := 2) (some 7) rfl rfl (by kernel_rfl) (by kernel_rfl) (by kernel_rfl) (fun _ _ _ h => h) (v := ?_) rfl ?_ (by assumption) ?_; rotate_left; (focus (intro w hSw; (try dsimp only at hSw); first | (go_simp; done) | (go_simp; with_reducible rfl))); try simp only [Act.put, List.setIfInBounds_toArray, List.set_cons_zero, List.set_cons_succ])
            (refine takeD (i := 4) (some 9) rfl rfl (by kernel_rfl) (by kernel_rfl) (by kernel_rfl) (fun _ _ _ h => h) (v := ?_) rfl ?_ (by assumption) ?_; rotate_left; (focus (intro w hSw; (try dsimp only at hSw); first | (go_simp; done) | (go_simp; with_reducible rfl))); try simp only [Act.put, List.setIfInBounds_toArray, List.set_cons_zero, List.set_cons_succ])
            (refine takeD (i := 6) (some 11) rfl rfl (by kernel_rfl) (by kernel_rfl) (by kernel_rfl) (fun _ _ _ h => h) (v := ?_) rfl ?_ (by assumption) ?_; rotate_left; (focus (intro w hSw; (try dsimp only at hSw); first | (go_simp; done) | (go_simp; with_reducible rfl))); try simp only [Act.put, List.setIfInBounds_toArray, List.set_cons_zero, List.set_cons_succ])
            refine wpAnyH_ready (rs := [1]) (by kernel_rfl) (by simp) ?_
            refine AllReadyH.cons (o := _) rfl (fun K hK => ?_) AllReadyH.nil
            go_simp
            (go_at_call 20; refine (HR.out _).mono ?_; rintro e w9 ⟨rfl, hb9⟩; have hB9 := hHeld.2.2.2.2.trans (hb9.mono hHeld.2.2.2.2.size); have hS9 := And.intro (H0.out.below hB9) (And.intro (H1.out.below hB9) (And.intro (H2.out.below hB9) (And.intro (H3.out.below hB9) hB9))); clear hb9 hB9)
            refine hK.out _ _ hS9 (fun hHeld => ?_)
            clear hK K
            try simp only [Act.put, List.setIfInBounds_toArray, List.set_cons_zero, List.set_cons_succ]
            refine wpAnyH_ready (rs := [3]) (by kernel_rfl) (by simp) ?_
            refine AllReadyH.cons (o := _) rfl (fun K hK => ?_) AllReadyH.nil
            go_simp
            (go_at_call 20; refine (HO.out _).mono ?_; rintro e w9 ⟨rfl, hb9⟩; have hB9 := hHeld.2.2.2.2.trans (hb9.mono hHeld.2.2.2.2.size); have hS9 := And.intro (H0.out.below hB9) (And.intro (H1.out.below hB9) (And.intro (H2.out.below hB9) (And.intro (H3.out.below hB9) hB9))); clear hb9 hB9)
            refine hK.out _ _ hS9 (fun hHeld => ?_)
            clear hK K
            try simp only [Act.put, List.setIfInBounds_toArray, List.set_cons_zero, List.set_cons_succ]
            refine wpAnyH_ready (rs := [5]) (by kernel_rfl) (by simp) ?_
            refine AllReadyH.cons (o := _) rfl (fun K hK => ?_) AllReadyH.nil
            go_simp
            (go_at_call 20; refine (HW.out _).mono ?_; rintro e w9 ⟨rfl, hb9⟩; have hB9 := hHeld.2.2.2.2.trans (hb9.mono hHeld.2.2.2.2.size); have hS9 := And.intro (H0.out.below hB9) (And.intro (H1.out.below hB9) (And.intro (H2.out.below hB9) (And.intro (H3.out.below hB9) hB9))); clear hb9 hB9)
            refine hK.out _ _ hS9 (fun hHeld => ?_)
            clear hK K
            try simp only [Act.put, List.setIfInBounds_toArray, List.set_cons_zero, List.set_cons_succ]
            refine wpAnyH_ready (rs := [7]) (by kernel_rfl) (by simp) ?_
            refine AllReadyH.cons (o := _) rfl (fun K hK => ?_) AllReadyH.nil
            go_simp
            (go_at_call 22; refine (HC.out _).mono ?_; rintro e w9 ⟨rfl, rfl⟩)
            refine hK.out _ _ hHeld (fun hHeld => ?_)
            clear hK K
            try simp only [Act.put, List.setIfInBounds_toArray, List.set_cons_zero, List.set_cons_succ]
            refine wpAnyH_ready (rs := [8]) (by kernel_rfl) (by simp) ?_
            refine AllReadyH.cons (o := _) rfl (fun K hK => ?_) AllReadyH.nil
            go_simp
            (go_at_call 42; refine (HP.out _ hHeld.2.2.2.2).mono ?_; rintro e w9 ⟨rfl, hb9⟩; exact ⟨rfl, rfl, hHeld.2.2.2.2.trans (hb9.mono hHeld.2.2.2.2.size)⟩)
          | some z =>
            have HP : Hid (∀ W : World, Below w.heap.size w W → Calls Tryd.prog 42 #[.string ⟨s.toArray⟩, .string ⟨o.toArray⟩, .string ⟨v.toArray⟩, .int .i64 (K : Int)] W fun e w' => e = .returned (.string ⟨z.toArray⟩) ∧ Below W.heap.size W w') := HP0
            clear HP0
            simp only [endT]
            generalize (⟨z.toArray⟩ : ByteArray) = ZB at *
            clear h0 h1 h2 h3 ks ko kv kk hc
            generalize (⟨s.toArray⟩ : ByteArray) = S at *
            generalize (⟨o.toArray⟩ : ByteArray) = O at *
            generalize (⟨v.toArray⟩ : ByteArray) = V at *
            go_enter Tryd.func41, Tryd.ntmps41
            go_wp2
            refine wp_region_held_drew (S := fun W => W.cell? ⟨b0, 0, none⟩ = some (.string S) ∧ W.cell? ⟨b1, 0, none⟩ = some (.string O) ∧ W.cell? ⟨b2, 0, none⟩ = some (.string V) ∧ W.cell? ⟨b3, 0, none⟩ = some (.int .i64 (K : Int)) ∧ Below w.heap.size w W) (by kernel_rfl) ⟨H0.out, H1.out, H2.out, H3.out, (Below.refl _ _).drew⟩ (fun hHeld => ?_)
            (refine takeD (i := 0) (some 5) rfl rfl (by kernel_rfl) (by kernel_rfl) (by kernel_rfl) (fun _ _ _ h => h) (v := ?_) rfl ?_ (by assumption) ?_; rotate_left; (focus (intro w hSw; (try dsimp only at hSw); first | (go_simp; done) | (go_simp; with_reducible rfl))); try simp only [Act.put, List.setIfInBounds_toArray, List.set_cons_zero, List.set_cons_succ])
            (refine takeD (i := 2) (some 7) rfl rfl (by kernel_rfl) (by kernel_rfl) (by kernel_rfl) (fun _ _ _ h => h) (v := ?_) rfl ?_ (by assumption) ?_; rotate_left; (focus (intro w hSw; (try dsimp only at hSw); first | (go_simp; done) | (go_simp; with_reducible rfl))); try simp only [Act.put, List.setIfInBounds_toArray, List.set_cons_zero, List.set_cons_succ])
            (refine takeD (i := 4) (some 9) rfl rfl (by kernel_rfl) (by kernel_rfl) (by kernel_rfl) (fun _ _ _ h => h) (v := ?_) rfl ?_ (by assumption) ?_; rotate_left; (focus (intro w hSw; (try dsimp only at hSw); first | (go_simp; done) | (go_simp; with_reducible rfl))); try simp only [Act.put, List.setIfInBounds_toArray, List.set_cons_zero, List.set_cons_succ])
            (refine takeD (i := 6) (some 11) rfl rfl (by kernel_rfl) (by kernel_rfl) (by kernel_rfl) (fun _ _ _ h => h) (v := ?_) rfl ?_ (by assumption) ?_; rotate_left; (focus (intro w hSw; (try dsimp only at hSw); first | (go_simp; done) | (go_simp; with_reducible rfl))); try simp only [Act.put, List.setIfInBounds_toArray, List.set_cons_zero, List.set_cons_succ])
            refine wpAnyH_ready (rs := [1]) (by kernel_rfl) (by simp) ?_
            refine AllReadyH.cons (o := _) rfl (fun K hK => ?_) AllReadyH.nil
            go_simp
            (go_at_call 20; refine (HR.out _).mono ?_; rintro e w9 ⟨rfl, hb9⟩; have hB9 := hHeld.2.2.2.2.trans (hb9.mono hHeld.2.2.2.2.size); have hS9 := And.intro (H0.out.below hB9) (And.intro (H1.out.below hB9) (And.intro (H2.out.below hB9) (And.intro (H3.out.below hB9) hB9))); clear hb9 hB9)
            refine hK.out _ _ hS9 (fun hHeld => ?_)
            clear hK K
            try simp only [Act.put, List.setIfInBounds_toArray, List.set_cons_zero, List.set_cons_succ]
            refine wpAnyH_ready (rs := [3]) (by kernel_rfl) (by simp) ?_
            refine AllReadyH.cons (o := _) rfl (fun K hK => ?_) AllReadyH.nil
            go_simp
            (go_at_call 20; refine (HO.out _).mono ?_; rintro e w9 ⟨rfl, hb9⟩; have hB9 := hHeld.2.2.2.2.trans (hb9.mono hHeld.2.2.2.2.size); have hS9 := And.intro (H0.out.below hB9) (And.intro (H1.out.below hB9) (And.intro (H2.out.below hB9) (And.intro (H3.out.below hB9) hB9))); clear hb9 hB9)
            refine hK.out _ _ hS9 (fun hHeld => ?_)
            clear hK K
            try simp only [Act.put, List.setIfInBounds_toArray, List.set_cons_zero, List.set_cons_succ]
            refine wpAnyH_ready (rs := [5]) (by kernel_rfl) (by simp) ?_
            refine AllReadyH.cons (o := _) rfl (fun K hK => ?_) AllReadyH.nil
            go_simp
            (go_at_call 20; refine (HW.out _).mono ?_; rintro e w9 ⟨rfl, hb9⟩; have hB9 := hHeld.2.2.2.2.trans (hb9.mono hHeld.2.2.2.2.size); have hS9 := And.intro (H0.out.below hB9) (And.intro (H1.out.below hB9) (And.intro (H2.out.below hB9) (And.intro (H3.out.below hB9) hB9))); clear hb9 hB9)
            refine hK.out _ _ hS9 (fun hHeld => ?_)
            clear hK K
            try simp only [Act.put, List.setIfInBounds_toArray, List.set_cons_zero, List.set_cons_succ]
            refine wpAnyH_ready (rs := [7]) (by kernel_rfl) (by simp) ?_
            refine AllReadyH.cons (o := _) rfl (fun K hK => ?_) AllReadyH.nil
            go_simp
            (go_at_call 22; refine (HC.out _).mono ?_; rintro e w9 ⟨rfl, rfl⟩)
            refine hK.out _ _ hHeld (fun hHeld => ?_)
            clear hK K
            try simp only [Act.put, List.setIfInBounds_toArray, List.set_cons_zero, List.set_cons_succ]
            refine wpAnyH_ready (rs := [8]) (by kernel_rfl) (by simp) ?_
            refine AllReadyH.cons (o := _) rfl (fun K hK => ?_) AllReadyH.nil
            go_simp
            (go_at_call 42; refine (HP.out _ hHeld.2.2.2.2).mono ?_; rintro e w9 ⟨rfl, hb9⟩; have hB9 := hHeld.2.2.2.2.trans (hb9.mono hHeld.2.2.2.2.size); have hS9 := And.intro (H0.out.below hB9) (And.intro (H1.out.below hB9) (And.intro (H2.out.below hB9) (And.intro (H3.out.below hB9) hB9))); clear hb9 hB9)
            refine hK.out _ _ hS9 (fun hHeld => ?_)
            clear hK K
            try simp only [Act.put, List.setIfInBounds_toArray, List.set_cons_zero, List.set_cons_succ]
            (refine takeD (i := 9) (some 4) rfl rfl (by kernel_rfl) (by kernel_rfl) (by kernel_rfl) (fun _ _ _ h => h) (v := ?_) rfl ?_ (by assumption) ?_; rotate_left; (focus (intro w hSw; (try dsimp only at hSw); first | (go_simp; done) | (go_simp; with_reducible rfl))); try simp only [Act.put, List.setIfInBounds_toArray, List.set_cons_zero, List.set_cons_succ])
            refine wpAnyH_done (by kernel_rfl) ?_ _
            go_wp2
            go_ret
            exact ⟨rfl, hHeld.2.2.2.2⟩
end Go.Proofs.YthooimaadgabiabDoor
