/-
  What strs' calls hand to told: closures over their arguments' boxes (c).
-/
import Derived.Test.YthooimaadgabiabDoorSt8
namespace Go.Proofs.YthooimaadgabiabDoor
open Go.RowKit
set_option linter.unusedSimpArgs false
set_option linter.unusedVariables false

set_option maxRecDepth 100000 in
set_option maxHeartbeats 4000000 in
theorem cMid (b0 b1 b2 : Nat) (s : By) (at_ n : Int) (w : World) (h0 : Bx w b0 (.string ⟨s.toArray⟩)) (h1 : Bx w b1 (.int .i64 at_)) (h2 : Bx w b2 (.int .i64 n)) (ms : s.length ≤ maxLen) (na : at_ ≤ 9223372036854775807) :
    Calls Tryd.prog 24 #[.pointer (some ⟨b0, 0, none⟩), .pointer (some ⟨b1, 0, none⟩), .pointer (some ⟨b2, 0, none⟩)] w fun e w' => e = endT (mdS s at_ n) ∧ Below w.heap.size w w' := by
  have hmf : ∀ (fn : Fn) (first cap : Array Value) (w : World), (Instr.makeFunc fn first cap).run Tryd.prog w = .ok (.func fn first cap) w := fun _ _ _ _ => rfl
  have H0 := hide h0
  have c0 : w.cell? ⟨b0, 0, none⟩ = some (.string ⟨s.toArray⟩) := h0
  have H1 := hide h1
  have c1 : w.cell? ⟨b1, 0, none⟩ = some (.int .i64 at_) := h1
  have H2 := hide h2
  have c2 : w.cell? ⟨b2, 0, none⟩ = some (.int .i64 n) := h2
  by_cases ks : 255 < s.length
  · have HR : Hid (∀ W : World, Calls Tryd.prog 20 #[.string ⟨s.toArray⟩] W fun e w' => e = .panicked RF ∧ Below W.heap.size W w') := fun W => sright_no s W ks ms
    rw [show mdS s at_ n = none from if_pos (by omega)]
    clear h0 h1 h2 ks
    generalize (⟨s.toArray⟩ : ByteArray) = S at *
    go_enter Tryd.func24, Tryd.ntmps24
    go_wp2
    refine wp_region_held_drew (S := fun W => W.cell? ⟨b0, 0, none⟩ = some (.string S) ∧ W.cell? ⟨b1, 0, none⟩ = some (.int .i64 at_) ∧ W.cell? ⟨b2, 0, none⟩ = some (.int .i64 n) ∧ Below w.heap.size w W) (by kernel_rfl) ⟨H0.out, H1.out, H2.out, (Below.refl _ _).drew⟩ (fun hHeld => ?_)
    (refine takeD (i := 0) (some 9) rfl rfl (by kernel_rfl) (by kernel_rfl) (by kernel_rfl) (fun _ _ _ h => h) (v := ?_) rfl ?_ (by assumption) ?_; rotate_left; (focus (intro w hSw; (try dsimp only at hSw); first | (go_simp; done) | (go_simp; with_reducible rfl))); try simp only [Act.put, List.setIfInBounds_toArray, List.set_cons_zero, List.set_cons_succ])
    (refine takeD (i := 2) (some 11) rfl rfl (by kernel_rfl) (by kernel_rfl) (by kernel_rfl) (fun _ _ _ h => h) (v := ?_) rfl ?_ (by assumption) ?_; rotate_left; (focus (intro w hSw; (try dsimp only at hSw); first | (go_simp; done) | (go_simp; with_reducible rfl))); try simp only [Act.put, List.setIfInBounds_toArray, List.set_cons_zero, List.set_cons_succ])
    refine wpAnyH_ready (rs := [1]) (by kernel_rfl) (by simp) ?_
    refine AllReadyH.cons (o := _) rfl (fun K hK => ?_) AllReadyH.nil
    go_simp
    (go_at_call 20; refine (HR.out _).mono ?_; rintro e w9 ⟨rfl, hb9⟩; exact ⟨rfl, rfl, hHeld.2.2.2.trans (hb9.mono hHeld.2.2.2.size)⟩)
  · by_cases kat_ : at_ < 1
    · have HR : Hid (∀ W : World, Calls Tryd.prog 20 #[.string ⟨s.toArray⟩] W fun e w' => e = .returned (.string ⟨s.toArray⟩) ∧ Below W.heap.size W w') := fun W => sright_ok s W (by omega)
      have HA : Hid (∀ W : World, Calls Tryd.prog 21 #[.int .i64 at_] W fun e w' => e = .panicked RF ∧ w' = W) := fun W => ahead_no at_ W kat_
      rw [show mdS s at_ n = none from if_pos (by omega)]
      clear h0 h1 h2 ks kat_
      generalize (⟨s.toArray⟩ : ByteArray) = S at *
      go_enter Tryd.func24, Tryd.ntmps24
      go_wp2
      refine wp_region_held_drew (S := fun W => W.cell? ⟨b0, 0, none⟩ = some (.string S) ∧ W.cell? ⟨b1, 0, none⟩ = some (.int .i64 at_) ∧ W.cell? ⟨b2, 0, none⟩ = some (.int .i64 n) ∧ Below w.heap.size w W) (by kernel_rfl) ⟨H0.out, H1.out, H2.out, (Below.refl _ _).drew⟩ (fun hHeld => ?_)
      (refine takeD (i := 0) (some 9) rfl rfl (by kernel_rfl) (by kernel_rfl) (by kernel_rfl) (fun _ _ _ h => h) (v := ?_) rfl ?_ (by assumption) ?_; rotate_left; (focus (intro w hSw; (try dsimp only at hSw); first | (go_simp; done) | (go_simp; with_reducible rfl))); try simp only [Act.put, List.setIfInBounds_toArray, List.set_cons_zero, List.set_cons_succ])
      (refine takeD (i := 2) (some 11) rfl rfl (by kernel_rfl) (by kernel_rfl) (by kernel_rfl) (fun _ _ _ h => h) (v := ?_) rfl ?_ (by assumption) ?_; rotate_left; (focus (intro w hSw; (try dsimp only at hSw); first | (go_simp; done) | (go_simp; with_reducible rfl))); try simp only [Act.put, List.setIfInBounds_toArray, List.set_cons_zero, List.set_cons_succ])
      refine wpAnyH_ready (rs := [1]) (by kernel_rfl) (by simp) ?_
      refine AllReadyH.cons (o := _) rfl (fun K hK => ?_) AllReadyH.nil
      go_simp
      (go_at_call 20; refine (HR.out _).mono ?_; rintro e w9 ⟨rfl, hb9⟩; have hB9 := hHeld.2.2.2.trans (hb9.mono hHeld.2.2.2.size); have hS9 := And.intro (H0.out.below hB9) (And.intro (H1.out.below hB9) (And.intro (H2.out.below hB9) hB9)); clear hb9 hB9)
      refine hK.out _ _ hS9 (fun hHeld => ?_)
      clear hK K
      try simp only [Act.put, List.setIfInBounds_toArray, List.set_cons_zero, List.set_cons_succ]
      refine wpAnyH_ready (rs := [3]) (by kernel_rfl) (by simp) ?_
      refine AllReadyH.cons (o := _) rfl (fun K hK => ?_) AllReadyH.nil
      go_simp
      (go_at_call 21; refine (HA.out _).mono ?_; rintro e w9 ⟨rfl, rfl⟩; exact ⟨rfl, rfl, hHeld.2.2.2⟩)
    · by_cases kn : n < 0
      · have HR : Hid (∀ W : World, Calls Tryd.prog 20 #[.string ⟨s.toArray⟩] W fun e w' => e = .returned (.string ⟨s.toArray⟩) ∧ Below W.heap.size W w') := fun W => sright_ok s W (by omega)
        have HA : Hid (∀ W : World, Calls Tryd.prog 21 #[.int .i64 at_] W fun e w' => e = .returned (.int .i64 (at_ - 1)) ∧ w' = W) := fun W => ahead_ok at_ W (by omega) na
        have HC : Hid (∀ W : World, Calls Tryd.prog 22 #[.int .i64 n] W fun e w' => e = .panicked RF ∧ w' = W) := fun W => count_no n W kn
        rw [show mdS s at_ n = none from if_pos (by omega)]
        have HP : Hid (∀ W : World, Calls Tryd.prog 19 #[.string ⟨(s).toArray⟩, .int .i64 (at_ - 1)] W fun e w' => e = .returned (.tuple #[.string ⟨((s).take ((at_ - 1)).toNat).toArray⟩, .string ⟨((s).drop ((at_ - 1)).toNat).toArray⟩]) ∧ Below W.heap.size W w') := fun W => parted_any (s) (at_ - 1) W (by omega) (by (try simp only [List.length_take, List.length_drop]); unfold maxLen at *; omega)
        generalize s.drop (at_ - 1).toNat = D at *
        generalize s.take (at_ - 1).toNat = C at *
        clear h0 h1 h2 ks kat_ kn
        generalize (⟨s.toArray⟩ : ByteArray) = S at *
        go_enter Tryd.func24, Tryd.ntmps24
        go_wp2
        refine wp_region_held_drew (S := fun W => W.cell? ⟨b0, 0, none⟩ = some (.string S) ∧ W.cell? ⟨b1, 0, none⟩ = some (.int .i64 at_) ∧ W.cell? ⟨b2, 0, none⟩ = some (.int .i64 n) ∧ Below w.heap.size w W) (by kernel_rfl) ⟨H0.out, H1.out, H2.out, (Below.refl _ _).drew⟩ (fun hHeld => ?_)
        (refine takeD (i := 0) (some 9) rfl rfl (by kernel_rfl) (by kernel_rfl) (by kernel_rfl) (fun _ _ _ h => h) (v := ?_) rfl ?_ (by assumption) ?_; rotate_left; (focus (intro w hSw; (try dsimp only at hSw); first | (go_simp; done) | (go_simp; with_reducible rfl))); try simp only [Act.put, List.setIfInBounds_toArray, List.set_cons_zero, List.set_cons_succ])
        (refine takeD (i := 2) (some 11) rfl rfl (by kernel_rfl) (by kernel_rfl) (by kernel_rfl) (fun _ _ _ h => h) (v := ?_) rfl ?_ (by assumption) ?_; rotate_left; (focus (intro w hSw; (try dsimp only at hSw); first | (go_simp; done) | (go_simp; with_reducible rfl))); try simp only [Act.put, List.setIfInBounds_toArray, List.set_cons_zero, List.set_cons_succ])
        refine wpAnyH_ready (rs := [1]) (by kernel_rfl) (by simp) ?_
        refine AllReadyH.cons (o := _) rfl (fun K hK => ?_) AllReadyH.nil
        go_simp
        (go_at_call 20; refine (HR.out _).mono ?_; rintro e w9 ⟨rfl, hb9⟩; have hB9 := hHeld.2.2.2.trans (hb9.mono hHeld.2.2.2.size); have hS9 := And.intro (H0.out.below hB9) (And.intro (H1.out.below hB9) (And.intro (H2.out.below hB9) hB9)); clear hb9 hB9)
        refine hK.out _ _ hS9 (fun hHeld => ?_)
        clear hK K
        try simp only [Act.put, List.setIfInBounds_toArray, List.set_cons_zero, List.set_cons_succ]
        refine wpAnyH_ready (rs := [3]) (by kernel_rfl) (by simp) ?_
        refine AllReadyH.cons (o := _) rfl (fun K hK => ?_) AllReadyH.nil
        go_simp
        (go_at_call 21; refine (HA.out _).mono ?_; rintro e w9 ⟨rfl, rfl⟩)
        refine hK.out _ _ hHeld (fun hHeld => ?_)
        clear hK K
        try simp only [Act.put, List.setIfInBounds_toArray, List.set_cons_zero, List.set_cons_succ]
        refine wpAnyH_ready (rs := [4]) (by kernel_rfl) (by simp) ?_
        refine AllReadyH.cons (o := _) rfl (fun K hK => ?_) AllReadyH.nil
        go_simp
        (go_at_call 19; refine (HP.out _).mono ?_; rintro e w9 ⟨rfl, hb9⟩; have hB9 := hHeld.2.2.2.trans (hb9.mono hHeld.2.2.2.size); have hS9 := And.intro (H0.out.below hB9) (And.intro (H1.out.below hB9) (And.intro (H2.out.below hB9) hB9)); clear hb9 hB9)
        refine hK.out _ _ hS9 (fun hHeld => ?_)
        clear hK K
        try simp only [Act.put, List.setIfInBounds_toArray, List.set_cons_zero, List.set_cons_succ]
        (refine takeD (i := 5) (some 8) rfl rfl (by kernel_rfl) (by kernel_rfl) (by kernel_rfl) (fun _ _ _ h => h) (v := ?_) rfl ?_ (by assumption) ?_; rotate_left; (focus (intro w hSw; (try dsimp only at hSw); first | (go_simp; done) | (go_simp; with_reducible rfl))); try simp only [Act.put, List.setIfInBounds_toArray, List.set_cons_zero, List.set_cons_succ])
        (refine takeD (i := 6) (some 14) rfl rfl (by kernel_rfl) (by kernel_rfl) (by kernel_rfl) (fun _ _ _ h => h) (v := ?_) rfl ?_ (by assumption) ?_; rotate_left; (focus (intro w hSw; (try dsimp only at hSw); first | (go_simp; done) | (go_simp; with_reducible rfl))); try simp only [Act.put, List.setIfInBounds_toArray, List.set_cons_zero, List.set_cons_succ])
        (refine takeD (i := 7) (some 15) rfl rfl (by kernel_rfl) (by kernel_rfl) (by kernel_rfl) (fun _ _ _ h => h) (v := ?_) rfl ?_ (by assumption) ?_; rotate_left; (focus (intro w hSw; (try dsimp only at hSw); first | (go_simp; done) | (go_simp; with_reducible rfl))); try simp only [Act.put, List.setIfInBounds_toArray, List.set_cons_zero, List.set_cons_succ])
        (refine takeD (i := 8) (some 4) rfl rfl (by kernel_rfl) (by kernel_rfl) (by kernel_rfl) (fun _ _ _ h => h) (v := ?_) rfl ?_ (by assumption) ?_; rotate_left; (focus (intro w hSw; (try dsimp only at hSw); first | (go_simp; done) | (go_simp; with_reducible rfl))); try simp only [Act.put, List.setIfInBounds_toArray, List.set_cons_zero, List.set_cons_succ])
        (refine takeD (i := 9) (some 5) rfl rfl (by kernel_rfl) (by kernel_rfl) (by kernel_rfl) (fun _ _ _ h => h) (v := ?_) rfl ?_ (by assumption) ?_; rotate_left; (focus (intro w hSw; (try dsimp only at hSw); first | (go_simp; done) | (go_simp; with_reducible rfl))); try simp only [Act.put, List.setIfInBounds_toArray, List.set_cons_zero, List.set_cons_succ])
        refine wpAnyH_done (by kernel_rfl) ?_ _
        obtain ⟨e0, e1, e2, hbw⟩ := hHeld
        go_wp2_with (go_at_call 22; refine (HC.out _).mono ?_; rintro e w7 ⟨rfl, rfl⟩)
        exact ⟨rfl, rfl, hbw⟩
      · have HR : Hid (∀ W : World, Calls Tryd.prog 20 #[.string ⟨s.toArray⟩] W fun e w' => e = .returned (.string ⟨s.toArray⟩) ∧ Below W.heap.size W w') := fun W => sright_ok s W (by omega)
        have HA : Hid (∀ W : World, Calls Tryd.prog 21 #[.int .i64 at_] W fun e w' => e = .returned (.int .i64 (at_ - 1)) ∧ w' = W) := fun W => ahead_ok at_ W (by omega) na
        have HC : Hid (∀ W : World, Calls Tryd.prog 22 #[.int .i64 n] W fun e w' => e = .returned (.int .i64 n) ∧ w' = W) := fun W => count_ok n W (by omega)
        rw [show mdS s at_ n = some ((s.drop (at_ - 1).toNat).take n.toNat) from if_neg (by omega)]
        have HP : Hid (∀ W : World, Calls Tryd.prog 19 #[.string ⟨(s).toArray⟩, .int .i64 (at_ - 1)] W fun e w' => e = .returned (.tuple #[.string ⟨((s).take ((at_ - 1)).toNat).toArray⟩, .string ⟨((s).drop ((at_ - 1)).toNat).toArray⟩]) ∧ Below W.heap.size W w') := fun W => parted_any (s) (at_ - 1) W (by omega) (by (try simp only [List.length_take, List.length_drop]); unfold maxLen at *; omega)
        have HQ : Hid (∀ W : World, Calls Tryd.prog 19 #[.string ⟨(s.drop (at_ - 1).toNat).toArray⟩, .int .i64 n] W fun e w' => e = .returned (.tuple #[.string ⟨((s.drop (at_ - 1).toNat).take (n).toNat).toArray⟩, .string ⟨((s.drop (at_ - 1).toNat).drop (n).toNat).toArray⟩]) ∧ Below W.heap.size W w') := fun W => parted_any (s.drop (at_ - 1).toNat) n W (by omega) (by (try simp only [List.length_take, List.length_drop]); unfold maxLen at *; omega)
        have HJ : Hid (∀ W : World, Calls Tryd.prog 23 #[.slice (some ⟨W.heap.size, 0, none⟩) 1 1] (W.alloc (.cells #[.string ⟨((s.drop (at_ - 1).toNat).take n.toNat).toArray⟩] 9)) fun e w' => e = .returned (.string ⟨((s.drop (at_ - 1).toNat).take n.toNat).toArray⟩) ∧ Below W.heap.size W w') := fun W => by
          have := joined1 ((s.drop (at_ - 1).toNat).take n.toNat) W
          rwa [cap_yes (by (try simp only [List.length_take, List.length_drop]); omega)] at this
        simp only [endT]
        generalize (s.drop (at_ - 1).toNat).take n.toNat = F at *
        generalize (s.drop (at_ - 1).toNat).drop n.toNat = E at *
        generalize s.drop (at_ - 1).toNat = D at *
        generalize s.take (at_ - 1).toNat = C at *
        clear h0 h1 h2 ks kat_ kn
        generalize (⟨s.toArray⟩ : ByteArray) = S at *
        go_enter Tryd.func24, Tryd.ntmps24
        go_wp2
        refine wp_region_held_drew (S := fun W => W.cell? ⟨b0, 0, none⟩ = some (.string S) ∧ W.cell? ⟨b1, 0, none⟩ = some (.int .i64 at_) ∧ W.cell? ⟨b2, 0, none⟩ = some (.int .i64 n) ∧ Below w.heap.size w W) (by kernel_rfl) ⟨H0.out, H1.out, H2.out, (Below.refl _ _).drew⟩ (fun hHeld => ?_)
        (refine takeD (i := 0) (some 9) rfl rfl (by kernel_rfl) (by kernel_rfl) (by kernel_rfl) (fun _ _ _ h => h) (v := ?_) rfl ?_ (by assumption) ?_; rotate_left; (focus (intro w hSw; (try dsimp only at hSw); first | (go_simp; done) | (go_simp; with_reducible rfl))); try simp only [Act.put, List.setIfInBounds_toArray, List.set_cons_zero, List.set_cons_succ])
        (refine takeD (i := 2) (some 11) rfl rfl (by kernel_rfl) (by kernel_rfl) (by kernel_rfl) (fun _ _ _ h => h) (v := ?_) rfl ?_ (by assumption) ?_; rotate_left; (focus (intro w hSw; (try dsimp only at hSw); first | (go_simp; done) | (go_simp; with_reducible rfl))); try simp only [Act.put, List.setIfInBounds_toArray, List.set_cons_zero, List.set_cons_succ])
        refine wpAnyH_ready (rs := [1]) (by kernel_rfl) (by simp) ?_
        refine AllReadyH.cons (o := _) rfl (fun K hK => ?_) AllReadyH.nil
        go_simp
        (go_at_call 20; refine (HR.out _).mono ?_; rintro e w9 ⟨rfl, hb9⟩; have hB9 := hHeld.2.2.2.trans (hb9.mono hHeld.2.2.2.size); have hS9 := And.intro (H0.out.below hB9) (And.intro (H1.out.below hB9) (And.intro (H2.out.below hB9) hB9)); clear hb9 hB9)
        refine hK.out _ _ hS9 (fun hHeld => ?_)
        clear hK K
        try simp only [Act.put, List.setIfInBounds_toArray, List.set_cons_zero, List.set_cons_succ]
        refine wpAnyH_ready (rs := [3]) (by kernel_rfl) (by simp) ?_
        refine AllReadyH.cons (o := _) rfl (fun K hK => ?_) AllReadyH.nil
        go_simp
        (go_at_call 21; refine (HA.out _).mono ?_; rintro e w9 ⟨rfl, rfl⟩)
        refine hK.out _ _ hHeld (fun hHeld => ?_)
        clear hK K
        try simp only [Act.put, List.setIfInBounds_toArray, List.set_cons_zero, List.set_cons_succ]
        refine wpAnyH_ready (rs := [4]) (by kernel_rfl) (by simp) ?_
        refine AllReadyH.cons (o := _) rfl (fun K hK => ?_) AllReadyH.nil
        go_simp
        (go_at_call 19; refine (HP.out _).mono ?_; rintro e w9 ⟨rfl, hb9⟩; have hB9 := hHeld.2.2.2.trans (hb9.mono hHeld.2.2.2.size); have hS9 := And.intro (H0.out.below hB9) (And.intro (H1.out.below hB9) (And.intro (H2.out.below hB9) hB9)); clear hb9 hB9)
        refine hK.out _ _ hS9 (fun hHeld => ?_)
        clear hK K
        try simp only [Act.put, List.setIfInBounds_toArray, List.set_cons_zero, List.set_cons_succ]
        (refine takeD (i := 5) (some 8) rfl rfl (by kernel_rfl) (by kernel_rfl) (by kernel_rfl) (fun _ _ _ h => h) (v := ?_) rfl ?_ (by assumption) ?_; rotate_left; (focus (intro w hSw; (try dsimp only at hSw); first | (go_simp; done) | (go_simp; with_reducible rfl))); try simp only [Act.put, List.setIfInBounds_toArray, List.set_cons_zero, List.set_cons_succ])
        (refine takeD (i := 6) (some 14) rfl rfl (by kernel_rfl) (by kernel_rfl) (by kernel_rfl) (fun _ _ _ h => h) (v := ?_) rfl ?_ (by assumption) ?_; rotate_left; (focus (intro w hSw; (try dsimp only at hSw); first | (go_simp; done) | (go_simp; with_reducible rfl))); try simp only [Act.put, List.setIfInBounds_toArray, List.set_cons_zero, List.set_cons_succ])
        (refine takeD (i := 7) (some 15) rfl rfl (by kernel_rfl) (by kernel_rfl) (by kernel_rfl) (fun _ _ _ h => h) (v := ?_) rfl ?_ (by assumption) ?_; rotate_left; (focus (intro w hSw; (try dsimp only at hSw); first | (go_simp; done) | (go_simp; with_reducible rfl))); try simp only [Act.put, List.setIfInBounds_toArray, List.set_cons_zero, List.set_cons_succ])
        (refine takeD (i := 8) (some 4) rfl rfl (by kernel_rfl) (by kernel_rfl) (by kernel_rfl) (fun _ _ _ h => h) (v := ?_) rfl ?_ (by assumption) ?_; rotate_left; (focus (intro w hSw; (try dsimp only at hSw); first | (go_simp; done) | (go_simp; with_reducible rfl))); try simp only [Act.put, List.setIfInBounds_toArray, List.set_cons_zero, List.set_cons_succ])
        (refine takeD (i := 9) (some 5) rfl rfl (by kernel_rfl) (by kernel_rfl) (by kernel_rfl) (fun _ _ _ h => h) (v := ?_) rfl ?_ (by assumption) ?_; rotate_left; (focus (intro w hSw; (try dsimp only at hSw); first | (go_simp; done) | (go_simp; with_reducible rfl))); try simp only [Act.put, List.setIfInBounds_toArray, List.set_cons_zero, List.set_cons_succ])
        refine wpAnyH_done (by kernel_rfl) ?_ _
        obtain ⟨e0, e1, e2, hbw⟩ := hHeld
        go_wp2_with (first | (go_at_call 22; refine (HC.out _).mono ?_; rintro e w7 ⟨rfl, rfl⟩) | (go_at_call 19; refine (HQ.out _).mono ?_; rintro e w6 ⟨rfl, hb6⟩; have hbx := hbw.trans (hb6.mono hbw.size)) | (go_at_call 23; refine (HJ.out _).mono ?_; rintro e w8 ⟨rfl, hb8⟩))
        go_ret
        exact ⟨rfl, hbx.trans (hb8.mono hbx.size)⟩
end Go.Proofs.YthooimaadgabiabDoor
