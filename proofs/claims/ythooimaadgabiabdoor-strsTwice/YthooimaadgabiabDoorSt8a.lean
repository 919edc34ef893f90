/-
  What strs' calls hand to told: closures over their arguments' boxes (a).
-/
import Derived.Test.YthooimaadgabiabDoorSt8
namespace Go.Proofs.YthooimaadgabiabDoor
open Go.RowKit
set_option linter.unusedSimpArgs false
set_option linter.unusedVariables false

set_option maxRecDepth 100000 in
set_option maxHeartbeats 4000000 in
theorem cLeft (b0 b1 : Nat) (s : By) (n : Int) (w : World) (h0 : Bx w b0 (.string ⟨s.toArray⟩)) (h1 : Bx w b1 (.int .i64 n)) (ms : s.length ≤ maxLen) :
    Calls Tryd.prog 25 #[.pointer (some ⟨b0, 0, none⟩), .pointer (some ⟨b1, 0, none⟩)] w fun e w' => e = endT (lfS s n) ∧ Below w.heap.size w w' := by
  have H0 := hide h0
  have H1 := hide h1
  by_cases ks : 255 < s.length
  · have HR : Hid (∀ W : World, Calls Tryd.prog 20 #[.string ⟨s.toArray⟩] W fun e w' => e = .panicked RF ∧ Below W.heap.size W w') := fun W => sright_no s W ks ms
    rw [show lfS s n = none from if_pos (by omega)]
    clear h0 h1 ks
    generalize (⟨s.toArray⟩ : ByteArray) = S at *
    go_enter Tryd.func25, Tryd.ntmps25
    go_wp2
    refine wp_region_held_drew (S := fun W => W.cell? ⟨b0, 0, none⟩ = some (.string S) ∧ W.cell? ⟨b1, 0, none⟩ = some (.int .i64 n) ∧ Below w.heap.size w W) (by kernel_rfl) ⟨H0.out, H1.out, (Below.refl _ _).drew⟩ (fun hHeld => ?_)
    (refine takeD (i := 0) (some 6) rfl rfl (by kernel_rfl) (by kernel_rfl) (by kernel_rfl) (fun _ _ _ h => h) (v := ?_) rfl ?_ (by assumption) ?_; rotate_left; (focus (intro w hSw; (try dsimp only at hSw); first | (go_simp; done) | (go_simp; with_reducible rfl))); try simp only [Act.put, List.setIfInBounds_toArray, List.set_cons_zero, List.set_cons_succ])
    (refine takeD (i := 2) (some 8) rfl rfl (by kernel_rfl) (by kernel_rfl) (by kernel_rfl) (fun _ _ _ h => h) (v := ?_) rfl ?_ (by assumption) ?_; rotate_left; (focus (intro w hSw; (try dsimp only at hSw); first | (go_simp; done) | (go_simp; with_reducible rfl))); try simp only [Act.put, List.setIfInBounds_toArray, List.set_cons_zero, List.set_cons_succ])
    refine wpAnyH_ready (rs := [1]) (by kernel_rfl) (by simp) ?_
    refine AllReadyH.cons (o := _) rfl (fun K hK => ?_) AllReadyH.nil
    go_simp
    (go_at_call 20; refine (HR.out _).mono ?_; rintro e w9 ⟨rfl, hb9⟩; exact ⟨rfl, rfl, hHeld.2.2.trans (hb9.mono hHeld.2.2.size)⟩)
  · by_cases kn : n < 0
    · have HR : Hid (∀ W : World, Calls Tryd.prog 20 #[.string ⟨s.toArray⟩] W fun e w' => e = .returned (.string ⟨s.toArray⟩) ∧ Below W.heap.size W w') := fun W => sright_ok s W (by omega)
      have HC : Hid (∀ W : World, Calls Tryd.prog 22 #[.int .i64 n] W fun e w' => e = .panicked RF ∧ w' = W) := fun W => count_no n W kn
      rw [show lfS s n = none from if_pos (by omega)]
      clear h0 h1 ks kn
      generalize (⟨s.toArray⟩ : ByteArray) = S at *
      go_enter Tryd.func25, Tryd.ntmps25
      go_wp2
      refine wp_region_held_drew (S := fun W => W.cell? ⟨b0, 0, none⟩ = some (.string S) ∧ W.cell? ⟨b1, 0, none⟩ = some (.int .i64 n) ∧ Below w.heap.size w W) (by kernel_rfl) ⟨H0.out, H1.out, (Below.refl _ _).drew⟩ (fun hHeld => ?_)
      (refine takeD (i := 0) (some 6) rfl rfl (by kernel_rfl) (by kernel_rfl) (by kernel_rfl) (fun _ _ _ h => h) (v := ?_) rfl ?_ (by assumption) ?_; rotate_left; (focus (intro w hSw; (try dsimp only at hSw); first | (go_simp; done) | (go_simp; with_reducible rfl))); try simp only [Act.put, List.setIfInBounds_toArray, List.set_cons_zero, List.set_cons_succ])
      (refine takeD (i := 2) (some 8) rfl rfl (by kernel_rfl) (by kernel_rfl) (by kernel_rfl) (fun _ _ _ h => h) (v := ?_) rfl ?_ (by assumption) ?_; rotate_left; (focus (intro w hSw; (try dsimp only at hSw); first | (go_simp; done) | (go_simp; with_reducible rfl))); try simp only [Act.put, List.setIfInBounds_toArray, List.set_cons_zero, List.set_cons_succ])
      refine wpAnyH_ready (rs := [1]) (by kernel_rfl) (by simp) ?_
      refine AllReadyH.cons (o := _) rfl (fun K hK => ?_) AllReadyH.nil
      go_simp
      (go_at_call 20; refine (HR.out _).mono ?_; rintro e w9 ⟨rfl, hb9⟩; have hB9 := hHeld.2.2.trans (hb9.mono hHeld.2.2.size); have hS9 := And.intro (H0.out.below hB9) (And.intro (H1.out.below hB9) hB9); clear hb9 hB9)
      refine hK.out _ _ hS9 (fun hHeld => ?_)
      clear hK K
      try simp only [Act.put, List.setIfInBounds_toArray, List.set_cons_zero, List.set_cons_succ]
      refine wpAnyH_ready (rs := [3]) (by kernel_rfl) (by simp) ?_
      refine AllReadyH.cons (o := _) rfl (fun K hK => ?_) AllReadyH.nil
      go_simp
      (go_at_call 22; refine (HC.out _).mono ?_; rintro e w9 ⟨rfl, rfl⟩; exact ⟨rfl, rfl, hHeld.2.2⟩)
    · have HR : Hid (∀ W : World, Calls Tryd.prog 20 #[.string ⟨s.toArray⟩] W fun e w' => e = .returned (.string ⟨s.toArray⟩) ∧ Below W.heap.size W w') := fun W => sright_ok s W (by omega)
      have HC : Hid (∀ W : World, Calls Tryd.prog 22 #[.int .i64 n] W fun e w' => e = .returned (.int .i64 n) ∧ w' = W) := fun W => count_ok n W (by omega)
      rw [show lfS s n = some (s.take n.toNat) from if_neg (by omega)]
      have HP : Hid (∀ W : World, Calls Tryd.prog 19 #[.string ⟨s.toArray⟩, .int .i64 n] W fun e w' => e = .returned (.tuple #[.string ⟨(s.take n.toNat).toArray⟩, .string ⟨(s.drop n.toNat).toArray⟩]) ∧ Below W.heap.size W w') := fun W => parted_any s n W (by omega) ms
      have HJ : Hid (∀ W : World, Calls Tryd.prog 23 #[.slice (some ⟨W.heap.size, 0, none⟩) 1 1] (W.alloc (.cells #[.string ⟨(s.take n.toNat).toArray⟩] 9)) fun e w' => e = .returned (.string ⟨(s.take n.toNat).toArray⟩) ∧ Below W.heap.size W w') := fun W => by
        have := joined1 (s.take n.toNat) W
        rwa [cap_yes (by rw [List.length_take]; omega)] at this
      simp only [endT]
      generalize s.take n.toNat = F at *
      generalize s.drop n.toNat = D at *
      clear h0 h1 ks kn
      generalize (⟨s.toArray⟩ : ByteArray) = S at *
      go_enter Tryd.func25, Tryd.ntmps25
      go_wp2
      refine wp_region_held_drew (S := fun W => W.cell? ⟨b0, 0, none⟩ = some (.string S) ∧ W.cell? ⟨b1, 0, none⟩ = some (.int .i64 n) ∧ Below w.heap.size w W) (by kernel_rfl) ⟨H0.out, H1.out, (Below.refl _ _).drew⟩ (fun hHeld => ?_)
      (refine takeD (i := 0) (some 6) rfl rfl (by kernel_rfl) (by kernel_rfl) (by kernel_rfl) (fun _ _ _ h => h) (v := ?_) rfl ?_ (by assumption) ?_; rotate_left; (focus (intro w hSw; (try dsimp only at hSw); first | (go_simp; done) | (go_simp; with_reducible rfl))); try simp only [Act.put, List.setIfInBounds_toArray, List.set_cons_zero, List.set_cons_succ])
      (refine takeD (i := 2) (some 8) rfl rfl (by kernel_rfl) (by kernel_rfl) (by kernel_rfl) (fun _ _ _ h => h) (v := ?_) rfl ?_ (by assumption) ?_; rotate_left; (focus (intro w hSw; (try dsimp only at hSw); first | (go_simp; done) | (go_simp; with_reducible rfl))); try simp only [Act.put, List.setIfInBounds_toArray, List.set_cons_zero, List.set_cons_succ])
      refine wpAnyH_ready (rs := [1]) (by kernel_rfl) (by simp) ?_
      refine AllReadyH.cons (o := _) rfl (fun K hK => ?_) AllReadyH.nil
      go_simp
      (go_at_call 20; refine (HR.out _).mono ?_; rintro e w9 ⟨rfl, hb9⟩; have hB9 := hHeld.2.2.trans (hb9.mono hHeld.2.2.size); have hS9 := And.intro (H0.out.below hB9) (And.intro (H1.out.below hB9) hB9); clear hb9 hB9)
      refine hK.out _ _ hS9 (fun hHeld => ?_)
      clear hK K
      try simp only [Act.put, List.setIfInBounds_toArray, List.set_cons_zero, List.set_cons_succ]
      refine wpAnyH_ready (rs := [3]) (by kernel_rfl) (by simp) ?_
      refine AllReadyH.cons (o := _) rfl (fun K hK => ?_) AllReadyH.nil
      go_simp
      (go_at_call 22; refine (HC.out _).mono ?_; rintro e w9 ⟨rfl, rfl⟩)
      refine hK.out _ _ hHeld (fun hHeld => ?_)
      clear hK K
      try simp only [Act.put, List.setIfInBounds_toArray, List.set_cons_zero, List.set_cons_succ]
      refine wpAnyH_ready (rs := [4]) (by kernel_rfl) (by simp) ?_
      refine AllReadyH.cons (o := _) rfl (fun K hK => ?_) AllReadyH.nil
      go_simp
      (go_at_call 19; refine (HP.out _).mono ?_; rintro e w9 ⟨rfl, hb9⟩; have hB9 := hHeld.2.2.trans (hb9.mono hHeld.2.2.size); have hS9 := And.intro (H0.out.below hB9) (And.intro (H1.out.below hB9) hB9); clear hb9 hB9)
      refine hK.out _ _ hS9 (fun hHeld => ?_)
      clear hK K
      try simp only [Act.put, List.setIfInBounds_toArray, List.set_cons_zero, List.set_cons_succ]
      (refine takeD (i := 5) (some 5) rfl rfl (by kernel_rfl) (by kernel_rfl) (by kernel_rfl) (fun _ _ _ h => h) (v := ?_) rfl ?_ (by assumption) ?_; rotate_left; (focus (intro w hSw; (try dsimp only at hSw); first | (go_simp; done) | (go_simp; with_reducible rfl))); try simp only [Act.put, List.setIfInBounds_toArray, List.set_cons_zero, List.set_cons_succ])
      (refine takeD (i := 6) (some 11) rfl rfl (by kernel_rfl) (by kernel_rfl) (by kernel_rfl) (fun _ _ _ h => h) (v := ?_) rfl ?_ (by assumption) ?_; rotate_left; (focus (intro w hSw; (try dsimp only at hSw); first | (go_simp; done) | (go_simp; with_reducible rfl))); try simp only [Act.put, List.setIfInBounds_toArray, List.set_cons_zero, List.set_cons_succ])
      (refine takeD (i := 7) (some 12) rfl rfl (by kernel_rfl) (by kernel_rfl) (by kernel_rfl) (fun _ _ _ h => h) (v := ?_) rfl ?_ (by assumption) ?_; rotate_left; (focus (intro w hSw; (try dsimp only at hSw); first | (go_simp; done) | (go_simp; with_reducible rfl))); try simp only [Act.put, List.setIfInBounds_toArray, List.set_cons_zero, List.set_cons_succ])
      (refine takeD (i := 8) (some 3) rfl rfl (by kernel_rfl) (by kernel_rfl) (by kernel_rfl) (fun _ _ _ h => h) (v := ?_) rfl ?_ (by assumption) ?_; rotate_left; (focus (intro w hSw; (try dsimp only at hSw); first | (go_simp; done) | (go_simp; with_reducible rfl))); try simp only [Act.put, List.setIfInBounds_toArray, List.set_cons_zero, List.set_cons_succ])
      (refine takeD (i := 9) (some 4) rfl rfl (by kernel_rfl) (by kernel_rfl) (by kernel_rfl) (fun _ _ _ h => h) (v := ?_) rfl ?_ (by assumption) ?_; rotate_left; (focus (intro w hSw; (try dsimp only at hSw); first | (go_simp; done) | (go_simp; with_reducible rfl))); try simp only [Act.put, List.setIfInBounds_toArray, List.set_cons_zero, List.set_cons_succ])
      refine wpAnyH_done (by kernel_rfl) ?_ _
      go_wp2_with (go_at_call 23; refine (HJ.out _).mono ?_; rintro e w8 ⟨rfl, hb8⟩)
      go_ret
      exact ⟨rfl, hHeld.2.2.trans (hb8.mono hHeld.2.2.size)⟩
end Go.Proofs.YthooimaadgabiabDoor
