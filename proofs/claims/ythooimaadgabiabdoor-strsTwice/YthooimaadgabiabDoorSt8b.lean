/-
  What strs' calls hand to told: closures over their arguments' boxes (b).
-/
import Derived.Test.YthooimaadgabiabDoorSt8
namespace Go.Proofs.YthooimaadgabiabDoor
open Go.RowKit
set_option linter.unusedSimpArgs false
set_option linter.unusedVariables false

set_option maxRecDepth 100000 in
set_option maxHeartbeats 4000000 in
theorem cRepeat (b0 b1 : Nat) (s : By) (n : Int) (w : World) (h0 : Bx w b0 (.string ⟨s.toArray⟩)) (h1 : Bx w b1 (.int .i64 n)) (ms : s.length ≤ maxLen) (nn : n ≤ 9223372036854775807) :
    Calls Tryd.prog 30 #[.pointer (some ⟨b0, 0, none⟩), .pointer (some ⟨b1, 0, none⟩)] w fun e w' => e = endT (rtS s n) ∧ Below w.heap.size w w' := by
  have hmf : ∀ (fn : Fn) (first cap : Array Value) (w : World), (Instr.makeFunc fn first cap).run Tryd.prog w = .ok (.func fn first cap) w := fun _ _ _ _ => rfl
  have H0 := hide h0
  have c0 : w.cell? ⟨b0, 0, none⟩ = some (.string ⟨s.toArray⟩) := h0
  have H1 := hide h1
  have c1 : w.cell? ⟨b1, 0, none⟩ = some (.int .i64 n) := h1
  by_cases ks : 255 < s.length
  · have HR : Hid (∀ W : World, Calls Tryd.prog 20 #[.string ⟨s.toArray⟩] W fun e w' => e = .panicked RF ∧ Below W.heap.size W w') := fun W => sright_no s W ks ms
    rw [show rtS s n = none from if_pos (by omega)]
    clear h0 h1 ks
    generalize (⟨s.toArray⟩ : ByteArray) = S at *
    go_enter Tryd.func30, Tryd.ntmps30
    go_wp2
    refine wp_region_held_drew (S := fun W => W.cell? ⟨b0, 0, none⟩ = some (.string S) ∧ W.cell? ⟨b1, 0, none⟩ = some (.int .i64 n) ∧ Below w.heap.size w W) (by kernel_rfl) ⟨H0.out, H1.out, (Below.refl _ _).drew⟩ (fun hHeld => ?_)
    (refine takeD (i := 0) (some 3) rfl rfl (by kernel_rfl) (by kernel_rfl) (by kernel_rfl) (fun _ _ _ h => h) (v := ?_) rfl ?_ (by assumption) ?_; rotate_left; (focus (intro w hSw; (try dsimp only at hSw); first | (go_simp; done) | (go_simp; with_reducible rfl))); try simp only [Act.put, List.setIfInBounds_toArray, List.set_cons_zero, List.set_cons_succ])
    (refine takeD (i := 2) (some 5) rfl rfl (by kernel_rfl) (by kernel_rfl) (by kernel_rfl) (fun _ _ _ h => h) (v := ?_) rfl ?_ (by assumption) ?_; rotate_left; (focus (intro w hSw; (try dsimp only at hSw); first | (go_simp; done) | (go_simp; with_reducible rfl))); try simp only [Act.put, List.setIfInBounds_toArray, List.set_cons_zero, List.set_cons_succ])
    refine wpAnyH_ready (rs := [1]) (by kernel_rfl) (by simp) ?_
    refine AllReadyH.cons (o := _) rfl (fun K hK => ?_) AllReadyH.nil
    go_simp
    (go_at_call 20; refine (HR.out _).mono ?_; rintro e w9 ⟨rfl, hb9⟩; exact ⟨rfl, rfl, hHeld.2.2.trans (hb9.mono hHeld.2.2.size)⟩)
  · by_cases kn : n < 0
    · have HR : Hid (∀ W : World, Calls Tryd.prog 20 #[.string ⟨s.toArray⟩] W fun e w' => e = .returned (.string ⟨s.toArray⟩) ∧ Below W.heap.size W w') := fun W => sright_ok s W (by omega)
      have HC : Hid (∀ W : World, Calls Tryd.prog 22 #[.int .i64 n] W fun e w' => e = .panicked RF ∧ w' = W) := fun W => count_no n W kn
      rw [show rtS s n = none from if_pos (by omega)]
      clear h0 h1 ks kn
      generalize (⟨s.toArray⟩ : ByteArray) = S at *
      go_enter Tryd.func30, Tryd.ntmps30
      go_wp2
      refine wp_region_held_drew (S := fun W => W.cell? ⟨b0, 0, none⟩ = some (.string S) ∧ W.cell? ⟨b1, 0, none⟩ = some (.int .i64 n) ∧ Below w.heap.size w W) (by kernel_rfl) ⟨H0.out, H1.out, (Below.refl _ _).drew⟩ (fun hHeld => ?_)
      (refine takeD (i := 0) (some 3) rfl rfl (by kernel_rfl) (by kernel_rfl) (by kernel_rfl) (fun _ _ _ h => h) (v := ?_) rfl ?_ (by assumption) ?_; rotate_left; (focus (intro w hSw; (try dsimp only at hSw); first | (go_simp; done) | (go_simp; with_reducible rfl))); try simp only [Act.put, List.setIfInBounds_toArray, List.set_cons_zero, List.set_cons_succ])
      (refine takeD (i := 2) (some 5) rfl rfl (by kernel_rfl) (by kernel_rfl) (by kernel_rfl) (fun _ _ _ h => h) (v := ?_) rfl ?_ (by assumption) ?_; rotate_left; (focus (intro w hSw; (try dsimp only at hSw); first | (go_simp; done) | (go_simp; with_reducible rfl))); try simp only [Act.put, List.setIfInBounds_toArray, List.set_cons_zero, List.set_cons_succ])
      refine wpAnyH_ready (rs := [1]) (by kernel_rfl) (by simp) ?_
      refine AllReadyH.cons (o := _) rfl (fun K hK => ?_) AllReadyH.nil
      go_simp
      (go_at_call 20; refine (HR.out _).mono ?_; rintro e w9 ⟨rfl, hb9⟩; have hB9 := hHeld.2.2.trans (hb9.mono hHeld.2.2.size); have hS9 := And.intro (H0.out.below hB9) (And.intro (H1.out.below hB9) hB9); clear hb9 hB9)
      refine hK.out _ _ hS9 (fun hHeld => ?_)
      clear hK K
      try simp only [Act.put, List.setIfInBounds_toArray, List.set_cons_zero, List.set_cons_succ]
      refine wpAnyH_ready (rs := [3]) (by kernel_rfl) (by simp) ?_
      refine AllReadyH.cons (o := _) rfl (fun K hK => ?_) AllReadyH.nil
      go_simp
      (go_at_call 22; refine (HC.out _).mono ?_; rintro e w9 ⟨rfl, rfl⟩; exact ⟨rfl, rfl, hHeld.2.2⟩)
    · have HR : Hid (∀ W : World, Calls Tryd.prog 20 #[.string ⟨s.toArray⟩] W fun e w' => e = .returned (.string ⟨s.toArray⟩) ∧ Below W.heap.size W w') := fun W => sright_ok s W (by omega)
      have HC : Hid (∀ W : World, Calls Tryd.prog 22 #[.int .i64 n] W fun e w' => e = .returned (.int .i64 n) ∧ w' = W) := fun W => count_ok n W (by omega)
      rw [show rtS s n = (if s = [] then some [] else capS (rpL s n.toNat)) from if_neg (by omega)]
      have HP0 := hide (fun W => repeated_any s n W (by omega) (by omega) nn)
      generalize (if s = [] then some [] else capS (rpL s n.toNat)) = Z at *
      cases Z with
      | none =>
        have HP : Hid (∀ W : World, Calls Tryd.prog 31 #[.string ⟨s.toArray⟩, .int .i64 n] W fun e w' => e = .panicked RF ∧ Below W.heap.size W w') := HP0
        simp only [endT]
        clear h0 h1 ks kn HP0
        generalize (⟨s.toArray⟩ : ByteArray) = S at *
        go_enter Tryd.func30, Tryd.ntmps30
        go_wp2
        refine wp_region_held_drew (S := fun W => W.cell? ⟨b0, 0, none⟩ = some (.string S) ∧ W.cell? ⟨b1, 0, none⟩ = some (.int .i64 n) ∧ Below w.heap.size w W) (by kernel_rfl) ⟨H0.out, H1.out, (Below.refl _ _).drew⟩ (fun hHeld => ?_)
        (refine takeD (i := 0) (some 3) rfl rfl (by kernel_rfl) (by kernel_rfl) (by kernel_rfl) (fun _ _ _ h => h) (v := ?_) rfl ?_ (by assumption) ?_; rotate_left; (focus (intro w hSw; (try dsimp only at hSw); first | (go_simp; done) | (go_simp; with_reducible rfl))); try simp only [Act.put, List.setIfInBounds_toArray, List.set_cons_zero, List.set_cons_succ])
        (refine takeD (i := 2) (some 5) rfl rfl (by kernel_rfl) (by kernel_rfl) (by kernel_rfl) (fun _ _ _ h => h) (v := ?_) rfl ?_ (by assumption) ?_; rotate_left; (focus (intro w hSw; (try dsimp only at hSw); first | (go_simp; done) | (go_simp; with_reducible rfl))); try simp only [Act.put, List.setIfInBounds_toArray, List.set_cons_zero, List.set_cons_succ])
        refine wpAnyH_ready (rs := [1]) (by kernel_rfl) (by simp) ?_
        refine AllReadyH.cons (o := _) rfl (fun K hK => ?_) AllReadyH.nil
        go_simp
        (go_at_call 20; refine (HR.out _).mono ?_; rintro e w9 ⟨rfl, hb9⟩; have hB9 := hHeld.2.2.trans (hb9.mono hHeld.2.2.size); have hS9 := And.intro (H0.out.below hB9) (And.intro (H1.out.below hB9) hB9); clear hb9 hB9)
        refine hK.out _ _ hS9 (fun hHeld => ?_)
        clear hK K
        try simp only [Act.put, List.setIfInBounds_toArray, List.set_cons_zero, List.set_cons_succ]
        refine wpAnyH_ready (rs := [3]) (by kernel_rfl) (by simp) ?_
        refine AllReadyH.cons (o := _) rfl (fun K hK => ?_) AllReadyH.nil
        go_simp
        (go_at_call 22; refine (HC.out _).mono ?_; rintro e w9 ⟨rfl, rfl⟩)
        refine hK.out _ _ hHeld (fun hHeld => ?_)
        clear hK K
        try simp only [Act.put, List.setIfInBounds_toArray, List.set_cons_zero, List.set_cons_succ]
        refine wpAnyH_ready (rs := [4]) (by kernel_rfl) (by simp) ?_
        refine AllReadyH.cons (o := _) rfl (fun K hK => ?_) AllReadyH.nil
        go_simp
        (go_at_call 31; refine (HP.out _).mono ?_; rintro e w9 ⟨rfl, hb9⟩; exact ⟨rfl, rfl, hHeld.2.2.trans (hb9.mono hHeld.2.2.size)⟩)
      | some z =>
        have HP : Hid (∀ W : World, Calls Tryd.prog 31 #[.string ⟨s.toArray⟩, .int .i64 n] W fun e w' => e = .returned (.string ⟨z.toArray⟩) ∧ Below W.heap.size W w') := HP0
        simp only [endT]
        generalize (⟨z.toArray⟩ : ByteArray) = ZB at *
        clear h0 h1 ks kn HP0
        generalize (⟨s.toArray⟩ : ByteArray) = S at *
        go_enter Tryd.func30, Tryd.ntmps30
        go_wp2
        refine wp_region_held_drew (S := fun W => W.cell? ⟨b0, 0, none⟩ = some (.string S) ∧ W.cell? ⟨b1, 0, none⟩ = some (.int .i64 n) ∧ Below w.heap.size w W) (by kernel_rfl) ⟨H0.out, H1.out, (Below.refl _ _).drew⟩ (fun hHeld => ?_)
        (refine takeD (i := 0) (some 3) rfl rfl (by kernel_rfl) (by kernel_rfl) (by kernel_rfl) (fun _ _ _ h => h) (v := ?_) rfl ?_ (by assumption) ?_; rotate_left; (focus (intro w hSw; (try dsimp only at hSw); first | (go_simp; done) | (go_simp; with_reducible rfl))); try simp only [Act.put, List.setIfInBounds_toArray, List.set_cons_zero, List.set_cons_succ])
        (refine takeD (i := 2) (some 5) rfl rfl (by kernel_rfl) (by kernel_rfl) (by kernel_rfl) (fun _ _ _ h => h) (v := ?_) rfl ?_ (by assumption) ?_; rotate_left; (focus (intro w hSw; (try dsimp only at hSw); first | (go_simp; done) | (go_simp; with_reducible rfl))); try simp only [Act.put, List.setIfInBounds_toArray, List.set_cons_zero, List.set_cons_succ])
        refine wpAnyH_ready (rs := [1]) (by kernel_rfl) (by simp) ?_
        refine AllReadyH.cons (o := _) rfl (fun K hK => ?_) AllReadyH.nil
        go_simp
        (go_at_call 20; refine (HR.out _).mono ?_; rintro e w9 ⟨rfl, hb9⟩; have hB9 := hHeld.2.2.trans (hb9.mono hHeld.2.2.size); have hS9 := And.intro (H0.out.below hB9) (And.intro (H1.out.below hB9) hB9); clear hb9 hB9)
        refine hK.out _ _ hS9 (fun hHeld => ?_)
        clear hK K
        try simp only [Act.put, List.setIfInBounds_toArray, List.set_cons_zero, List.set_cons_succ]
        refine wpAnyH_ready (rs := [3]) (by kernel_rfl) (by simp) ?_
        refine AllReadyH.cons (o := _) rfl (fun K hK => ?_) AllReadyH.nil
        go_simp
        (go_at_call 22; refine (HC.out _).mono ?_; rintro e w9 ⟨rfl, rfl⟩)
        refine hK.out _ _ hHeld (fun hHeld => ?_)
        clear hK K
        try simp only [Act.put, List.setIfInBounds_toArray, List.set_cons_zero, List.set_cons_succ]
        refine wpAnyH_ready (rs := [4]) (by kernel_rfl) (by simp) ?_
        refine AllReadyH.cons (o := _) rfl (fun K hK => ?_) AllReadyH.nil
        go_simp
        (go_at_call 31; refine (HP.out _).mono ?_; rintro e w9 ⟨rfl, hb9⟩; have hB9 := hHeld.2.2.trans (hb9.mono hHeld.2.2.size); have hS9 := And.intro (H0.out.below hB9) (And.intro (H1.out.below hB9) hB9); clear hb9 hB9)
        refine hK.out _ _ hS9 (fun hHeld => ?_)
        clear hK K
        try simp only [Act.put, List.setIfInBounds_toArray, List.set_cons_zero, List.set_cons_succ]
        (refine takeD (i := 5) (some 2) rfl rfl (by kernel_rfl) (by kernel_rfl) (by kernel_rfl) (fun _ _ _ h => h) (v := ?_) rfl ?_ (by assumption) ?_; rotate_left; (focus (intro w hSw; (try dsimp only at hSw); first | (go_simp; done) | (go_simp; with_reducible rfl))); try simp only [Act.put, List.setIfInBounds_toArray, List.set_cons_zero, List.set_cons_succ])
        refine wpAnyH_done (by kernel_rfl) ?_ _
        go_wp2
        go_ret
        exact ⟨rfl, hHeld.2.2⟩
set_option maxRecDepth 100000 in
set_option maxHeartbeats 4000000 in
theorem cTrim (b0 : Nat) (s : By) (w : World) (h0 : Bx w b0 (.string ⟨s.toArray⟩)) (ms : s.length ≤ maxLen) (hc : CellOk w) :
    Calls Tryd.prog 26 #[.pointer (some ⟨b0, 0, none⟩)] w fun e w' => e = endT (trS s) ∧ Below w.heap.size w w' := by
  have hmf : ∀ (fn : Fn) (first cap : Array Value) (w : World), (Instr.makeFunc fn first cap).run Tryd.prog w = .ok (.func fn first cap) w := fun _ _ _ _ => rfl
  have H0 := hide h0
  have c0 : w.cell? ⟨b0, 0, none⟩ = some (.string ⟨s.toArray⟩) := h0
  by_cases ks : 255 < s.length
  · have HR : Hid (∀ W : World, Calls Tryd.prog 20 #[.string ⟨s.toArray⟩] W fun e w' => e = .panicked RF ∧ Below W.heap.size W w') := fun W => sright_no s W ks ms
    rw [show trS s = none from if_pos ks]
    clear h0 ks
    generalize (⟨s.toArray⟩ : ByteArray) = S at *
    go_enter Tryd.func26, Tryd.ntmps26
    go_wp2_with (go_at_call 20; refine (HR.out _).mono ?_; rintro e w9 ⟨rfl, hb9⟩)
    exact ⟨rfl, rfl, hb9⟩
  · have HR : Hid (∀ W : World, Calls Tryd.prog 20 #[.string ⟨s.toArray⟩] W fun e w' => e = .returned (.string ⟨s.toArray⟩) ∧ Below W.heap.size W w') := fun W => sright_ok s W (by omega)
    rw [show trS s = some (trL s) from if_neg ks]
    have HT : Hid (∀ W : World, Below w.heap.size w W → Calls Tryd.prog 27 #[.string ⟨s.toArray⟩] W fun e w' => e = .returned (.string ⟨(trL s).toArray⟩) ∧ Below W.heap.size W w') := fun W hW => trimmed_any s W (by omega) (cellOk_below hc hW)
    simp only [endT]
    generalize trL s = D at *
    clear h0 ks
    generalize (⟨s.toArray⟩ : ByteArray) = S at *
    go_enter Tryd.func26, Tryd.ntmps26
    go_wp2_with (first | (go_at_call 20; refine (HR.out _).mono ?_; rintro e w9 ⟨rfl, hb9⟩) | (go_at_call 27; refine (HT.out _ hb9).mono ?_; rintro e w8 ⟨rfl, hb8⟩))
    go_ret
    exact ⟨rfl, below_up hb9 hb8⟩
set_option maxRecDepth 100000 in
set_option maxHeartbeats 4000000 in
theorem cLower (b0 : Nat) (s : By) (w : World) (h0 : Bx w b0 (.string ⟨s.toArray⟩)) (ms : s.length ≤ maxLen) :
    Calls Tryd.prog 28 #[.pointer (some ⟨b0, 0, none⟩)] w fun e w' => e = endT (loS s) ∧ Below w.heap.size w w' := by
  have hmf : ∀ (fn : Fn) (first cap : Array Value) (w : World), (Instr.makeFunc fn first cap).run Tryd.prog w = .ok (.func fn first cap) w := fun _ _ _ _ => rfl
  have H0 := hide h0
  have c0 : w.cell? ⟨b0, 0, none⟩ = some (.string ⟨s.toArray⟩) := h0
  by_cases ks : 255 < s.length
  · have HR : Hid (∀ W : World, Calls Tryd.prog 20 #[.string ⟨s.toArray⟩] W fun e w' => e = .panicked RF ∧ Below W.heap.size W w') := fun W => sright_no s W ks ms
    rw [show loS s = none from if_pos ks]
    clear h0 ks
    generalize (⟨s.toArray⟩ : ByteArray) = S at *
    go_enter Tryd.func28, Tryd.ntmps28
    go_wp2_with (go_at_call 20; refine (HR.out _).mono ?_; rintro e w9 ⟨rfl, hb9⟩)
    exact ⟨rfl, rfl, hb9⟩
  · have HR : Hid (∀ W : World, Calls Tryd.prog 20 #[.string ⟨s.toArray⟩] W fun e w' => e = .returned (.string ⟨s.toArray⟩) ∧ Below W.heap.size W w') := fun W => sright_ok s W (by omega)
    rw [show loS s = some (loL s) from if_neg ks]
    have HT : Hid (∀ W : World, Below w.heap.size w W → Calls Tryd.prog 29 #[.string ⟨s.toArray⟩] W fun e w' => e = .returned (.string ⟨(loL s).toArray⟩) ∧ Below W.heap.size W w') := fun W hW => lowered_any s W (by omega)
    simp only [endT]
    generalize loL s = D at *
    clear h0 ks
    generalize (⟨s.toArray⟩ : ByteArray) = S at *
    go_enter Tryd.func28, Tryd.ntmps28
    go_wp2_with (first | (go_at_call 20; refine (HR.out _).mono ?_; rintro e w9 ⟨rfl, hb9⟩) | (go_at_call 29; refine (HT.out _ hb9).mono ?_; rintro e w8 ⟨rfl, hb8⟩))
    go_ret
    exact ⟨rfl, below_up hb9 hb8⟩
end Go.Proofs.YthooimaadgabiabDoor
