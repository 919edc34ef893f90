/-
  What strs' calls hand to told: closures over their arguments' boxes (a).
-/
import Derived.Test.YthooimaadgabiaaDoorSt8
namespace Go.Proofs.YthooimaadgabiaaDoor
open Go.RowKit
set_option linter.unusedSimpArgs false
set_option linter.unusedVariables false

set_option maxRecDepth 100000 in
set_option maxHeartbeats 4000000 in
theorem cLeft (b0 b1 : Nat) (s : By) (n : Int) (w : World) (h0 : Bx w b0 (.string ⟨s.toArray⟩)) (h1 : Bx w b1 (.int .i64 n)) (ms : s.length ≤ maxLen) :
    Calls Tryd.prog 37 #[.pointer (some ⟨b0, 0, none⟩), .pointer (some ⟨b1, 0, none⟩)] w fun e w' => e = endT (lfS s n) ∧ Below w.heap.size w w' := by
  have H0 := hide h0
  have H1 := hide h1
  by_cases ks : 255 < s.length
  · have HR : Hid (∀ W : World, Calls Tryd.prog 39 #[.string ⟨s.toArray⟩] W fun e w' => e = .panicked RF ∧ Below W.heap.size W w') := fun W => sright_no s W ks ms
    rw [show lfS s n = none from if_pos (by omega)]
    clear h0 h1 ks
    generalize (⟨s.toArray⟩ : ByteArray) = S at *
    go_enter Tryd.func37, Tryd.ntmps37
    go_wp2
    refine wp_region_held_drew (S := fun W => W.cell? ⟨b0, 0, none⟩ = some (.string S) ∧ W.cell? ⟨b1, 0, none⟩ = some (.int .i64 n) ∧ Below w.heap.size w W) (by kernel_rfl) ⟨H0.out, H1.out, (Below.refl _ _).drew⟩ (fun hHeld => ?_)
    (refine takeD (i := 0) (some 6) rfl rfl (by kernel_rfl) (by kernel_rfl) (by kernel_rfl) (fun _ _ _ h => h) (v := ?_) rfl ?_ (by assumption) ?_; rotate_left; (focus (intro w hSw; (try dsimp only at hSw); first | (go_simp; done) | (go_simp; with_reducible rfl))); try simp only [Act.put, List.setIfInBounds_toArray, List.set_cons_zero, List.set_cons_succ])
    (refine takeD (i := 2) (some 8) rfl rfl (by kernel_rfl) (by kernel_rfl) (by kernel_rfl) (fun _ _ _ h => h) (v := ?_) rfl ?_ (by assumption) ?_; rotate_left; (focus (intro w hSw; (try dsimp only at hSw); first | (go_simp; done) | (go_simp; with_reducible rfl))); try simp only [Act.put, List.setIfInBounds_toArray, List.set_cons_zero, List.set_cons_succ])
    refine wpAnyH_ready (rs := [1]) (by kernel_rfl) (by simp) ?_
    refine AllReadyH.cons (o := _) rfl (fun K hK => ?_) AllReadyH.nil
    go_simp
    (go_at_call 39; refine (HR.out _).mono ?_; rintro e w9 ⟨rfl, hb9⟩; exact ⟨rfl, rfl, hHeld.2.2.trans (hb9.mono hHeld.2.2.size)⟩)
  · by_cases kn : n < 0
    · have HR : Hid (∀ W : World, Calls Tryd.prog 39 #[.string ⟨s.toArray⟩] W fun e w' => e = .returned (.string ⟨s.toArray⟩) ∧ Below W.heap.size W w') := fun W => sright_ok s W (by omega)
      have HC : Hid (∀ W : World, Calls Tryd.prog 40 #[.int .i64 n] W fun e w' => e = .panicked RF ∧ w' = W) := fun W => count_no n W kn
      rw [show lfS s n = none from if_pos (by omega)]
      clear h0 h1 ks kn
      generalize (⟨s.toArray⟩ : ByteArray) = S at *
      go_enter Tryd.func37, Tryd.ntmps37
      go_wp2
      refine wp_region_held_drew (S := fun W => W.cell? ⟨b0, 0, none⟩ = some (.string S) ∧ W.cell? ⟨b1, 0, none⟩ = some (.int .i64 n) ∧ Below w.heap.size w W) (by kernel_rfl) ⟨H0.out, H1.out, (Below.refl _ _).drew⟩ (fun hHeld => ?_)
      (refine takeD (i := 0) (some 6) rfl rfl (by kernel_rfl) (by kernel_rfl) (by kernel_rfl) (fun _ _ _ h => h) (v := ?_) rfl ?_ (by assumption) ?_; rotate_left; (focus (intro w hSw; (try dsimp only at hSw); first | (go_simp; done) | (go_simp; with_reducible rfl))); try simp only [Act.put, List.setIfInBounds_toArray, List.set_cons_zero, List.set_cons_succ])
      (refine takeD (i := 2) (some 8) rfl rfl (by kernel_rfl) (by kernel_rfl) (by kernel_rfl) (fun _ _ _ h => h) (v := ?_) rfl ?_ (by assumption) ?_; rotate_left; (focus (intro w hSw; (try dsimp only at hSw); first | (go_simp; done) | (go_simp; with_reducible rfl))); try simp only [Act.put, List.setIfInBounds_toArray, List.set_cons_zero, List.set_cons_succ])
      refine wpAnyH_ready (rs := [1]) (by kernel_rfl) (by simp) ?_
      refine AllReadyH.cons (o := _) rfl (fun K hK => ?_) AllReadyH.nil
      go_simp
      (go_at_call 39; refine (HR.out _).mono ?_; rintro e w9 ⟨rfl, hb9⟩; have hB9 := hHeld.2.2.trans (hb9.mono hHeld.2.2.size); have hS9 := And.intro (H0.out.below hB9) (And.intro (H1.out.below hB9) hB9); clear hb9 hB9)
      refine hK.out _ _ hS9 (fun hHeld => ?_)
      clear hK K
      try simp only [Act.put, List.setIfInBounds_toArray, List.set_cons_zero, List.set_cons_succ]
      refine wpAnyH_ready (rs := [3]) (by kernel_rfl) (by simp) ?_
      refine AllReadyH.cons (o := _) rfl (fun K hK => ?_) AllReadyH.nil
      go_simp
      (go_at_call 40; refine (HC.out _).mono ?_; rintro e w9 ⟨rfl, rfl⟩; exact ⟨rfl, rfl, hHeld.2.2⟩)
    · have HR : Hid (∀ W : World, Calls Tryd.prog 39 #[.string ⟨s.toArray⟩] W fun e w' => e = .returned (.string ⟨s.toArray⟩) ∧ Below W.heap.size W w') := fun W => sright_ok s W (by omega)
      have HC : Hid (∀ W : World, Calls Tryd.prog 40 #[.int .i64 n] W fun e w' => e = .returned (.int .i64 n) ∧ w' = W) := fun W => count_ok n W (by omega)
      rw [show lfS s n = some (s.take n.toNat) from if_neg (by omega)]
      have HP : Hid (∀ W : World, Calls Tryd.prog 38 #[.string ⟨s.toArray⟩, .int .i64 n] W fun e w' => e = .returned (.tuple #[.string ⟨(s.take n.toNat).toArray⟩, .string ⟨(s.drop n.toNat).toArray⟩]) ∧ Below W.heap.size W w') := fun W => parted_any s n W (by omega) ms
      have HJ : Hid (∀ W : World, Calls Tryd.prog 41 #[.slice (some ⟨W.heap.size, 0, none⟩) 1 1] (W.alloc (.cells #[.string ⟨(s.take n.toNat).toArray⟩] 9)) fun e w' => e = .returned (.string ⟨(s.take n.toNat).toArray⟩) ∧ Below W.heap.size W w') := fun W => by
        have := joined1 (s.take n.toNat) W
        rwa [cap_yes (by rw [List.length_take]; omega)] at this
      simp only [endT]
      generalize s.take n.toNat = F at *
      generalize s.drop n.toNat = D at *
      clear h0 h1 ks kn
      generalize (⟨s.toArray⟩ : ByteArray) = S at *
      go_enter Tryd.func37, Tryd.ntmps37
      go_wp2
      refine wp_region_held_drew (S := fun W => W.cell? ⟨b0, 0, none⟩ = some (.string S) ∧ W.cell? ⟨b1, 0, none⟩ = some (.int .i64 n) ∧ Below w.heap.size w W) (by kernel_rfl) ⟨H0.out, H1.out, (Below.refl _ _).drew⟩ (fun hHeld => ?_)
      (refine takeD (i := 0) (some 6) rfl rfl (by kernel_rfl) (by kernel_rfl) (by kernel_rfl) (fun _ _ _ h => h) (v := ?_) rfl ?_ (by assumption) ?_; rotate_left; (focus (intro w hSw; (try dsimp only at hSw); first | (go_simp; done) | (go_simp; with_reducible rfl))); try simp only [Act.put, List.setIfInBounds_toArray, List.set_cons_zero, List.set_cons_succ])
      (refine takeD (i := 2) (some 8) rfl rfl (by kernel_rfl) (by kernel_rfl) (by kernel_rfl) (fun _ _ _ h => h) (v := ?_) rfl ?_ (by assumption) ?_; rotate_left; (focus (intro w hSw; (try dsimp only at hSw); first | (go_simp; done) | (go_simp; with_reducible rfl))); try simp only [Act.put, List.setIfInBounds_toArray, List.set_cons_zero, List.set_cons_succ])
      refine wpAnyH_ready (rs := [1]) (by kernel_rfl) (by simp) ?_
      refine AllReadyH.cons (o := _) rfl (fun K hK => ?_) AllReadyH.nil
      go_simp
      (go_at_call 39; refine (HR.out _).mono ?_; rintro e w9 ⟨rfl, hb9⟩; have hB9 := hHeld.2.2.trans (hb9.mono hHeld.2.2.size); have hS9 := And.intro (H0.out.below hB9) (And.intro (H1.out.below hB9) hB9); clear hb9 hB9)
      refine hK.out _ _ hS9 (fun hHeld => ?_)
      clear hK K
      try simp only [Act.put, List.setIfInBounds_toArray, List.set_cons_zero, List.set_cons_succ]
      refine wpAnyH_ready (rs := [3]) (by kernel_rfl) (by simp) ?_
      refine AllReadyH.cons (o := _) rfl (fun K hK => ?_) AllReadyH.nil
      go_simp
      (go_at_call 40; refine (HC.out _).mono ?_; rintro e w9 ⟨rfl, rfl⟩)
      refine hK.out _ _ hHeld (fun hHeld => ?_)
      clear hK K
      try simp only [Act.put, List.setIfInBounds_toArray, List.set_cons_zero, List.set_cons_succ]
      refine wpAnyH_ready (rs := [4]) (by kernel_rfl) (by simp) ?_
      refine AllReadyH.cons (o := _) rfl (fun K hK => ?_) AllReadyH.nil
      go_simp
      (go_at_call 38; refine (HP.out _).mono ?_; rintro e w9 ⟨rfl, hb9⟩; have hB9 := hHeld.2.2.trans (hb9.mono hHeld.2.2.size); have hS9 := And.intro (H0.out.below hB9) (And.intro (H1.out.below hB9) hB9); clear hb9 hB9)
      refine hK.out _ _ hS9 (fun hHeld => ?_)
      clear hK K
      try simp only [Act.put, List.setIfInBounds_toArray, List.set_cons_zero, List.set_cons_succ]
      (refine takeD (i := 5) (some 5) rfl rfl (by kernel_rfl) (by kernel_rfl) (by kernel_rfl) (fun _ _ _ h => h) (v := ?_) rfl ?_ (by assumption) ?_; rotate_left; (focus (intro w hSw; (try dsimp only at hSw); first | (go_simp; done) | (go_simp; with_reducible rfl))); try simp only [Act.put, List.setIfInBounds_toArray, List.set_cons_zero, List.set_cons_succ])
      (refine takeD (i := 6) (some 11) rfl rfl (by kernel_rfl) (by kernel_rfl) (by kernel_rfl) (fun _ _ _ h => h) (v := ?_) rfl ?_ (by assumption) ?_; rotate_left; (focus (intro w hSw; (try dsimp only at hSw); first | (go_simp; done) | (go_simp; with_reducible rfl))); try simp only [Act.put, List.setIfInBounds_toArray, List.set_cons_zero, List.set_cons_succ])
      (refine takeD (i := 7) (some 12) rfl rfl (by kernel_rfl) (by kernel_rfl) (by kernel_rfl) (fun _ _ _ h => h) (v := ?_) rfl ?_ (by assumption) ?_; rotate_left; (focus (intro w hSw; (try dsimp only at hSw); first | (go_simp; done) | (go_simp; with_reducible rfl))); try simp only [Act.put, List.setIfInBounds_toArray, List.set_cons_zero, List.set_cons_succ])
      (refine takeD (i := 8) (some 3) rfl rfl (by kernel_rfl) (by kernel_rfl) (by kernel_rfl) (fun _ _ _ h => h) (v := ?_) rfl ?_ (by assumption) ?_; rotate_left; (focus (intro w hSw; (try dsimp only at hSw); first | (go_simp; done) | (go_simp; with_reducible rfl))); try simp only [Act.put, List.setIfInBounds_toArray, List.set_cons_zero, List.set_cons_succ])
      (refine takeD (i := 9) (some 4) rfl rfl (by kernel_rfl) (by kernel_rfl) (by kernel_rfl) (fun _ _ _ h => h) (v := ?_) rfl ?_ (by assumption) ?_; rotate_left; (focus (intro w hSw; (try dsimp only at hSw); first | (go_simp; done) | (go_simp; with_reducible rfl))); try simp only [Act.put, List.setIfInBounds_toArray, List.set_cons_zero, List.set_cons_succ])
      refine wpAnyH_done (by kernel_rfl) ?_ _
      go_wp2_with (go_at_call 41; refine (HJ.out _).mono ?_; rintro e w8 ⟨rfl, hb8⟩)
      go_ret
      exact ⟨rfl, hHeld.2.2.trans (hb8.mono hHeld.2.2.size)⟩
set_option maxRecDepth 100000 in
set_option maxHeartbeats 4000000 in
theorem cRight (b0 b1 : Nat) (s : By) (n : Int) (w : World) (h0 : Bx w b0 (.string ⟨s.toArray⟩)) (h1 : Bx w b1 (.int .i64 n)) (ms : s.length ≤ maxLen) (nn : n ≤ 9223372036854775807) :
    Calls Tryd.prog 43 #[.pointer (some ⟨b0, 0, none⟩), .pointer (some ⟨b1, 0, none⟩)] w fun e w' => e = endT (rgS s n) ∧ Below w.heap.size w w' := by
  have hmf : ∀ (fn : Fn) (first cap : Array Value) (w : World), (Instr.makeFunc fn first cap).run Tryd.prog w = .ok (.func fn first cap) w := fun _ _ _ _ => rfl
  have H0 := hide h0
  have c0 : w.cell? ⟨b0, 0, none⟩ = some (.string ⟨s.toArray⟩) := h0
  have H1 := hide h1
  have c1 : w.cell? ⟨b1, 0, none⟩ = some (.int .i64 n) := h1
  by_cases ks : 255 < s.length
  · have HR : Hid (∀ W : World, Calls Tryd.prog 39 #[.string ⟨s.toArray⟩] W fun e w' => e = .panicked RF ∧ Below W.heap.size W w') := fun W => sright_no s W ks ms
    rw [show rgS s n = none from if_pos (by omega)]
    have sz := mk_size s
    clear h0 h1 ks
    generalize (⟨s.toArray⟩ : ByteArray) = S at *
    go_enter Tryd.func43, Tryd.ntmps43
    go_wp2
    refine wp_region_held_drew (S := fun W => W.cell? ⟨b0, 0, none⟩ = some (.string S) ∧ W.cell? ⟨b1, 0, none⟩ = some (.int .i64 n) ∧ Below w.heap.size w W) (by kernel_rfl) ⟨H0.out, H1.out, (Below.refl _ _).drew⟩ (fun hHeld => ?_)
    (refine takeD (i := 0) (some 6) rfl rfl (by kernel_rfl) (by kernel_rfl) (by kernel_rfl) (fun _ _ _ h => h) (v := ?_) rfl ?_ (by assumption) ?_; rotate_left; (focus (intro w hSw; (try dsimp only at hSw); first | (go_simp; done) | (go_simp; with_reducible rfl))); try simp only [Act.put, List.setIfInBounds_toArray, List.set_cons_zero, List.set_cons_succ])
    (refine takeD (i := 2) (some 8) rfl rfl (by kernel_rfl) (by kernel_rfl) (by kernel_rfl) (fun _ _ _ h => h) (v := ?_) rfl ?_ (by assumption) ?_; rotate_left; (focus (intro w hSw; (try dsimp only at hSw); first | (go_simp; done) | (go_simp; with_reducible rfl))); try simp only [Act.put, List.setIfInBounds_toArray, List.set_cons_zero, List.set_cons_succ])
    (refine takeD (i := 3) (some 9) rfl rfl (by kernel_rfl) (by kernel_rfl) (by kernel_rfl) (fun _ _ _ h => h) (v := ?_) rfl ?_ (by assumption) ?_; rotate_left; (focus (intro w hSw; (try dsimp only at hSw); first | (go_simp; done) | (go_simp; with_reducible rfl))); try simp only [Act.put, List.setIfInBounds_toArray, List.set_cons_zero, List.set_cons_succ])
    (refine takeD (i := 4) (some 10) rfl rfl (by kernel_rfl) (by kernel_rfl) (by kernel_rfl) (fun _ _ _ h => h) (v := ?_) rfl ?_ (by assumption) ?_; rotate_left; (focus (intro w hSw; (try dsimp only at hSw); first | (go_simp; done) | (go_simp; with_reducible rfl))); try simp only [Act.put, List.setIfInBounds_toArray, List.set_cons_zero, List.set_cons_succ])
    refine wpAnyH_ready (rs := [1]) (by kernel_rfl) (by simp) ?_
    refine AllReadyH.cons (o := _) rfl (fun K hK => ?_) AllReadyH.nil
    go_simp
    (go_at_call 39; refine (HR.out _).mono ?_; rintro e w9 ⟨rfl, hb9⟩; exact ⟨rfl, rfl, hHeld.2.2.trans (hb9.mono hHeld.2.2.size)⟩)
  · by_cases kn : n < 0
    · have HR : Hid (∀ W : World, Calls Tryd.prog 39 #[.string ⟨s.toArray⟩] W fun e w' => e = .returned (.string ⟨s.toArray⟩) ∧ Below W.heap.size W w') := fun W => sright_ok s W (by omega)
      have HC : Hid (∀ W : World, Calls Tryd.prog 40 #[.int .i64 n] W fun e w' => e = .panicked RF ∧ w' = W) := fun W => count_no n W kn
      rw [show rgS s n = none from if_pos (by omega)]
      have sz := mk_size s
      clear h0 h1 ks kn
      generalize (⟨s.toArray⟩ : ByteArray) = S at *
      go_enter Tryd.func43, Tryd.ntmps43
      go_wp2
      refine wp_region_held_drew (S := fun W => W.cell? ⟨b0, 0, none⟩ = some (.string S) ∧ W.cell? ⟨b1, 0, none⟩ = some (.int .i64 n) ∧ Below w.heap.size w W) (by kernel_rfl) ⟨H0.out, H1.out, (Below.refl _ _).drew⟩ (fun hHeld => ?_)
      (refine takeD (i := 0) (some 6) rfl rfl (by kernel_rfl) (by kernel_rfl) (by kernel_rfl) (fun _ _ _ h => h) (v := ?_) rfl ?_ (by assumption) ?_; rotate_left; (focus (intro w hSw; (try dsimp only at hSw); first | (go_simp; done) | (go_simp; with_reducible rfl))); try simp only [Act.put, List.setIfInBounds_toArray, List.set_cons_zero, List.set_cons_succ])
      (refine takeD (i := 2) (some 8) rfl rfl (by kernel_rfl) (by kernel_rfl) (by kernel_rfl) (fun _ _ _ h => h) (v := ?_) rfl ?_ (by assumption) ?_; rotate_left; (focus (intro w hSw; (try dsimp only at hSw); first | (go_simp; done) | (go_simp; with_reducible rfl))); try simp only [Act.put, List.setIfInBounds_toArray, List.set_cons_zero, List.set_cons_succ])
      (refine takeD (i := 3) (some 9) rfl rfl (by kernel_rfl) (by kernel_rfl) (by kernel_rfl) (fun _ _ _ h => h) (v := ?_) rfl ?_ (by assumption) ?_; rotate_left; (focus (intro w hSw; (try dsimp only at hSw); first | (go_simp; done) | (go_simp; with_reducible rfl))); try simp only [Act.put, List.setIfInBounds_toArray, List.set_cons_zero, List.set_cons_succ])
      (refine takeD (i := 4) (some 10) rfl rfl (by kernel_rfl) (by kernel_rfl) (by kernel_rfl) (fun _ _ _ h => h) (v := ?_) rfl ?_ (by assumption) ?_; rotate_left; (focus (intro w hSw; (try dsimp only at hSw); first | (go_simp; done) | (go_simp; with_reducible rfl))); try simp only [Act.put, List.setIfInBounds_toArray, List.set_cons_zero, List.set_cons_succ])
      refine wpAnyH_ready (rs := [1]) (by kernel_rfl) (by simp) ?_
      refine AllReadyH.cons (o := _) rfl (fun K hK => ?_) AllReadyH.nil
      go_simp
      (go_at_call 39; refine (HR.out _).mono ?_; rintro e w9 ⟨rfl, hb9⟩; have hB9 := hHeld.2.2.trans (hb9.mono hHeld.2.2.size); have hS9 := And.intro (H0.out.below hB9) (And.intro (H1.out.below hB9) hB9); clear hb9 hB9)
      refine hK.out _ _ hS9 (fun hHeld => ?_)
      clear hK K
      try simp only [Act.put, List.setIfInBounds_toArray, List.set_cons_zero, List.set_cons_succ]
      refine wpAnyH_ready (rs := [5]) (by kernel_rfl) (by simp) ?_
      refine AllReadyH.cons (o := _) rfl (fun K hK => ?_) AllReadyH.nil
      go_simp
      (go_at_call 40; refine (HC.out _).mono ?_; rintro e w9 ⟨rfl, rfl⟩; exact ⟨rfl, rfl, hHeld.2.2⟩)
    · have HR : Hid (∀ W : World, Calls Tryd.prog 39 #[.string ⟨s.toArray⟩] W fun e w' => e = .returned (.string ⟨s.toArray⟩) ∧ Below W.heap.size W w') := fun W => sright_ok s W (by omega)
      have HC : Hid (∀ W : World, Calls Tryd.prog 40 #[.int .i64 n] W fun e w' => e = .returned (.int .i64 n) ∧ w' = W) := fun W => count_ok n W (by omega)
      rw [show rgS s n = some (s.drop (s.length - n.toNat)) from if_neg (by omega)]
      have sz := mk_size s
      obtain ⟨j, hj⟩ : ∃ j, s.length - n.toNat = j := ⟨_, rfl⟩
      rw [hj]
      have hmx : max ((s.length : Int) - n) 0 = (j : Int) := by omega
      have hw : IntKind.i64.wrap ((s.length : Int) - n) = (s.length : Int) - n := by rw [IntKind.wrap_i64]; omega
      have HP : Hid (∀ W : World, Calls Tryd.prog 38 #[.string ⟨s.toArray⟩, .int .i64 (j : Int)] W fun e w' => e = .returned (.tuple #[.string ⟨(s.take j).toArray⟩, .string ⟨(s.drop j).toArray⟩]) ∧ Below W.heap.size W w') := fun W => by
        have := parted_any s j W (by omega) ms
        rwa [Int.toNat_natCast] at this
      have HJ : Hid (∀ W : World, Calls Tryd.prog 41 #[.slice (some ⟨W.heap.size, 0, none⟩) 1 1] (W.alloc (.cells #[.string ⟨(s.drop j).toArray⟩] 9)) fun e w' => e = .returned (.string ⟨(s.drop j).toArray⟩) ∧ Below W.heap.size W w') := fun W => by
        have := joined1 (s.drop j) W
        rwa [cap_yes (by (try simp only [List.length_take, List.length_drop]); omega)] at this
      simp only [endT]
      generalize s.take j = F at *
      generalize s.drop j = D at *
      clear h0 h1 ks kn
      generalize (⟨s.toArray⟩ : ByteArray) = S at *
      go_enter Tryd.func43, Tryd.ntmps43
      go_wp2
      refine wp_region_held_drew (S := fun W => W.cell? ⟨b0, 0, none⟩ = some (.string S) ∧ W.cell? ⟨b1, 0, none⟩ = some (.int .i64 n) ∧ Below w.heap.size w W) (by kernel_rfl) ⟨H0.out, H1.out, (Below.refl _ _).drew⟩ (fun hHeld => ?_)
      (refine takeD (i := 0) (some 6) rfl rfl (by kernel_rfl) (by kernel_rfl) (by kernel_rfl) (fun _ _ _ h => h) (v := ?_) rfl ?_ (by assumption) ?_; rotate_left; (focus (intro w hSw; (try dsimp only at hSw); first | (go_simp; done) | (go_simp; with_reducible rfl))); try simp only [Act.put, List.setIfInBounds_toArray, List.set_cons_zero, List.set_cons_succ])
      (refine takeD (i := 2) (some 8) rfl rfl (by kernel_rfl) (by kernel_rfl) (by kernel_rfl) (fun _ _ _ h => h) (v := ?_) rfl ?_ (by assumption) ?_; rotate_left; (focus (intro w hSw; (try dsimp only at hSw); first | (go_simp; done) | (go_simp; with_reducible rfl))); try simp only [Act.put, List.setIfInBounds_toArray, List.set_cons_zero, List.set_cons_succ])
      (refine takeD (i := 3) (some 9) rfl rfl (by kernel_rfl) (by kernel_rfl) (by kernel_rfl) (fun _ _ _ h => h) (v := ?_) rfl ?_ (by assumption) ?_; rotate_left; (focus (intro w hSw; (try dsimp only at hSw); first | (go_simp; done) | (go_simp; with_reducible rfl))); try simp only [Act.put, List.setIfInBounds_toArray, List.set_cons_zero, List.set_cons_succ])
      (refine takeD (i := 4) (some 10) rfl rfl (by kernel_rfl) (by kernel_rfl) (by kernel_rfl) (fun _ _ _ h => h) (v := ?_) rfl ?_ (by assumption) ?_; rotate_left; (focus (intro w hSw; (try dsimp only at hSw); first | (go_simp; done) | (go_simp; with_reducible rfl))); try simp only [Act.put, List.setIfInBounds_toArray, List.set_cons_zero, List.set_cons_succ])
      refine wpAnyH_ready (rs := [1]) (by kernel_rfl) (by simp) ?_
      refine AllReadyH.cons (o := _) rfl (fun K hK => ?_) AllReadyH.nil
      go_simp
      (go_at_call 39; refine (HR.out _).mono ?_; rintro e w9 ⟨rfl, hb9⟩; have hB9 := hHeld.2.2.trans (hb9.mono hHeld.2.2.size); have hS9 := And.intro (H0.out.below hB9) (And.intro (H1.out.below hB9) hB9); clear hb9 hB9)
      refine hK.out _ _ hS9 (fun hHeld => ?_)
      clear hK K
      try simp only [Act.put, List.setIfInBounds_toArray, List.set_cons_zero, List.set_cons_succ]
      refine wpAnyH_ready (rs := [5]) (by kernel_rfl) (by simp) ?_
      refine AllReadyH.cons (o := _) rfl (fun K hK => ?_) AllReadyH.nil
      go_simp
      (go_at_call 40; refine (HC.out _).mono ?_; rintro e w9 ⟨rfl, rfl⟩)
      refine hK.out _ _ hHeld (fun hHeld => ?_)
      clear hK K
      try simp only [Act.put, List.setIfInBounds_toArray, List.set_cons_zero, List.set_cons_succ]
      (refine takeD (i := 6) (some 12) rfl rfl (by kernel_rfl) (by kernel_rfl) (by kernel_rfl) (fun _ _ _ h => h) (v := ?_) rfl ?_ (by assumption) ?_; rotate_left; (focus (intro w hSw; (try dsimp only at hSw); first | (go_simp; done) | (go_simp; with_reducible rfl))); try simp only [Act.put, List.setIfInBounds_toArray, List.set_cons_zero, List.set_cons_succ])
      (refine takeD (i := 7) (some 13) rfl rfl (by kernel_rfl) (by kernel_rfl) (by kernel_rfl) (fun _ _ _ h => h) (v := ?_) rfl ?_ (by assumption) ?_; rotate_left; (focus (intro w hSw; (try dsimp only at hSw); first | (go_simp; done) | (go_simp; with_reducible rfl))); try simp only [Act.put, List.setIfInBounds_toArray, List.set_cons_zero, List.set_cons_succ])
      refine wpAnyH_ready (rs := [8]) (by kernel_rfl) (by simp) ?_
      refine AllReadyH.cons (o := _) rfl (fun K hK => ?_) AllReadyH.nil
      go_simp
      (go_at_call 38; refine (HP.out _).mono ?_; rintro e w9 ⟨rfl, hb9⟩; have hB9 := hHeld.2.2.trans (hb9.mono hHeld.2.2.size); have hS9 := And.intro (H0.out.below hB9) (And.intro (H1.out.below hB9) hB9); clear hb9 hB9)
      refine hK.out _ _ hS9 (fun hHeld => ?_)
      clear hK K
      try simp only [Act.put, List.setIfInBounds_toArray, List.set_cons_zero, List.set_cons_succ]
      (refine takeD (i := 9) (some 5) rfl rfl (by kernel_rfl) (by kernel_rfl) (by kernel_rfl) (fun _ _ _ h => h) (v := ?_) rfl ?_ (by assumption) ?_; rotate_left; (focus (intro w hSw; (try dsimp only at hSw); first | (go_simp; done) | (go_simp; with_reducible rfl))); try simp only [Act.put, List.setIfInBounds_toArray, List.set_cons_zero, List.set_cons_succ])
      (refine takeD (i := 10) (some 15) rfl rfl (by kernel_rfl) (by kernel_rfl) (by kernel_rfl) (fun _ _ _ h => h) (v := ?_) rfl ?_ (by assumption) ?_; rotate_left; (focus (intro w hSw; (try dsimp only at hSw); first | (go_simp; done) | (go_simp; with_reducible rfl))); try simp only [Act.put, List.setIfInBounds_toArray, List.set_cons_zero, List.set_cons_succ])
      (refine takeD (i := 11) (some 16) rfl rfl (by kernel_rfl) (by kernel_rfl) (by kernel_rfl) (fun _ _ _ h => h) (v := ?_) rfl ?_ (by assumption) ?_; rotate_left; (focus (intro w hSw; (try dsimp only at hSw); first | (go_simp; done) | (go_simp; with_reducible rfl))); try simp only [Act.put, List.setIfInBounds_toArray, List.set_cons_zero, List.set_cons_succ])
      (refine takeD (i := 12) (some 3) rfl rfl (by kernel_rfl) (by kernel_rfl) (by kernel_rfl) (fun _ _ _ h => h) (v := ?_) rfl ?_ (by assumption) ?_; rotate_left; (focus (intro w hSw; (try dsimp only at hSw); first | (go_simp; done) | (go_simp; with_reducible rfl))); try simp only [Act.put, List.setIfInBounds_toArray, List.set_cons_zero, List.set_cons_succ])
      (refine takeD (i := 13) (some 4) rfl rfl (by kernel_rfl) (by kernel_rfl) (by kernel_rfl) (fun _ _ _ h => h) (v := ?_) rfl ?_ (by assumption) ?_; rotate_left; (focus (intro w hSw; (try dsimp only at hSw); first | (go_simp; done) | (go_simp; with_reducible rfl))); try simp only [Act.put, List.setIfInBounds_toArray, List.set_cons_zero, List.set_cons_succ])
      refine wpAnyH_done (by kernel_rfl) ?_ _
      go_wp2_with (go_at_call 41; refine (HJ.out _).mono ?_; rintro e w8 ⟨rfl, hb8⟩)
      go_ret
      exact ⟨rfl, hHeld.2.2.trans (hb8.mono hHeld.2.2.size)⟩
end Go.Proofs.YthooimaadgabiaaDoor
