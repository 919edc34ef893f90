/-
  The contracts of the sort's closures: cmp.Compare of texts, a form's name.
-/
import Derived.Test.YtklldmidcmfbdaaGreatDoorVVal3
import Derived.Test.YtklldmidcmfbdaaGreatDoorFmR
import Derived.WalkKit
import Derived.LoopTactic
import Derived.BigCall
import Derived.Shelf.SlSortCmp.NoneTotal
import Derived.Deep.RegionHeld3
namespace Go.Proofs.YtklldmidcmfbdaaGreatDoor
open Go.RowKit Go.Sort Go.Shelf

set_option maxHeartbeats 1000000 in
theorem isNaN_any (s : ByteArray) (w : World) : Calls Tryz.prog 39 #[.string s] w fun e w' => e = .returned (.bool false) ∧ w' = w := by
  go_enter Tryz.func39, Tryz.ntmps39
  go_wp2
  go_ret
  exact ⟨rfl, rfl⟩
theorem run_gtrS (s t : ByteArray) (w : World) : (binOp BinOp.gtr 9 (Value.string s) (Value.string t)).run Tryz.prog w = .ok (.bool (!Op.bytesLess s.toList t.toList && !(s.toList == t.toList))) w := by
  simp [binOp, Op.stringOp]
/-- How two texts stand. -/
def cmpT (s t : ByteArray) : Int := if Op.bytesLess s.toList t.toList = true then -1 else if (s.toList == t.toList) = true then 0 else 1
set_option maxHeartbeats 1000000 in
theorem cmpS_any (s t : ByteArray) (w : World) : Calls Tryz.prog 29 #[.string s, .string t] w fun e w' => e = .returned (.int .i64 (cmpT s t)) ∧ w' = w := by
  have HN : Hid (∀ (s : ByteArray) (W : World), Calls Tryz.prog 39 #[.string s] W fun e w' => e = .returned (.bool false) ∧ w' = W) := isNaN_any
  have hg := run_gtrS s t w
  unfold cmpT
  cases h1 : Op.bytesLess s.toList t.toList with
  | true =>
    rw [if_pos rfl]
    go_enter Tryz.func29, Tryz.ntmps29
    go_wp2_with (go_at_call 39; refine (HN.out _ _).mono ?_; rintro e wz ⟨rfl, hz⟩; subst wz)
    go_ret
    exact ⟨rfl, rfl⟩
  | false =>
    rw [if_neg (by simp)]
    rw [h1] at hg
    cases h2 : (s.toList == t.toList) with
    | true =>
      rw [h2] at hg
      rw [if_pos rfl]
      go_enter Tryz.func29, Tryz.ntmps29
      go_wp2_with (go_at_call 39; refine (HN.out _ _).mono ?_; rintro e wz ⟨rfl, hz⟩; subst wz)
      go_ret
      exact ⟨rfl, rfl⟩
    | false =>
      rw [h2] at hg
      rw [if_neg (by simp)]
      go_enter Tryz.func29, Tryz.ntmps29
      go_wp2_with (go_at_call 39; refine (HN.out _ _).mono ?_; rintro e wz ⟨rfl, hz⟩; subst wz)
      go_ret
      exact ⟨rfl, rfl⟩
set_option maxHeartbeats 1000000 in
theorem nameOf_any (s : ByteArray) (x y : Int) (v : Value) (w : World) : Calls Tryz.prog 13 #[.agg #[.string s, .int .i64 x, .int .i64 y, v]] w fun e w' => e = .returned (.string s) ∧ w' = w.alloc (.cells #[.string s, .int .i64 x, .int .i64 y, v] 27) := by
  go_enter Tryz.func13, Tryz.ntmps13
  go_wp2
  go_ret
  exact ⟨rfl, rfl⟩
set_option maxHeartbeats 1000000 in
theorem cmpF_any (b : Nat) (s t : ByteArray) (x y x' y' : Int) (v v' : Value) (w : World) (hb : b < w.heap.size) (hc : w.cell? ⟨b, 0, none⟩ = some (.func (.func 13) #[] #[])) :
    Calls Tryz.prog 28 #[.agg #[.string s, .int .i64 x, .int .i64 y, v], .agg #[.string t, .int .i64 x', .int .i64 y', v'], .pointer (some ⟨b, 0, none⟩)] w fun e w' => e = .returned (.int .i64 (cmpT s t)) ∧ ∃ q os', w' = grow (w.drewN q) os' := by
  have HC : Hid (∀ (W : World), Calls Tryz.prog 29 #[.string s, .string t] W fun e w' => e = .returned (.int .i64 (cmpT s t)) ∧ w' = W) := fun W => cmpS_any s t W
  generalize cmpT s t = r at *
  have HNa : Hid (∀ (W : World), Calls Tryz.prog 13 #[.agg #[.string s, .int .i64 x, .int .i64 y, v]] W fun e w' => e = .returned (.string s) ∧ w' = W.alloc (.cells #[.string s, .int .i64 x, .int .i64 y, v] 27)) := fun W => nameOf_any s x y v W
  have HNb : Hid (∀ (W : World), Calls Tryz.prog 13 #[.agg #[.string t, .int .i64 x', .int .i64 y', v']] W fun e w' => e = .returned (.string t) ∧ w' = W.alloc (.cells #[.string t, .int .i64 x', .int .i64 y', v'] 27)) := fun W => nameOf_any t x' y' v' W
  have hb2 : b ≠ w.heap.size ∧ b ≠ w.heap.size + 1 := ⟨by omega, by omega⟩
  go_enter Tryz.func28, Tryz.ntmps28
  go_wp2
  have k1 : ∀ j, ((w.alloc (.cells #[.string s, .int .i64 x, .int .i64 y, v] 27)).alloc (.cells #[.string t, .int .i64 x', .int .i64 y', v'] 27)).cell? ⟨w.heap.size, j, none⟩ = (#[.string s, .int .i64 x, .int .i64 y, v] : Array Value)[j]? := fun j => by
    have e : ((w.alloc (.cells #[.string s, .int .i64 x, .int .i64 y, v] 27)).alloc (.cells #[.string t, .int .i64 x', .int .i64 y', v'] 27)).heap[w.heap.size]? = some (.cells #[.string s, .int .i64 x, .int .i64 y, v] 27 (0, 0)) := (Below.heap_alloc _ _ _ (by simp)).trans (World.alloc_heap_new w _)
    simp [World.cell?, e]
  have k2 : ∀ j, ((w.alloc (.cells #[.string s, .int .i64 x, .int .i64 y, v] 27)).alloc (.cells #[.string t, .int .i64 x', .int .i64 y', v'] 27)).cell? ⟨w.heap.size + 1, j, none⟩ = (#[.string t, .int .i64 x', .int .i64 y', v'] : Array Value)[j]? := fun j => by
    have e := World.alloc_heap_new (w.alloc (.cells #[.string s, .int .i64 x, .int .i64 y, v] 27)) (.cells #[.string t, .int .i64 x', .int .i64 y', v'] 27)
    rw [World.size_alloc] at e
    unfold World.cell?
    rw [e]
    simp
  have k3 : ((w.alloc (.cells #[.string s, .int .i64 x, .int .i64 y, v] 27)).alloc (.cells #[.string t, .int .i64 x', .int .i64 y', v'] 27)).cell? ⟨b, 0, none⟩ = some (.func (.func 13) #[] #[]) := ((((Below.refl w.heap.size w).alloc (Nat.le_refl _) _).alloc (by simp) _).cell (p := ⟨b, 0, none⟩) hb).trans hc
  have HBW : Hid (Below w.heap.size w ((w.alloc (.cells #[.string s, .int .i64 x, .int .i64 y, v] 27)).alloc (.cells #[.string t, .int .i64 x', .int .i64 y', v'] 27))) := ((Below.refl w.heap.size w).alloc (Nat.le_refl _) _).alloc (by simp) _
  have hz2 : ((w.alloc (.cells #[.string s, .int .i64 x, .int .i64 y, v] 27)).alloc (.cells #[.string t, .int .i64 x', .int .i64 y', v'] 27)).heap.size = w.heap.size + 1 + 1 := by simp
  obtain ⟨W2, hW2⟩ : ∃ W2, W2 = (w.alloc (.cells #[.string s, .int .i64 x, .int .i64 y, v] 27)).alloc (.cells #[.string t, .int .i64 x', .int .i64 y', v'] 27) := ⟨_, rfl⟩
  have HW2 := hide hW2
  rw [← hW2] at k1 k2 k3 HBW hz2 ⊢
  clear hW2 hc
  have HS : Hid (∀ W, Below W2.heap.size W2 W → W.cell? ⟨b, 0, none⟩ = some (.func (.func 13) #[] #[]) ∧ W.cell? ⟨w.heap.size, 0, none⟩ = some (.string s) ∧ W.cell? ⟨w.heap.size, 1, none⟩ = some (.int .i64 x) ∧ W.cell? ⟨w.heap.size, 2, none⟩ = some (.int .i64 y) ∧ W.cell? ⟨w.heap.size, 3, none⟩ = some (v) ∧ W.cell? ⟨w.heap.size + 1, 0, none⟩ = some (.string t) ∧ W.cell? ⟨w.heap.size + 1, 1, none⟩ = some (.int .i64 x') ∧ W.cell? ⟨w.heap.size + 1, 2, none⟩ = some (.int .i64 y') ∧ W.cell? ⟨w.heap.size + 1, 3, none⟩ = some (v')) := fun W hW => ⟨(hW.cell (p := ⟨b, 0, none⟩) (by show b < _; omega)).trans k3, (hW.cell (p := ⟨w.heap.size, 0, none⟩) (by show w.heap.size < _; omega)).trans (k1 0), (hW.cell (p := ⟨w.heap.size, 1, none⟩) (by show w.heap.size < _; omega)).trans (k1 1), (hW.cell (p := ⟨w.heap.size, 2, none⟩) (by show w.heap.size < _; omega)).trans (k1 2), (hW.cell (p := ⟨w.heap.size, 3, none⟩) (by show w.heap.size < _; omega)).trans (k1 3), (hW.cell (p := ⟨w.heap.size + 1, 0, none⟩) (by show w.heap.size + 1 < _; omega)).trans (k2 0), (hW.cell (p := ⟨w.heap.size + 1, 1, none⟩) (by show w.heap.size + 1 < _; omega)).trans (k2 1), (hW.cell (p := ⟨w.heap.size + 1, 2, none⟩) (by show w.heap.size + 1 < _; omega)).trans (k2 2), (hW.cell (p := ⟨w.heap.size + 1, 3, none⟩) (by show w.heap.size + 1 < _; omega)).trans (k2 3)⟩
  refine wp_region_held_drew (S := fun W => W.cell? ⟨b, 0, none⟩ = some (.func (.func 13) #[] #[]) ∧ W.cell? ⟨w.heap.size, 0, none⟩ = some (.string s) ∧ W.cell? ⟨w.heap.size, 1, none⟩ = some (.int .i64 x) ∧ W.cell? ⟨w.heap.size, 2, none⟩ = some (.int .i64 y) ∧ W.cell? ⟨w.heap.size, 3, none⟩ = some (v) ∧ W.cell? ⟨w.heap.size + 1, 0, none⟩ = some (.string t) ∧ W.cell? ⟨w.heap.size + 1, 1, none⟩ = some (.int .i64 x') ∧ W.cell? ⟨w.heap.size + 1, 2, none⟩ = some (.int .i64 y') ∧ W.cell? ⟨w.heap.size + 1, 3, none⟩ = some (v')) (by kernel_rfl) (HS.out _ (Below.refl _ _).drew) (fun hHeld => ?_)
  (refine takeD (i := 0) (some 6) rfl rfl (by kernel_rfl) (by kernel_rfl) (by kernel_rfl) (fun _ _ _ h => h) (v := ?_) rfl ?_ (by assumption) ?_; rotate_left; (focus (intro w hSw; (try dsimp only at hSw); first | (go_simp; done) | (go_simp; with_reducible rfl))); try simp only [Act.put, List.setIfInBounds_toArray, List.set_cons_zero, List.set_cons_succ]); (refine takeD (i := 1) (some 7) rfl rfl (by kernel_rfl) (by kernel_rfl) (by kernel_rfl) (fun _ _ _ h => h) (v := ?_) rfl ?_ (by assumption) ?_; rotate_left; (focus (intro w hSw; (try dsimp only at hSw); first | (go_simp; done) | (go_simp; with_reducible rfl))); try simp only [Act.put, List.setIfInBounds_toArray, List.set_cons_zero, List.set_cons_succ]); (refine takeD (i := 3) (some 9) rfl rfl (by kernel_rfl) (by kernel_rfl) (by kernel_rfl) (fun _ _ _ h => h) (v := ?_) rfl ?_ (by assumption) ?_; rotate_left; (focus (intro w hSw; (try dsimp only at hSw); first | (go_simp; done) | (go_simp; with_reducible rfl))); try simp only [Act.put, List.setIfInBounds_toArray, List.set_cons_zero, List.set_cons_succ]); (refine takeD (i := 4) (some 10) rfl rfl (by kernel_rfl) (by kernel_rfl) (by kernel_rfl) (fun _ _ _ h => h) (v := ?_) rfl ?_ (by assumption) ?_; rotate_left; (focus (intro w hSw; (try dsimp only at hSw); first | (go_simp; done) | (go_simp; with_reducible rfl))); try simp only [Act.put, List.setIfInBounds_toArray, List.set_cons_zero, List.set_cons_succ])
  (refine wpAnyH_ready (rs := [2]) (by kernel_rfl) (by simp) ?_; refine AllReadyH.cons (o := _) rfl (fun K hK => ?_) AllReadyH.nil; go_simp; go_at_call_of 13 [Value.agg #[Value.string s, Value.int IntKind.i64 x, Value.int IntKind.i64 y, v]]; refine (HNa.out _).mono ?_; rintro e w3 ⟨rfl, rfl⟩; refine hK.out _ _ (HS.out _ (((Below.refl _ _).alloc (Nat.le_refl _) _).drew)) (fun hHeld => ?_); clear hK K; try simp only [Act.put, List.setIfInBounds_toArray, List.set_cons_zero, List.set_cons_succ])
  (refine wpAnyH_ready (rs := [5]) (by kernel_rfl) (by simp) ?_; refine AllReadyH.cons (o := _) rfl (fun K hK => ?_) AllReadyH.nil; go_simp; go_at_call_of 13 [Value.agg #[Value.string t, Value.int IntKind.i64 x', Value.int IntKind.i64 y', v']]; refine (HNb.out _).mono ?_; rintro e w4 ⟨rfl, rfl⟩; refine hK.out _ _ (HS.out _ ((((Below.refl _ _).alloc (Nat.le_refl _) _).alloc (by simp) _).drew)) (fun hHeld => ?_); clear hK K; try simp only [Act.put, List.setIfInBounds_toArray, List.set_cons_zero, List.set_cons_succ])
  (refine wpAnyH_ready (rs := [6]) (by kernel_rfl) (by simp) ?_; refine AllReadyH.cons (o := _) rfl (fun K hK => ?_) AllReadyH.nil; go_simp; go_at_call 29; refine (HC.out _).mono ?_; rintro e w5 ⟨rfl, rfl⟩; refine hK.out _ _ (HS.out _ ((((Below.refl _ _).alloc (Nat.le_refl _) _).alloc (by simp) _).drew)) (fun hHeld => ?_); clear hK K; try simp only [Act.put, List.setIfInBounds_toArray, List.set_cons_zero, List.set_cons_succ])
  (refine takeD (i := 7) (some 5) rfl rfl (by kernel_rfl) (by kernel_rfl) (by kernel_rfl) (fun _ _ _ h => h) (v := ?_) rfl ?_ (by assumption) ?_; rotate_left; (focus (intro w hSw; (try dsimp only at hSw); first | (go_simp; done) | (go_simp; with_reducible rfl))); try simp only [Act.put, List.setIfInBounds_toArray, List.set_cons_zero, List.set_cons_succ])
  refine wpAnyH_done (by kernel_rfl) ?_ _
  go_wp2
  go_ret
  refine ⟨rfl, 1, #[.cells #[.string s, .int .i64 x, .int .i64 y, v] 27 (0, 0), .cells #[.string t, .int .i64 x', .int .i64 y', v'] 27 (0, 0), .cells #[.string s, .int .i64 x, .int .i64 y, v] 27 (0, 0), .cells #[.string t, .int .i64 x', .int .i64 y', v'] 27 (0, 0)], ?_⟩
  rw [HW2.out]
  simp only [alloc_eq_grow, grow_grow]
  rfl
end Go.Proofs.YtklldmidcmfbdaaGreatDoor
