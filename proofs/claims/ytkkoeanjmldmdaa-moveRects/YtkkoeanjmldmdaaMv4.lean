/-
  The contract of move's Spot.
-/
import Derived.Test.YtkkoeanjmldmdaaMv3
namespace Go.Proofs.Ytkkoeanjmldmdaa
open Go.RowKit

/-- What lies where while Spot runs: the edit, the place, the answer. -/
def SpS (w : World) (k a n r c x y : Int) (w' : World) : Prop := At3 w' w.heap.size k a n ∧ Has2 w' (w.heap.size + 1) r c ∧ Has2 w' (w.heap.size + 1 + 1) x y ∧ Below w.heap.size w w'
theorem SpS.below {w w1 w' : World} {k a n r c x y : Int} (h : SpS w k a n r c x y w1) (m : Below w1.heap.size w1 w') : SpS w k a n r c x y w' :=
  ⟨h.1.below m, h.2.1.below m, h.2.2.1.below m, h.2.2.2.trans (m.mono h.2.2.2.size)⟩
theorem SpS.start (w : World) (k a n r c : Int) (t1 t2 t3 : TypeId) : SpS w k a n r c 0 0 (((w.alloc (.cells #[.int .i64 k, .int .i64 a, .int .i64 n] t1)).alloc (.cells #[.int .i64 r, .int .i64 c] t2)).alloc (.cells #[.int .i64 0, .int .i64 0] t3)) := by
  refine ⟨((At3.new w k a n t1).alloc _).alloc _, ?_, ?_, ?_⟩
  · have := (Has2.new (w.alloc (.cells #[.int .i64 k, .int .i64 a, .int .i64 n] t1)) r c t2).alloc (.cells #[.int .i64 0, .int .i64 0] t3)
    simpa using this
  · have := Has2.new ((w.alloc (.cells #[.int .i64 k, .int .i64 a, .int .i64 n] t1)).alloc (.cells #[.int .i64 r, .int .i64 c] t2)) 0 0 t3
    simpa using this
  · repeat' (first | with_reducible exact Below.refl _ _ | with_reducible refine Below.setCell ?_ ?_ _ | with_reducible refine Below.alloc ?_ ?_ _ | with_reducible refine below_drewN ?_ _ | with_reducible refine Below.drew ?_ | with_reducible refine Below.trans ?_ (Below.mono (by assumption) ?_) | with_reducible exact Nat.le_refl _ | with_reducible refine Nat.le_trans ?_ (Below.size (by assumption)) | with_reducible refine Nat.le_trans ?_ (size_alloc _ _) | with_reducible refine Nat.le_trans ?_ (size_set _ _ _) | with_reducible refine Nat.le_trans ?_ (size_drewN _ _) | with_reducible refine Nat.le_trans ?_ (size_drew _) | (simp; done) | (simp; omega) | omega)
theorem SpS.row {w w1 w' : World} {k a n r c x y v : Int} (h : SpS w k a n r c x y w1) (m : Put w1 (w.heap.size + 1) 0 (.int .i64 v) w') : SpS w k a n v c x y w' :=
  ⟨m.at3 (by omega) h.1, m.first h.2.1, m.has2 (by omega) h.2.2.1, h.2.2.2.trans (m.below.mono (by omega))⟩
theorem SpS.col {w w1 w' : World} {k a n r c x y v : Int} (h : SpS w k a n r c x y w1) (m : Put w1 (w.heap.size + 1) 1 (.int .i64 v) w') : SpS w k a n r v x y w' :=
  ⟨m.at3 (by omega) h.1, m.second h.2.1, m.has2 (by omega) h.2.2.1, h.2.2.2.trans (m.below.mono (by omega))⟩
theorem ofR_same {r c : Int} (h : placeB r c = true) : ofR r c r c = (r, c, r, c, 0) := by
  rw [ofR_yes h h]; simp

theorem SpS.alloc {w w1 : World} {k a n r c x y : Int} (h : SpS w k a n r c x y w1) (o : Obj) : SpS w k a n r c x y (w1.alloc o) := h.below ((Below.refl _ _).alloc (Nat.le_refl _) o)
theorem SpA.of {w w' : World} {k a n r c x y : Int} (h : SpS w k a n r c x y w') : w'.cell? ⟨w.heap.size, 0, none⟩ = some (.int .i64 k) ∧ w'.cell? ⟨w.heap.size, 1, none⟩ = some (.int .i64 a) ∧ w'.cell? ⟨w.heap.size, 2, none⟩ = some (.int .i64 n) ∧ w'.cell? ⟨w.heap.size + 1, 0, none⟩ = some (.int .i64 r) ∧ w'.cell? ⟨w.heap.size + 1, 1, none⟩ = some (.int .i64 c) ∧ SpS w k a n r c x y w' :=
  ⟨h.1.2.1, h.1.2.2.1, h.1.2.2.2, h.2.1.1.2.1, h.2.1.1.2.2, h⟩
theorem SpA.below {w w' w2 : World} {k a n r c x y : Int} (h : w'.cell? ⟨w.heap.size, 0, none⟩ = some (.int .i64 k) ∧ w'.cell? ⟨w.heap.size, 1, none⟩ = some (.int .i64 a) ∧ w'.cell? ⟨w.heap.size, 2, none⟩ = some (.int .i64 n) ∧ w'.cell? ⟨w.heap.size + 1, 0, none⟩ = some (.int .i64 r) ∧ w'.cell? ⟨w.heap.size + 1, 1, none⟩ = some (.int .i64 c) ∧ SpS w k a n r c x y w') (m : Below w'.heap.size w' w2) : w2.cell? ⟨w.heap.size, 0, none⟩ = some (.int .i64 k) ∧ w2.cell? ⟨w.heap.size, 1, none⟩ = some (.int .i64 a) ∧ w2.cell? ⟨w.heap.size, 2, none⟩ = some (.int .i64 n) ∧ w2.cell? ⟨w.heap.size + 1, 0, none⟩ = some (.int .i64 r) ∧ w2.cell? ⟨w.heap.size + 1, 1, none⟩ = some (.int .i64 c) ∧ SpS w k a n r c x y w2 :=
  SpA.of (h.2.2.2.2.2.below m)
theorem SpA.drew {w w' : World} {k a n r c x y : Int} (h : w'.cell? ⟨w.heap.size, 0, none⟩ = some (.int .i64 k) ∧ w'.cell? ⟨w.heap.size, 1, none⟩ = some (.int .i64 a) ∧ w'.cell? ⟨w.heap.size, 2, none⟩ = some (.int .i64 n) ∧ w'.cell? ⟨w.heap.size + 1, 0, none⟩ = some (.int .i64 r) ∧ w'.cell? ⟨w.heap.size + 1, 1, none⟩ = some (.int .i64 c) ∧ SpS w k a n r c x y w') : w'.drew.cell? ⟨w.heap.size, 0, none⟩ = some (.int .i64 k) ∧ w'.drew.cell? ⟨w.heap.size, 1, none⟩ = some (.int .i64 a) ∧ w'.drew.cell? ⟨w.heap.size, 2, none⟩ = some (.int .i64 n) ∧ w'.drew.cell? ⟨w.heap.size + 1, 0, none⟩ = some (.int .i64 r) ∧ w'.drew.cell? ⟨w.heap.size + 1, 1, none⟩ = some (.int .i64 c) ∧ SpS w k a n r c x y w'.drew :=
  SpA.below h ((Below.refl _ _).drew)
theorem SpA.out {w w' : World} {k a n r c x y : Int} (h : w'.cell? ⟨w.heap.size, 0, none⟩ = some (.int .i64 k) ∧ w'.cell? ⟨w.heap.size, 1, none⟩ = some (.int .i64 a) ∧ w'.cell? ⟨w.heap.size, 2, none⟩ = some (.int .i64 n) ∧ w'.cell? ⟨w.heap.size + 1, 0, none⟩ = some (.int .i64 r) ∧ w'.cell? ⟨w.heap.size + 1, 1, none⟩ = some (.int .i64 c) ∧ SpS w k a n r c x y w') : SpS w k a n r c x y w' := h.2.2.2.2.2
set_option maxHeartbeats 1000000 in
theorem spot_any (k a n r c : Int) (w : World) :
    Calls Try.prog 9 #[.agg #[.int .i64 k, .int .i64 a, .int .i64 n], .agg #[.int .i64 r, .int .i64 c]] w fun e w' => e = .returned (.tuple #[.agg #[.int .i64 (spotR k a n r c).1, .int .i64 (spotR k a n r c).2.1], .int .i64 (spotR k a n r c).2.2.1, .int .i64 (spotR k a n r c).2.2.2]) ∧ Below w.heap.size w w' := by
  have HC : Hid (∀ W : World, Calls Try.prog 13 #[.agg #[.int .i64 k, .int .i64 a, .int .i64 n]] W fun e w' => e = .returned (.int .i64 (editR k a n)) ∧ Below W.heap.size W w') := fun W => edit_any k a n W
  have HO : Hid (∀ W : World, Calls Try.prog 22 #[.agg #[.int .i64 r, .int .i64 c], .agg #[.int .i64 r, .int .i64 c]] W fun e w' => e = .returned (.tuple #[.agg #[.int .i64 (ofR r c r c).1, .int .i64 (ofR r c r c).2.1, .int .i64 (ofR r c r c).2.2.1, .int .i64 (ofR r c r c).2.2.2.1], .int .i64 (ofR r c r c).2.2.2.2]) ∧ Below W.heap.size W w') := fun W => of_any r c r c W
  have H0 := hide (SpS.start w k a n r c 24 26 26)
  cases hp : placeB r c
  · rw [spotR_no (Or.inr hp)]
    rw [ofR_no (Or.inl hp)] at HO
    cases h : editB k a n
    · rw [editR_no h] at HC
      clear h hp
      go_enter Try.func9, Try.ntmps9
      go_wp2_with (first | (go_at_call 22; refine (HO.out _).mono ?_; rintro e w1 ⟨rfl, hb1⟩; have hs1 := H0.out.below hb1; have ⟨⟨z1, k0, k1, k2⟩, ⟨⟨z2, j0, j1⟩, f0, f1⟩, ⟨⟨z3, i0, i1⟩, g0, g1⟩, _⟩ := hs1; have HS := hide (hs1.alloc (.cells #[.int .i64 0, .int .i64 0, .int .i64 0, .int .i64 0] 42)); clear hs1) | (go_at_call 13; refine (HC.out _).mono ?_; rintro e w2 ⟨rfl, hb2⟩; have hs2 := HS.out.below hb2; clear z1 k0 k1 k2 z2 j0 j1 f0 f1 z3 i0 i1 g0 g1; have ⟨⟨z1, k0, k1, k2⟩, ⟨⟨z2, j0, j1⟩, f0, f1⟩, ⟨⟨z3, i0, i1⟩, g0, g1⟩, _⟩ := hs2; have HS2 := hide hs2; clear hs2))
      refine bodyPost_ret (v := .tuple #[.agg #[.int .i64 0, .int .i64 0], .int .i64 0, .int .i64 2]) (by simp [results, Try.results9, go_sem, *]) rfl ⟨rfl, ?_⟩
      repeat' (first | with_reducible exact Below.refl _ _ | with_reducible refine Below.setCell ?_ ?_ _ | with_reducible refine Below.alloc ?_ ?_ _ | with_reducible refine below_drewN ?_ _ | with_reducible refine Below.drew ?_ | with_reducible refine Below.trans ?_ (Below.mono (by assumption) ?_) | with_reducible exact Nat.le_refl _ | with_reducible refine Nat.le_trans ?_ (Below.size (by assumption)) | with_reducible refine Nat.le_trans ?_ (size_alloc _ _) | with_reducible refine Nat.le_trans ?_ (size_set _ _ _) | with_reducible refine Nat.le_trans ?_ (size_drewN _ _) | with_reducible refine Nat.le_trans ?_ (size_drew _) | (simp; done) | (simp; omega) | omega)
    · rw [editR_yes h] at HC
      clear h hp
      go_enter Try.func9, Try.ntmps9
      go_wp2_with (first | (go_at_call 22; refine (HO.out _).mono ?_; rintro e w1 ⟨rfl, hb1⟩; have hs1 := H0.out.below hb1; have ⟨⟨z1, k0, k1, k2⟩, ⟨⟨z2, j0, j1⟩, f0, f1⟩, ⟨⟨z3, i0, i1⟩, g0, g1⟩, _⟩ := hs1; have HS := hide (hs1.alloc (.cells #[.int .i64 0, .int .i64 0, .int .i64 0, .int .i64 0] 42)); clear hs1) | (go_at_call 13; refine (HC.out _).mono ?_; rintro e w2 ⟨rfl, hb2⟩; have hs2 := HS.out.below hb2; clear z1 k0 k1 k2 z2 j0 j1 f0 f1 z3 i0 i1 g0 g1; have ⟨⟨z1, k0, k1, k2⟩, ⟨⟨z2, j0, j1⟩, f0, f1⟩, ⟨⟨z3, i0, i1⟩, g0, g1⟩, _⟩ := hs2; have HS2 := hide hs2; clear hs2))
      refine bodyPost_ret (v := .tuple #[.agg #[.int .i64 0, .int .i64 0], .int .i64 0, .int .i64 2]) (by simp [results, Try.results9, go_sem, *]) rfl ⟨rfl, ?_⟩
      repeat' (first | with_reducible exact Below.refl _ _ | with_reducible refine Below.setCell ?_ ?_ _ | with_reducible refine Below.alloc ?_ ?_ _ | with_reducible refine below_drewN ?_ _ | with_reducible refine Below.drew ?_ | with_reducible refine Below.trans ?_ (Below.mono (by assumption) ?_) | with_reducible exact Nat.le_refl _ | with_reducible refine Nat.le_trans ?_ (Below.size (by assumption)) | with_reducible refine Nat.le_trans ?_ (size_alloc _ _) | with_reducible refine Nat.le_trans ?_ (size_set _ _ _) | with_reducible refine Nat.le_trans ?_ (size_drewN _ _) | with_reducible refine Nat.le_trans ?_ (size_drew _) | (simp; done) | (simp; omega) | omega)
  · rw [ofR_same hp] at HO
    cases h : editB k a n
    · rw [spotR_no (Or.inl h)]
      rw [editR_no h] at HC
      clear h hp
      go_enter Try.func9, Try.ntmps9
      go_wp2_with (first | (go_at_call 22; refine (HO.out _).mono ?_; rintro e w1 ⟨rfl, hb1⟩; have hs1 := H0.out.below hb1; have ⟨⟨z1, k0, k1, k2⟩, ⟨⟨z2, j0, j1⟩, f0, f1⟩, ⟨⟨z3, i0, i1⟩, g0, g1⟩, _⟩ := hs1; have HS := hide (hs1.alloc (.cells #[.int .i64 r, .int .i64 c, .int .i64 r, .int .i64 c] 42)); clear hs1) | (go_at_call 13; refine (HC.out _).mono ?_; rintro e w2 ⟨rfl, hb2⟩; have hs2 := HS.out.below hb2; clear z1 k0 k1 k2 z2 j0 j1 f0 f1 z3 i0 i1 g0 g1; have ⟨⟨z1, k0, k1, k2⟩, ⟨⟨z2, j0, j1⟩, f0, f1⟩, ⟨⟨z3, i0, i1⟩, g0, g1⟩, _⟩ := hs2; have HS2 := hide hs2; clear hs2))
      refine bodyPost_ret (v := .tuple #[.agg #[.int .i64 0, .int .i64 0], .int .i64 0, .int .i64 2]) (by simp [results, Try.results9, go_sem, *]) rfl ⟨rfl, ?_⟩
      repeat' (first | with_reducible exact Below.refl _ _ | with_reducible refine Below.setCell ?_ ?_ _ | with_reducible refine Below.alloc ?_ ?_ _ | with_reducible refine below_drewN ?_ _ | with_reducible refine Below.drew ?_ | with_reducible refine Below.trans ?_ (Below.mono (by assumption) ?_) | with_reducible exact Nat.le_refl _ | with_reducible refine Nat.le_trans ?_ (Below.size (by assumption)) | with_reducible refine Nat.le_trans ?_ (size_alloc _ _) | with_reducible refine Nat.le_trans ?_ (size_set _ _ _) | with_reducible refine Nat.le_trans ?_ (size_drewN _ _) | with_reducible refine Nat.le_trans ?_ (size_drew _) | (simp; done) | (simp; omega) | omega)
    · rw [editR_yes h] at HC
      cases hr : rowsB k
      · have ht : 1 ≤ c ∧ c ≤ topE k := by
          have := placeB_iff.1 hp
          rw [top_cols hr]
          omega
        rw [spotR_col h hp hr]
        have HA : Hid (∀ W : World, Calls Try.prog 23 #[.int .i64 k, .pointer (some ⟨w.heap.size + 1, 0, none⟩)] W fun e w' => e = .returned (.pointer (some ⟨w.heap.size + 1, 1, none⟩)) ∧ w' = W) := fun W => by have := along_any k (w.heap.size + 1) W; rw [hr] at this; exact this
        have HL : Hid (∀ W : World, Calls Try.prog 24 #[.agg #[.int .i64 k, .int .i64 a, .int .i64 n]] W fun e w' => e = .returned (.agg #[.int .i64 (lostF k a n), .int .i64 (lostL k a n)]) ∧ Below W.heap.size W w') := fun W => lost_any h W
        have HH : Hid (∀ W : World, Calls Try.prog 25 #[.agg #[.int .i64 (lostF k a n), .int .i64 (lostL k a n)], .int .i64 c] W fun e w' => e = .returned (.bool (takenB k a n c)) ∧ Below W.heap.size W w') := fun W => by
          have ord := lost_ord h
          exact (has_some _ _ c (by omega) W).mono fun e w' ⟨h1, h2⟩ => ⟨h1, by rw [h2]; exact (Below.refl _ _).alloc (Nat.le_refl _) _⟩
        have HF : Hid (∀ W : World, Calls Try.prog 26 #[.int .i64 k] W fun e w' => e = .returned (.int .i64 (fateR k)) ∧ w' = W) := fun W => fate_any k W
        have HK : Hid (∀ W : World, SpS w k a n r c 0 0 W → Calls Try.prog 27 #[.agg #[.int .i64 k, .int .i64 a, .int .i64 n], .pointer (some ⟨w.heap.size + 1, 1, none⟩)] W fun e w' => e = .returned (.tuple #[]) ∧ SpS w k a n r (carryR k a n c) 0 0 w') := fun W hs => by
          have g := editB_iff.1 h
          have tt := topE_le k
          exact (carry_any (by omega) _ _ W hs.2.1.1.1 hs.2.1.1.2.2 hs.2.1.2.2).mono fun e w' ⟨h1, h2⟩ => ⟨h1, hs.col h2⟩
        generalize hv : carryR k a n c = v at *
        generalize lostF k a n = A at *
        generalize lostL k a n = B at *
        generalize fateR k = F at *
        cases hq : takenB k a n c
        · rw [hq] at HH
          clear h hp hr ht hq hv
          go_enter Try.func9, Try.ntmps9
          go_wp2_with (first | (go_at_call 22; refine (HO.out _).mono ?_; rintro e w1 ⟨rfl, hb1⟩; have hs1 := H0.out.below hb1; have ⟨⟨z1, k0, k1, k2⟩, ⟨⟨z2, j0, j1⟩, f0, f1⟩, ⟨⟨z3, i0, i1⟩, g0, g1⟩, _⟩ := hs1; have HS := hide (hs1.alloc (.cells #[.int .i64 r, .int .i64 c, .int .i64 r, .int .i64 c] 42)); clear hs1) | (go_at_call 13; refine (HC.out _).mono ?_; rintro e w2 ⟨rfl, hb2⟩; have hs2 := HS.out.below hb2; clear z1 k0 k1 k2 z2 j0 j1 f0 f1 z3 i0 i1 g0 g1; have ⟨⟨z1, k0, k1, k2⟩, ⟨⟨z2, j0, j1⟩, f0, f1⟩, ⟨⟨z3, i0, i1⟩, g0, g1⟩, _⟩ := hs2; have HS2 := hide hs2; clear hs2) | (go_at_call 23; refine (HA.out _).mono ?_; rintro e wz ⟨rfl, hz⟩; subst wz))
          have hs8 := SpA.of HS2.out
          go_region_held3 (fun w' => w'.cell? ⟨w.heap.size, 0, none⟩ = some (.int .i64 k) ∧ w'.cell? ⟨w.heap.size, 1, none⟩ = some (.int .i64 a) ∧ w'.cell? ⟨w.heap.size, 2, none⟩ = some (.int .i64 n) ∧ w'.cell? ⟨w.heap.size + 1, 0, none⟩ = some (.int .i64 r) ∧ w'.cell? ⟨w.heap.size + 1, 1, none⟩ = some (.int .i64 c) ∧ SpS w k a n r c 0 0 w') (first | exact hs8 | assumption | exact SpA.drew (by assumption)) (first | (go_at_call 24; refine (HL.out _).mono ?_; rintro e w3 ⟨rfl, hb3⟩; have hs3 := SpA.below (by assumption) hb3) | (go_at_call 25; refine (HH.out _).mono ?_; rintro e w3 ⟨rfl, hb3⟩; have hs3 := SpA.below (by assumption) hb3))
          have hs9 := SpA.out (w' := w3) (by assumption)
          clear hs8 HS2 z1 k0 k1 k2 z2 j0 j1 f0 f1 z3 i0 i1 g0 g1
          have ⟨⟨z1, k0, k1, k2⟩, ⟨⟨z2, j0, j1⟩, f0, f1⟩, ⟨⟨z3, i0, i1⟩, g0, g1⟩, hbz⟩ := hs9
          have HS3 := hide hs9
          clear hs9
          go_wp2_with (go_at_call 27; refine (HK.out _ HS3.out).mono ?_; rintro e w4 ⟨rfl, hs4⟩; clear z1 k0 k1 k2 z2 j0 j1 f0 f1 z3 i0 i1 g0 g1 hbz; have ⟨⟨z1, k0, k1, k2⟩, ⟨⟨z2, j0, j1⟩, f0, f1⟩, ⟨⟨z3, i0, i1⟩, g0, g1⟩, hbz⟩ := hs4)
          refine bodyPost_ret (v := .tuple #[.agg #[.int .i64 r, .int .i64 v], .int .i64 0, .int .i64 0]) (by simp [results, Try.results9, go_sem, *]) rfl ⟨rfl, ?_⟩
          repeat' (first | with_reducible exact Below.refl _ _ | with_reducible refine Below.setCell ?_ ?_ _ | with_reducible refine Below.alloc ?_ ?_ _ | with_reducible refine below_drewN ?_ _ | with_reducible refine Below.drew ?_ | with_reducible refine Below.trans ?_ (Below.mono (by assumption) ?_) | with_reducible exact Nat.le_refl _ | with_reducible refine Nat.le_trans ?_ (Below.size (by assumption)) | with_reducible refine Nat.le_trans ?_ (size_alloc _ _) | with_reducible refine Nat.le_trans ?_ (size_set _ _ _) | with_reducible refine Nat.le_trans ?_ (size_drewN _ _) | with_reducible refine Nat.le_trans ?_ (size_drew _) | (simp; done) | (simp; omega) | omega)
        · rw [hq] at HH
          clear h hp hr ht hq hv
          go_enter Try.func9, Try.ntmps9
          go_wp2_with (first | (go_at_call 22; refine (HO.out _).mono ?_; rintro e w1 ⟨rfl, hb1⟩; have hs1 := H0.out.below hb1; have ⟨⟨z1, k0, k1, k2⟩, ⟨⟨z2, j0, j1⟩, f0, f1⟩, ⟨⟨z3, i0, i1⟩, g0, g1⟩, _⟩ := hs1; have HS := hide (hs1.alloc (.cells #[.int .i64 r, .int .i64 c, .int .i64 r, .int .i64 c] 42)); clear hs1) | (go_at_call 13; refine (HC.out _).mono ?_; rintro e w2 ⟨rfl, hb2⟩; have hs2 := HS.out.below hb2; clear z1 k0 k1 k2 z2 j0 j1 f0 f1 z3 i0 i1 g0 g1; have ⟨⟨z1, k0, k1, k2⟩, ⟨⟨z2, j0, j1⟩, f0, f1⟩, ⟨⟨z3, i0, i1⟩, g0, g1⟩, _⟩ := hs2; have HS2 := hide hs2; clear hs2) | (go_at_call 23; refine (HA.out _).mono ?_; rintro e wz ⟨rfl, hz⟩; subst wz))
          have hs8 := SpA.of HS2.out
          go_region_held3 (fun w' => w'.cell? ⟨w.heap.size, 0, none⟩ = some (.int .i64 k) ∧ w'.cell? ⟨w.heap.size, 1, none⟩ = some (.int .i64 a) ∧ w'.cell? ⟨w.heap.size, 2, none⟩ = some (.int .i64 n) ∧ w'.cell? ⟨w.heap.size + 1, 0, none⟩ = some (.int .i64 r) ∧ w'.cell? ⟨w.heap.size + 1, 1, none⟩ = some (.int .i64 c) ∧ SpS w k a n r c 0 0 w') (first | exact hs8 | assumption | exact SpA.drew (by assumption)) (first | (go_at_call 24; refine (HL.out _).mono ?_; rintro e w3 ⟨rfl, hb3⟩; have hs3 := SpA.below (by assumption) hb3) | (go_at_call 25; refine (HH.out _).mono ?_; rintro e w3 ⟨rfl, hb3⟩; have hs3 := SpA.below (by assumption) hb3))
          have hs9 := SpA.out (w' := w3) (by assumption)
          clear hs8 HS2 z1 k0 k1 k2 z2 j0 j1 f0 f1 z3 i0 i1 g0 g1
          have ⟨⟨z1, k0, k1, k2⟩, ⟨⟨z2, j0, j1⟩, f0, f1⟩, ⟨⟨z3, i0, i1⟩, g0, g1⟩, hbz⟩ := hs9
          have HS3 := hide hs9
          clear hs9
          go_wp2_with (go_at_call 26; refine (HF.out _).mono ?_; rintro e wz ⟨rfl, hz⟩; subst wz)
          refine bodyPost_ret (v := .tuple #[.agg #[.int .i64 0, .int .i64 0], .int .i64 F, .int .i64 0]) (by simp [results, Try.results9, go_sem, *]) rfl ⟨rfl, ?_⟩
          repeat' (first | with_reducible exact Below.refl _ _ | with_reducible refine Below.setCell ?_ ?_ _ | with_reducible refine Below.alloc ?_ ?_ _ | with_reducible refine below_drewN ?_ _ | with_reducible refine Below.drew ?_ | with_reducible refine Below.trans ?_ (Below.mono (by assumption) ?_) | with_reducible exact Nat.le_refl _ | with_reducible refine Nat.le_trans ?_ (Below.size (by assumption)) | with_reducible refine Nat.le_trans ?_ (size_alloc _ _) | with_reducible refine Nat.le_trans ?_ (size_set _ _ _) | with_reducible refine Nat.le_trans ?_ (size_drewN _ _) | with_reducible refine Nat.le_trans ?_ (size_drew _) | (simp; done) | (simp; omega) | omega)
      · have ht : 1 ≤ r ∧ r ≤ topE k := by
          have := placeB_iff.1 hp
          rw [top_rows hr]
          omega
        rw [spotR_row h hp hr]
        have HA : Hid (∀ W : World, Calls Try.prog 23 #[.int .i64 k, .pointer (some ⟨w.heap.size + 1, 0, none⟩)] W fun e w' => e = .returned (.pointer (some ⟨w.heap.size + 1, 0, none⟩)) ∧ w' = W) := fun W => by have := along_any k (w.heap.size + 1) W; rw [hr] at this; exact this
        have HL : Hid (∀ W : World, Calls Try.prog 24 #[.agg #[.int .i64 k, .int .i64 a, .int .i64 n]] W fun e w' => e = .returned (.agg #[.int .i64 (lostF k a n), .int .i64 (lostL k a n)]) ∧ Below W.heap.size W w') := fun W => lost_any h W
        have HH : Hid (∀ W : World, Calls Try.prog 25 #[.agg #[.int .i64 (lostF k a n), .int .i64 (lostL k a n)], .int .i64 r] W fun e w' => e = .returned (.bool (takenB k a n r)) ∧ Below W.heap.size W w') := fun W => by
          have ord := lost_ord h
          exact (has_some _ _ r (by omega) W).mono fun e w' ⟨h1, h2⟩ => ⟨h1, by rw [h2]; exact (Below.refl _ _).alloc (Nat.le_refl _) _⟩
        have HF : Hid (∀ W : World, Calls Try.prog 26 #[.int .i64 k] W fun e w' => e = .returned (.int .i64 (fateR k)) ∧ w' = W) := fun W => fate_any k W
        have HK : Hid (∀ W : World, SpS w k a n r c 0 0 W → Calls Try.prog 27 #[.agg #[.int .i64 k, .int .i64 a, .int .i64 n], .pointer (some ⟨w.heap.size + 1, 0, none⟩)] W fun e w' => e = .returned (.tuple #[]) ∧ SpS w k a n (carryR k a n r) c 0 0 w') := fun W hs => by
          have g := editB_iff.1 h
          have tt := topE_le k
          exact (carry_any (by omega) _ _ W hs.2.1.1.1 hs.2.1.1.2.1 hs.2.1.2.1).mono fun e w' ⟨h1, h2⟩ => ⟨h1, hs.row h2⟩
        generalize hv : carryR k a n r = v at *
        generalize lostF k a n = A at *
        generalize lostL k a n = B at *
        generalize fateR k = F at *
        cases hq : takenB k a n r
        · rw [hq] at HH
          clear h hp hr ht hq hv
          go_enter Try.func9, Try.ntmps9
          go_wp2_with (first | (go_at_call 22; refine (HO.out _).mono ?_; rintro e w1 ⟨rfl, hb1⟩; have hs1 := H0.out.below hb1; have ⟨⟨z1, k0, k1, k2⟩, ⟨⟨z2, j0, j1⟩, f0, f1⟩, ⟨⟨z3, i0, i1⟩, g0, g1⟩, _⟩ := hs1; have HS := hide (hs1.alloc (.cells #[.int .i64 r, .int .i64 c, .int .i64 r, .int .i64 c] 42)); clear hs1) | (go_at_call 13; refine (HC.out _).mono ?_; rintro e w2 ⟨rfl, hb2⟩; have hs2 := HS.out.below hb2; clear z1 k0 k1 k2 z2 j0 j1 f0 f1 z3 i0 i1 g0 g1; have ⟨⟨z1, k0, k1, k2⟩, ⟨⟨z2, j0, j1⟩, f0, f1⟩, ⟨⟨z3, i0, i1⟩, g0, g1⟩, _⟩ := hs2; have HS2 := hide hs2; clear hs2) | (go_at_call 23; refine (HA.out _).mono ?_; rintro e wz ⟨rfl, hz⟩; subst wz))
          have hs8 := SpA.of HS2.out
          go_region_held3 (fun w' => w'.cell? ⟨w.heap.size, 0, none⟩ = some (.int .i64 k) ∧ w'.cell? ⟨w.heap.size, 1, none⟩ = some (.int .i64 a) ∧ w'.cell? ⟨w.heap.size, 2, none⟩ = some (.int .i64 n) ∧ w'.cell? ⟨w.heap.size + 1, 0, none⟩ = some (.int .i64 r) ∧ w'.cell? ⟨w.heap.size + 1, 1, none⟩ = some (.int .i64 c) ∧ SpS w k a n r c 0 0 w') (first | exact hs8 | assumption | exact SpA.drew (by assumption)) (first | (go_at_call 24; refine (HL.out _).mono ?_; rintro e w3 ⟨rfl, hb3⟩; have hs3 := SpA.below (by assumption) hb3) | (go_at_call 25; refine (HH.out _).mono ?_; rintro e w3 ⟨rfl, hb3⟩; have hs3 := SpA.below (by assumption) hb3))
          have hs9 := SpA.out (w' := w3) (by assumption)
          clear hs8 HS2 z1 k0 k1 k2 z2 j0 j1 f0 f1 z3 i0 i1 g0 g1
          have ⟨⟨z1, k0, k1, k2⟩, ⟨⟨z2, j0, j1⟩, f0, f1⟩, ⟨⟨z3, i0, i1⟩, g0, g1⟩, hbz⟩ := hs9
          have HS3 := hide hs9
          clear hs9
          go_wp2_with (go_at_call 27; refine (HK.out _ HS3.out).mono ?_; rintro e w4 ⟨rfl, hs4⟩; clear z1 k0 k1 k2 z2 j0 j1 f0 f1 z3 i0 i1 g0 g1 hbz; have ⟨⟨z1, k0, k1, k2⟩, ⟨⟨z2, j0, j1⟩, f0, f1⟩, ⟨⟨z3, i0, i1⟩, g0, g1⟩, hbz⟩ := hs4)
          refine bodyPost_ret (v := .tuple #[.agg #[.int .i64 v, .int .i64 c], .int .i64 0, .int .i64 0]) (by simp [results, Try.results9, go_sem, *]) rfl ⟨rfl, ?_⟩
          repeat' (first | with_reducible exact Below.refl _ _ | with_reducible refine Below.setCell ?_ ?_ _ | with_reducible refine Below.alloc ?_ ?_ _ | with_reducible refine below_drewN ?_ _ | with_reducible refine Below.drew ?_ | with_reducible refine Below.trans ?_ (Below.mono (by assumption) ?_) | with_reducible exact Nat.le_refl _ | with_reducible refine Nat.le_trans ?_ (Below.size (by assumption)) | with_reducible refine Nat.le_trans ?_ (size_alloc _ _) | with_reducible refine Nat.le_trans ?_ (size_set _ _ _) | with_reducible refine Nat.le_trans ?_ (size_drewN _ _) | with_reducible refine Nat.le_trans ?_ (size_drew _) | (simp; done) | (simp; omega) | omega)
        · rw [hq] at HH
          clear h hp hr ht hq hv
          go_enter Try.func9, Try.ntmps9
          go_wp2_with (first | (go_at_call 22; refine (HO.out _).mono ?_; rintro e w1 ⟨rfl, hb1⟩; have hs1 := H0.out.below hb1; have ⟨⟨z1, k0, k1, k2⟩, ⟨⟨z2, j0, j1⟩, f0, f1⟩, ⟨⟨z3, i0, i1⟩, g0, g1⟩, _⟩ := hs1; have HS := hide (hs1.alloc (.cells #[.int .i64 r, .int .i64 c, .int .i64 r, .int .i64 c] 42)); clear hs1) | (go_at_call 13; refine (HC.out _).mono ?_; rintro e w2 ⟨rfl, hb2⟩; have hs2 := HS.out.below hb2; clear z1 k0 k1 k2 z2 j0 j1 f0 f1 z3 i0 i1 g0 g1; have ⟨⟨z1, k0, k1, k2⟩, ⟨⟨z2, j0, j1⟩, f0, f1⟩, ⟨⟨z3, i0, i1⟩, g0, g1⟩, _⟩ := hs2; have HS2 := hide hs2; clear hs2) | (go_at_call 23; refine (HA.out _).mono ?_; rintro e wz ⟨rfl, hz⟩; subst wz))
          have hs8 := SpA.of HS2.out
          go_region_held3 (fun w' => w'.cell? ⟨w.heap.size, 0, none⟩ = some (.int .i64 k) ∧ w'.cell? ⟨w.heap.size, 1, none⟩ = some (.int .i64 a) ∧ w'.cell? ⟨w.heap.size, 2, none⟩ = some (.int .i64 n) ∧ w'.cell? ⟨w.heap.size + 1, 0, none⟩ = some (.int .i64 r) ∧ w'.cell? ⟨w.heap.size + 1, 1, none⟩ = some (.int .i64 c) ∧ SpS w k a n r c 0 0 w') (first | exact hs8 | assumption | exact SpA.drew (by assumption)) (first | (go_at_call 24; refine (HL.out _).mono ?_; rintro e w3 ⟨rfl, hb3⟩; have hs3 := SpA.below (by assumption) hb3) | (go_at_call 25; refine (HH.out _).mono ?_; rintro e w3 ⟨rfl, hb3⟩; have hs3 := SpA.below (by assumption) hb3))
          have hs9 := SpA.out (w' := w3) (by assumption)
          clear hs8 HS2 z1 k0 k1 k2 z2 j0 j1 f0 f1 z3 i0 i1 g0 g1
          have ⟨⟨z1, k0, k1, k2⟩, ⟨⟨z2, j0, j1⟩, f0, f1⟩, ⟨⟨z3, i0, i1⟩, g0, g1⟩, hbz⟩ := hs9
          have HS3 := hide hs9
          clear hs9
          go_wp2_with (go_at_call 26; refine (HF.out _).mono ?_; rintro e wz ⟨rfl, hz⟩; subst wz)
          refine bodyPost_ret (v := .tuple #[.agg #[.int .i64 0, .int .i64 0], .int .i64 F, .int .i64 0]) (by simp [results, Try.results9, go_sem, *]) rfl ⟨rfl, ?_⟩
          repeat' (first | with_reducible exact Below.refl _ _ | with_reducible refine Below.setCell ?_ ?_ _ | with_reducible refine Below.alloc ?_ ?_ _ | with_reducible refine below_drewN ?_ _ | with_reducible refine Below.drew ?_ | with_reducible refine Below.trans ?_ (Below.mono (by assumption) ?_) | with_reducible exact Nat.le_refl _ | with_reducible refine Nat.le_trans ?_ (Below.size (by assumption)) | with_reducible refine Nat.le_trans ?_ (size_alloc _ _) | with_reducible refine Nat.le_trans ?_ (size_set _ _ _) | with_reducible refine Nat.le_trans ?_ (size_drewN _ _) | with_reducible refine Nat.le_trans ?_ (size_drew _) | (simp; done) | (simp; omega) | omega)
end Go.Proofs.Ytkkoeanjmldmdaa
