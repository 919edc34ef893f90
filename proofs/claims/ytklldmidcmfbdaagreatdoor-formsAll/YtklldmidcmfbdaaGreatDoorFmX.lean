/-
  The rectangle that a node names: plain words; the contract of forms.rectOf.
-/
import Derived.Test.YtklldmidcmfbdaaGreatDoorFmC2
import Derived.Test.YtklldmidcmfbdaaGreatDoorVPla
import Derived.Deep.RegionHeld3
namespace Go.Proofs.YtklldmidcmfbdaaGreatDoor
open Go.RowKit Go.Shelf

/-- What place.Of tells of a head's two corners. -/
def ofH (h : Hd) : Int × Int × Int × Int × Int := if h.kind = 2 then Pla.ofR h.row h.col h.row h.col else Pla.ofR h.row h.col h.row2 h.col2
/-- A rectangle's cells. -/
def rcC (r : Int × Int × Int × Int) : List Value := [.int .i64 r.1, .int .i64 r.2.1, .int .i64 r.2.2.1, .int .i64 r.2.2.2]
/-- The rectangle that a head names, and whether it names one. -/
def rectH (h : Hd) : (Int × Int × Int × Int) × Bool := if rangeB h = true then (((ofH h).1, (ofH h).2.1, (ofH h).2.2.1, (ofH h).2.2.2.1), decide ((ofH h).2.2.2.2 = 0)) else ((0, 0, 0, 0), false)
set_option maxRecDepth 100000 in
set_option maxHeartbeats 4000000 in
theorem rectOf_any (h : Hd) (v : Value) (b o : Nat) (w : World) (hb : b < w.heap.size) (hc : ∀ j, j < 16 → w.cell? ⟨b, o + j, none⟩ = (hdC h v)[j]?) :
    Calls Tryz.prog 33 #[.pointer (some ⟨b, o, none⟩)] w fun e w' => e = .returned (.tuple #[.agg (rcC (rectH h).1).toArray, .bool (rectH h).2]) ∧ Below w.heap.size w w' := by
  have c0 : w.cell? ⟨b, o, none⟩ = some (.int .i64 h.kind) := hc 0 (by omega)
  have c6 : w.cell? ⟨b, o + 6, none⟩ = some (.int .i64 h.row) := hc 6 (by omega)
  have c7 : w.cell? ⟨b, o + 6 + 1, none⟩ = some (.int .i64 h.col) := hc 7 (by omega)
  have c8 : w.cell? ⟨b, o + 6 + 2, none⟩ = some (.bool h.fr) := hc 8 (by omega)
  have c9 : w.cell? ⟨b, o + 6 + 3, none⟩ = some (.bool h.fc) := hc 9 (by omega)
  have c10 : w.cell? ⟨b, o + 10, none⟩ = some (.int .i64 h.row2) := hc 10 (by omega)
  have c11 : w.cell? ⟨b, o + 10 + 1, none⟩ = some (.int .i64 h.col2) := hc 11 (by omega)
  have c12 : w.cell? ⟨b, o + 10 + 2, none⟩ = some (.bool h.fr2) := hc 12 (by omega)
  have c13 : w.cell? ⟨b, o + 10 + 3, none⟩ = some (.bool h.fc2) := hc 13 (by omega)
  have HIR : Hid (∀ W : World, Below w.heap.size w W → Calls Tryz.prog 43 #[.pointer (some ⟨b, o, none⟩)] W fun e w' => e = .returned (.bool (rangeB h)) ∧ w' = W) := fun W hW => isRange_any h b o W ((hW.cell (p := ⟨b, o, none⟩) hb).trans c0)
  have bw : Below w.heap.size w (w.alloc (.cells #[.int .i64 0, .int .i64 0, .int .i64 0, .int .i64 0] 72)) := (Below.refl _ _).alloc (Nat.le_refl _) _
  have HBW := hide bw
  have hrb : rangeB h = (decide (h.kind = 3) || decide (h.kind = 2)) := rfl
  have HOf : Hid (∀ (x y : Int) (W : World), Calls Tryz.prog 44 #[.agg #[.int .i64 h.row, .int .i64 h.col], .agg #[.int .i64 x, .int .i64 y]] W fun e w' => e = .returned (.tuple #[.agg #[.int .i64 (Pla.ofR h.row h.col x y).1, .int .i64 (Pla.ofR h.row h.col x y).2.1, .int .i64 (Pla.ofR h.row h.col x y).2.2.1, .int .i64 (Pla.ofR h.row h.col x y).2.2.2.1], .int .i64 (Pla.ofR h.row h.col x y).2.2.2.2]) ∧ Below W.heap.size W w') := fun x y W => Pla.of_any h.row h.col x y W
  unfold rectH ofH
  clear hc bw
  generalize h.kind = q at *
  generalize h.row = x1 at *
  generalize h.col = y1 at *
  generalize h.row2 = x2 at *
  generalize h.col2 = y2 at *
  generalize h.fr = f1 at *
  generalize h.fc = f2 at *
  generalize h.fr2 = f3 at *
  generalize h.fc2 = f4 at *
  generalize rangeB h = rb at *
  by_cases h3 : q = 3
  · subst h3
    obtain rfl : rb = true := by rw [hrb]; rfl
    rw [if_pos rfl, if_neg (by decide)]
    have HO := hide (HOf.out x2 y2)
    generalize Pla.ofR x1 y1 x2 y2 = R at *
    obtain ⟨r1, r2, r3, r4, r5⟩ := R
    simp only [rcC] at HO ⊢
    clear hrb HOf
    go_enter Tryz.func33, Tryz.ntmps33
    go_wp2_with (first | (go_at_call 43; refine (HIR.out _ HBW.out).mono ?_; rintro e wz ⟨rfl, hz⟩; subst wz))
    obtain ⟨W0, hW0⟩ : ∃ W0, ((w.alloc (.cells #[.int .i64 0, .int .i64 0, .int .i64 0, .int .i64 0] 72)).alloc (.cells #[.int .i64 x2, .int .i64 y2, .bool f3, .bool f4] 65)) = W0 := ⟨_, rfl⟩
    have z0 : W0.heap.size = w.heap.size + 1 + 1 := by rw [← hW0]; simp
    have bW : Below w.heap.size w W0 := by rw [← hW0]; exact ((Below.refl _ _).alloc (Nat.le_refl _) _).alloc (by simp) _
    have kT : ∀ j, W0.cell? ⟨w.heap.size + 1, j, none⟩ = (#[.int .i64 x2, .int .i64 y2, .bool f3, .bool f4] : Array Value)[j]? := fun j => by rw [← hW0]; have := bcells_new (w.alloc (.cells #[.int .i64 0, .int .i64 0, .int .i64 0, .int .i64 0] 72)) #[.int .i64 x2, .int .i64 y2, .bool f3, .bool f4] 65 j; rwa [World.size_alloc] at this
    have hR0 : W0.heap[w.heap.size]? = some (.cells #[.int .i64 0, .int .i64 0, .int .i64 0, .int .i64 0] 72 (0, 0)) := by rw [← hW0]; exact (Below.heap_alloc _ _ _ (by simp)).trans (World.alloc_heap_new w _)
    rw [hW0]
    have HS1 : Hid (∀ W : World, Below W0.heap.size W0 W → W.cell? ⟨b, o + 6, none⟩ = some (.int .i64 x1) ∧ W.cell? ⟨b, o + 6 + 1, none⟩ = some (.int .i64 y1) ∧ W.cell? ⟨w.heap.size + 1, 0, none⟩ = some (.int .i64 x2) ∧ W.cell? ⟨w.heap.size + 1, 1, none⟩ = some (.int .i64 y2) ∧ Below W0.heap.size W0 W) := fun W hW => by
      have hw := bW.trans (hW.mono bW.size)
      exact ⟨(hw.cell (p := ⟨b, o + 6, none⟩) hb).trans c6, (hw.cell (p := ⟨b, o + 6 + 1, none⟩) hb).trans c7, (hW.cell (p := ⟨w.heap.size + 1, 0, none⟩) (by simp; omega)).trans (kT 0), (hW.cell (p := ⟨w.heap.size + 1, 1, none⟩) (by simp; omega)).trans (kT 1), hW⟩
    have HR1 : Hid (∀ W : World, Below W0.heap.size W0 W → W.heap[w.heap.size]? = some (.cells #[.int .i64 0, .int .i64 0, .int .i64 0, .int .i64 0] 72 (0, 0))) := fun W hW => (hW.block _ (by omega)).trans hR0
    have hs0 := HS1.out W0 (Below.refl _ _)
    have HbW := hide bW
    have kR : ∀ j, W0.cell? ⟨w.heap.size, j, none⟩ = (#[.int .i64 0, .int .i64 0, .int .i64 0, .int .i64 0] : Array Value)[j]? := fun j => by simp [World.cell?, hR0]
    have pR : ∀ j, W0.frozen? ⟨w.heap.size, j, none⟩ = false := fun j => by simp [World.frozen?, hR0]
    have l1 : w.heap.size < W0.heap.size := by omega
    have l2 : w.heap.size + 1 < W0.heap.size := by omega
    have l4 : w.heap.size < W0.heap.size + 1 := by omega
    have l5 : w.heap.size ≠ W0.heap.size := by omega
    clear hW0 kT hR0 bW c0 c6 c7 c8 c9 c10 c11 c12 c13
    go_region_held3 (fun w' => w'.cell? ⟨b, o + 6, none⟩ = some (.int .i64 x1) ∧ w'.cell? ⟨b, o + 6 + 1, none⟩ = some (.int .i64 y1) ∧ w'.cell? ⟨w.heap.size + 1, 0, none⟩ = some (.int .i64 x2) ∧ w'.cell? ⟨w.heap.size + 1, 1, none⟩ = some (.int .i64 y2) ∧ Below W0.heap.size W0 w') (first | assumption | (refine HS1.out _ ?_; repeat' (first | with_reducible exact And.right (And.right (And.right (And.right (by assumption)))) | with_reducible refine Below.setCell ?_ ?_ _ | with_reducible refine Below.alloc ?_ ?_ _ | with_reducible refine Below.drew ?_ | exact Nat.le_refl _ | assumption | exact Below.size (And.right (And.right (And.right (And.right (by assumption))))) | (simp; omega)))) (first | (go_at_call 44; refine (HO.out _).mono ?_; rintro e w2 ⟨rfl, hb2⟩; have hs2 := HS1.out w2 (Below.trans (And.right (And.right (And.right (And.right (by assumption))))) (hb2.mono (Below.size (And.right (And.right (And.right (And.right (by assumption)))))))); have HB2 := hide (And.right (And.right (And.right (And.right hs2)))); have hr2 := HR1.out w2 HB2.out; have k3 : ∀ j, w2.cell? ⟨w.heap.size, j, none⟩ = (#[.int .i64 0, .int .i64 0, .int .i64 0, .int .i64 0] : Array Value)[j]? := (fun j => by simp [World.cell?, hr2]); have p3 : ∀ j, w2.frozen? ⟨w.heap.size, j, none⟩ = false := (fun j => by simp [World.frozen?, hr2]); obtain ⟨k2, p2⟩ := bcell hb2; have z2 := hb2.size; have l3 : w.heap.size < w2.heap.size := (by have := HB2.out.size; omega); clear hb2 hr2))
    all_goals go_wp2
    all_goals refine bodyPost_ret (v := .tuple #[.agg #[.int .i64 r1, .int .i64 r2, .int .i64 r3, .int .i64 r4], .bool (r5 == 0)]) (by simp [results, Tryz.results33, go_sem, k3, l3]) rfl ⟨rfl, ?_⟩
    all_goals (have bW := HbW.out; have b2 := HB2.out; have b3 : Below w.heap.size w w2 := bW.trans (b2.mono bW.size))
    all_goals (clear b2 bW)
    all_goals (repeat' (first | with_reducible exact Below.refl _ _ | with_reducible refine Below.setCell ?_ ?_ _ | with_reducible refine Below.alloc ?_ ?_ _ | with_reducible refine below_drewN ?_ _ | with_reducible refine Below.drew ?_ | with_reducible refine Below.trans ?_ (Below.mono (by assumption) ?_) | with_reducible exact Nat.le_refl _ | with_reducible refine Nat.le_trans ?_ (Below.size (by assumption)) | with_reducible refine Nat.le_trans ?_ (size_alloc _ _) | with_reducible refine Nat.le_trans ?_ (size_set _ _ _) | with_reducible refine Nat.le_trans ?_ (size_drewN _ _) | with_reducible refine Nat.le_trans ?_ (size_drew _) | (simp; done) | (simp; omega) | omega))
  · have e3 : (q == 3) = false := by simpa using h3
    by_cases h2 : q = 2
    · subst h2
      obtain rfl : rb = true := by rw [hrb]; rfl
      rw [if_pos rfl, if_pos rfl]
      have HO := hide (HOf.out x1 y1)
      generalize Pla.ofR x1 y1 x1 y1 = R at *
      obtain ⟨r1, r2, r3, r4, r5⟩ := R
      simp only [rcC] at HO ⊢
      clear hrb HOf
      go_enter Tryz.func33, Tryz.ntmps33
      go_wp2_with (first | (go_at_call 43; refine (HIR.out _ HBW.out).mono ?_; rintro e wz ⟨rfl, hz⟩; subst wz))
      obtain ⟨W0, hW0⟩ : ∃ W0, ((w.alloc (.cells #[.int .i64 0, .int .i64 0, .int .i64 0, .int .i64 0] 72)).alloc (.cells #[.int .i64 x1, .int .i64 y1, .bool f1, .bool f2] 65)) = W0 := ⟨_, rfl⟩
      have z0 : W0.heap.size = w.heap.size + 1 + 1 := by rw [← hW0]; simp
      have bW : Below w.heap.size w W0 := by rw [← hW0]; exact ((Below.refl _ _).alloc (Nat.le_refl _) _).alloc (by simp) _
      have kT : ∀ j, W0.cell? ⟨w.heap.size + 1, j, none⟩ = (#[.int .i64 x1, .int .i64 y1, .bool f1, .bool f2] : Array Value)[j]? := fun j => by rw [← hW0]; have := bcells_new (w.alloc (.cells #[.int .i64 0, .int .i64 0, .int .i64 0, .int .i64 0] 72)) #[.int .i64 x1, .int .i64 y1, .bool f1, .bool f2] 65 j; rwa [World.size_alloc] at this
      have hR0 : W0.heap[w.heap.size]? = some (.cells #[.int .i64 0, .int .i64 0, .int .i64 0, .int .i64 0] 72 (0, 0)) := by rw [← hW0]; exact (Below.heap_alloc _ _ _ (by simp)).trans (World.alloc_heap_new w _)
      rw [hW0]
      have HS1 : Hid (∀ W : World, Below W0.heap.size W0 W → W.cell? ⟨b, o + 6, none⟩ = some (.int .i64 x1) ∧ W.cell? ⟨b, o + 6 + 1, none⟩ = some (.int .i64 y1) ∧ W.cell? ⟨w.heap.size + 1, 0, none⟩ = some (.int .i64 x1) ∧ W.cell? ⟨w.heap.size + 1, 1, none⟩ = some (.int .i64 y1) ∧ Below W0.heap.size W0 W) := fun W hW => by
        have hw := bW.trans (hW.mono bW.size)
        exact ⟨(hw.cell (p := ⟨b, o + 6, none⟩) hb).trans c6, (hw.cell (p := ⟨b, o + 6 + 1, none⟩) hb).trans c7, (hW.cell (p := ⟨w.heap.size + 1, 0, none⟩) (by simp; omega)).trans (kT 0), (hW.cell (p := ⟨w.heap.size + 1, 1, none⟩) (by simp; omega)).trans (kT 1), hW⟩
      have HR1 : Hid (∀ W : World, Below W0.heap.size W0 W → W.heap[w.heap.size]? = some (.cells #[.int .i64 0, .int .i64 0, .int .i64 0, .int .i64 0] 72 (0, 0))) := fun W hW => (hW.block _ (by omega)).trans hR0
      have hs0 := HS1.out W0 (Below.refl _ _)
      have HbW := hide bW
      have kR : ∀ j, W0.cell? ⟨w.heap.size, j, none⟩ = (#[.int .i64 0, .int .i64 0, .int .i64 0, .int .i64 0] : Array Value)[j]? := fun j => by simp [World.cell?, hR0]
      have pR : ∀ j, W0.frozen? ⟨w.heap.size, j, none⟩ = false := fun j => by simp [World.frozen?, hR0]
      have l1 : w.heap.size < W0.heap.size := by omega
      have l2 : w.heap.size + 1 < W0.heap.size := by omega
      have l4 : w.heap.size < W0.heap.size + 1 := by omega
      have l5 : w.heap.size ≠ W0.heap.size := by omega
      clear hW0 kT hR0 bW c0 c6 c7 c8 c9 c10 c11 c12 c13
      go_region_held3 (fun w' => w'.cell? ⟨b, o + 6, none⟩ = some (.int .i64 x1) ∧ w'.cell? ⟨b, o + 6 + 1, none⟩ = some (.int .i64 y1) ∧ w'.cell? ⟨w.heap.size + 1, 0, none⟩ = some (.int .i64 x1) ∧ w'.cell? ⟨w.heap.size + 1, 1, none⟩ = some (.int .i64 y1) ∧ Below W0.heap.size W0 w') (first | assumption | (refine HS1.out _ ?_; repeat' (first | with_reducible exact And.right (And.right (And.right (And.right (by assumption)))) | with_reducible refine Below.setCell ?_ ?_ _ | with_reducible refine Below.alloc ?_ ?_ _ | with_reducible refine Below.drew ?_ | exact Nat.le_refl _ | assumption | exact Below.size (And.right (And.right (And.right (And.right (by assumption))))) | (simp; omega)))) (first | (go_at_call 44; refine (HO.out _).mono ?_; rintro e w2 ⟨rfl, hb2⟩; have hs2 := HS1.out w2 (Below.trans (And.right (And.right (And.right (And.right (by assumption))))) (hb2.mono (Below.size (And.right (And.right (And.right (And.right (by assumption)))))))); have HB2 := hide (And.right (And.right (And.right (And.right hs2)))); have hr2 := HR1.out w2 HB2.out; have k3 : ∀ j, w2.cell? ⟨w.heap.size, j, none⟩ = (#[.int .i64 0, .int .i64 0, .int .i64 0, .int .i64 0] : Array Value)[j]? := (fun j => by simp [World.cell?, hr2]); have p3 : ∀ j, w2.frozen? ⟨w.heap.size, j, none⟩ = false := (fun j => by simp [World.frozen?, hr2]); obtain ⟨k2, p2⟩ := bcell hb2; have z2 := hb2.size; have l3 : w.heap.size < w2.heap.size := (by have := HB2.out.size; omega); clear hb2 hr2))
      all_goals go_wp2
      all_goals refine bodyPost_ret (v := .tuple #[.agg #[.int .i64 r1, .int .i64 r2, .int .i64 r3, .int .i64 r4], .bool (r5 == 0)]) (by simp [results, Tryz.results33, go_sem, k3, l3]) rfl ⟨rfl, ?_⟩
      all_goals (have bW := HbW.out; have b2 := HB2.out; have b3 : Below w.heap.size w w2 := bW.trans (b2.mono bW.size))
      all_goals (clear b2 bW)
      all_goals (repeat' (first | with_reducible exact Below.refl _ _ | with_reducible refine Below.setCell ?_ ?_ _ | with_reducible refine Below.alloc ?_ ?_ _ | with_reducible refine below_drewN ?_ _ | with_reducible refine Below.drew ?_ | with_reducible refine Below.trans ?_ (Below.mono (by assumption) ?_) | with_reducible exact Nat.le_refl _ | with_reducible refine Nat.le_trans ?_ (Below.size (by assumption)) | with_reducible refine Nat.le_trans ?_ (size_alloc _ _) | with_reducible refine Nat.le_trans ?_ (size_set _ _ _) | with_reducible refine Nat.le_trans ?_ (size_drewN _ _) | with_reducible refine Nat.le_trans ?_ (size_drew _) | (simp; done) | (simp; omega) | omega))
    · have e2 : (q == 2) = false := by simpa using h2
      obtain rfl : rb = false := by rw [hrb]; simp [h3, h2]
      rw [if_neg (by decide)]
      simp only [rcC]
      clear hrb HOf
      go_enter Tryz.func33, Tryz.ntmps33
      go_wp2_with (first | (go_at_call 43; refine (HIR.out _ HBW.out).mono ?_; rintro e wz ⟨rfl, hz⟩; subst wz))
      refine bodyPost_ret (v := .tuple #[.agg #[.int .i64 0, .int .i64 0, .int .i64 0, .int .i64 0], .bool false]) (by simp [results, Tryz.results33, go_sem]) rfl ⟨rfl, ?_⟩
      repeat' (first | with_reducible exact Below.refl _ _ | with_reducible refine Below.setCell ?_ ?_ _ | with_reducible refine Below.alloc ?_ ?_ _ | with_reducible refine below_drewN ?_ _ | with_reducible refine Below.drew ?_ | with_reducible refine Below.trans ?_ (Below.mono (by assumption) ?_) | with_reducible exact Nat.le_refl _ | with_reducible refine Nat.le_trans ?_ (Below.size (by assumption)) | with_reducible refine Nat.le_trans ?_ (size_alloc _ _) | with_reducible refine Nat.le_trans ?_ (size_set _ _ _) | with_reducible refine Nat.le_trans ?_ (size_drewN _ _) | with_reducible refine Nat.le_trans ?_ (size_drew _) | (simp; done) | (simp; omega) | omega)
end Go.Proofs.YtklldmidcmfbdaaGreatDoor
