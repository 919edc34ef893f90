/-
  place.Check at a right rectangle.
-/
import Derived.Test.YtijjnchedgllgabDoorFmN
namespace Go.Proofs.YtijjnchedgllgabDoor
open Go.RowKit Go.Shelf

/-- Right rectangles. -/
def rightR (r : Int × Int × Int × Int) : Prop := Pla.placeB r.1 r.2.1 = true ∧ Pla.placeB r.2.2.1 r.2.2.2 = true ∧ r.1 ≤ r.2.2.1 ∧ r.2.1 ≤ r.2.2.2
set_option maxHeartbeats 1000000 in
theorem pcheck_right (r : Int × Int × Int × Int) (h : rightR r) (w : World) :
    Calls Tryd.prog 7 #[.agg #[.int .i64 r.1, .int .i64 r.2.1, .int .i64 r.2.2.1, .int .i64 r.2.2.2]] w fun e w' => e = .returned (.int .i64 0) ∧ Below w.heap.size w w' := by
  obtain ⟨t, l, b, r⟩ := r
  obtain ⟨p1, p2, p3, p4⟩ := h
  simp only at p1 p2 p3 p4
  have HO : Hid (∀ W : World, Calls Tryd.prog 15 #[.agg #[.int .i64 t, .int .i64 l], .agg #[.int .i64 b, .int .i64 r]] W fun e w' => e = .returned (.tuple #[.agg #[.int .i64 t, .int .i64 l, .int .i64 b, .int .i64 r], .int .i64 0]) ∧ Below W.heap.size W w') := fun W => by
    have := Pla.of_any t l b r W
    rw [show Pla.ofR t l b r = (t, l, b, r, 0) by
      unfold Pla.ofR
      rw [p1, p2]
      simp only [Bool.and_self, if_true]
      rw [Int.min_eq_left (by omega), Int.min_eq_left (by omega), Int.max_eq_right (by omega), Int.max_eq_right (by omega)]] at this
    exact this
  have HN : Hid (∀ j, (w.alloc (.cells #[.int .i64 t, .int .i64 l, .int .i64 b, .int .i64 r] 41)).cell? ⟨w.heap.size, j, none⟩ = (#[.int .i64 t, .int .i64 l, .int .i64 b, .int .i64 r] : Array Value)[j]?) := fun j => bcells_new w _ _ j
  clear p1 p2 p3 p4
  go_enter Tryd.func7, Tryd.ntmps7
  go_wp2_with (go_at_call 15; refine (HO.out _).mono ?_; rintro e w1 ⟨rfl, hb1⟩; have hl : w.heap.size < (w.alloc (.cells #[.int .i64 t, .int .i64 l, .int .i64 b, .int .i64 r] 41)).heap.size := (by simp); have k0 := (hb1.cell (p := ⟨w.heap.size, 0, none⟩) hl).trans (HN.out 0); have k1 := (hb1.cell (p := ⟨w.heap.size, 1, none⟩) hl).trans (HN.out 1); have k2 := (hb1.cell (p := ⟨w.heap.size, 2, none⟩) hl).trans (HN.out 2); have k3 := (hb1.cell (p := ⟨w.heap.size, 3, none⟩) hl).trans (HN.out 3); simp only [List.getElem?_toArray, List.getElem?_cons_zero, List.getElem?_cons_succ] at k0 k1 k2 k3; have HB1 := hide (((Below.refl _ w).alloc (Nat.le_refl _) (.cells #[.int .i64 t, .int .i64 l, .int .i64 b, .int .i64 r] 41)).trans (hb1.mono (by simp))); have l3 : w.heap.size < w1.heap.size := Nat.lt_of_lt_of_le hl hb1.size; clear hb1 hl)
  go_ret
  refine ⟨rfl, ?_⟩
  have b1 := HB1.out
  repeat' (first | with_reducible exact Below.refl _ _ | with_reducible refine Below.setCell ?_ ?_ _ | with_reducible refine Below.alloc ?_ ?_ _ | with_reducible refine below_drewN ?_ _ | with_reducible refine Below.drew ?_ | with_reducible refine Below.trans ?_ (Below.mono (by assumption) ?_) | with_reducible exact Nat.le_refl _ | with_reducible refine Nat.le_trans ?_ (Below.size (by assumption)) | with_reducible refine Nat.le_trans ?_ (size_alloc _ _) | with_reducible refine Nat.le_trans ?_ (size_set _ _ _) | with_reducible refine Nat.le_trans ?_ (size_drewN _ _) | with_reducible refine Nat.le_trans ?_ (size_drew _) | (simp; done) | (simp; omega) | omega)
/-- What a head names is right. -/
theorem rect_right {h : Hd} (hr : (rectH h).2 = true) : rightR (rectH h).1 := by
  have hof : ∀ a b c d, (Pla.ofR a b c d).2.2.2.2 = 0 → rightR ((Pla.ofR a b c d).1, (Pla.ofR a b c d).2.1, (Pla.ofR a b c d).2.2.1, (Pla.ofR a b c d).2.2.2.1) := by
    intro a b c d he
    unfold Pla.ofR at he ⊢
    by_cases hp : (Pla.placeB a b && Pla.placeB c d) = true
    · rw [if_pos hp]
      simp only [Bool.and_eq_true, Pla.placeB_iff] at hp
      unfold rightR
      simp only [Pla.placeB_iff]
      omega
    · rw [if_neg hp] at he
      exact absurd he (by decide)
  unfold rectH at hr ⊢
  by_cases hb : rangeB h = true
  · rw [if_pos hb] at hr ⊢
    simp only [decide_eq_true_eq] at hr ⊢
    unfold ofH at hr ⊢
    by_cases h2 : h.kind = 2
    · rw [if_pos h2] at hr ⊢
      exact hof _ _ _ _ hr
    · rw [if_neg h2] at hr ⊢
      exact hof _ _ _ _ hr
  · rw [if_neg hb] at hr
    cases hr
theorem rectsN_right (h : Hd) (k : Fo) : ∀ r ∈ rectsN h k, rightR r := by
  intro r hr
  unfold rectsN at hr
  split at hr
  · obtain ⟨x, _, h1, rfl⟩ := (rectsL_mem _ _).1 hr
    exact rect_right h1
  · cases hr
/-- The cells of a row of rectangles. -/
theorem flat_at : ∀ (l : List (Int × Int × Int × Int)) (i : Nat) (r : Int × Int × Int × Int), l[i]? = some r → ∀ j, j < 4 → (l.flatMap rcC)[i * 4 + j]? = (rcC r)[j]?
  | x :: l, 0, r, h, j, hj => by
    obtain rfl : x = r := Option.some.inj h
    rw [List.flatMap_cons, List.getElem?_append_left (by simp [rcC]; omega)]
    simp
  | x :: l, i + 1, r, h, j, hj => by
    rw [List.flatMap_cons, List.getElem?_append_right (by simp [rcC]; omega), show (i + 1) * 4 + j - (rcC x).length = i * 4 + j by simp [rcC]; omega]
    exact flat_at l i r (by simpa using h) j hj
/-- A slice of rectangles that a call handed over, in all later worlds. -/
def Rcs (w : World) (v : Value) (l : List (Int × Int × Int × Int)) : Prop := ∃ p cap, v = .slice p l.length cap ∧ (l = [] ∨ ∃ g, p = some ⟨g, 0, none⟩ ∧ ∀ W, Below w.heap.size w W → ∀ i r, l[i]? = some r → W.cell? ⟨g, i * 4, none⟩ = some (.int .i64 r.1) ∧ W.cell? ⟨g, i * 4 + 1, none⟩ = some (.int .i64 r.2.1) ∧ W.cell? ⟨g, i * 4 + 2, none⟩ = some (.int .i64 r.2.2.1) ∧ W.cell? ⟨g, i * 4 + 3, none⟩ = some (.int .i64 r.2.2.2))
theorem Rcs.of {w : World} {base : Nat} {v : Value} {l : List (Int × Int × Int × Int)} (h : w.ownsRow base 41 4 v l.length (l.flatMap rcC)) : Rcs w v l := by
  cases l with
  | nil =>
    rcases h.2 with ⟨rfl, _⟩ | ⟨g, cap, cur, rfl, _⟩
    · exact ⟨none, 0, rfl, .inl rfl⟩
    · exact ⟨_, cap, rfl, .inl rfl⟩
  | cons x l =>
    obtain ⟨g, cap, rfl⟩ := ownsRow_succ h
    have hg := (h.lt g rfl).2
    refine ⟨_, cap, rfl, .inr ⟨g, rfl, fun W hW i r hr => ?_⟩⟩
    have hil : i < (x :: l).length := (List.getElem?_eq_some_iff.1 hr).1
    have hc : ∀ j, j < 4 → W.cell? ⟨g, i * 4 + j, none⟩ = (rcC r)[j]? := fun j hj => (hW.cell (p := ⟨g, i * 4 + j, none⟩) hg).trans ((h.cellAt (i * 4 + j) (by simp only [List.length_cons] at hil ⊢; omega)).trans (flat_at _ i r hr j hj))
    exact ⟨hc 0 (by omega), hc 1 (by omega), hc 2 (by omega), hc 3 (by omega)⟩
theorem Rcs.below {w w' : World} {v : Value} {l : List (Int × Int × Int × Int)} (h : Rcs w v l) (hb : Below w.heap.size w w') : Rcs w' v l := by
  obtain ⟨p, cap, e, h⟩ := h
  refine ⟨p, cap, e, ?_⟩
  rcases h with h | ⟨g, hp, h⟩
  · exact .inl h
  · exact .inr ⟨g, hp, fun W hW => h W (hb.trans (hW.mono hb.size))⟩
end Go.Proofs.YtijjnchedgllgabDoor
