/-
  place.Check at a right rectangle.
-/
import Derived.Test.YtfpmmckpobpokaaGreatBRwM3
namespace Go.Proofs.YtfpmmckpobpokaaGreat
open Go.RowKit Go.Shelf
def rightR (r : Int × Int × Int × Int) : Prop := Pla.placeB r.1 r.2.1 = true ∧ Pla.placeB r.2.2.1 r.2.2.2 = true ∧ r.1 ≤ r.2.2.1 ∧ r.2.1 ≤ r.2.2.2
theorem rect_right {h : Hd} (hr : (rectH h).2 = true) : rightR (rectH h).1 := by
 have hof : ∀ a b c d, (Pla.ofR a b c d).2.2.2.2 = 0 → rightR ((Pla.ofR a b c d).1, (Pla.ofR a b c d).2.1, (Pla.ofR a b c d).2.2.1, (Pla.ofR a b c d).2.2.2.1) := by
  intro a b c d he
  unfold Pla.ofR at he ⊢
  by_cases hp : (Pla.placeB a b && Pla.placeB c d) = true
  ·
   rw [if_pos hp]
   simp only [Bool.and_eq_true, Pla.placeB_iff] at hp
   unfold rightR
   simp only [Pla.placeB_iff]
   omega
  ·
   rw [if_neg hp] at he
   exact absurd he (by decide)
 unfold rectH at hr ⊢
 by_cases hb : rangeB h = true
 ·
  rw [if_pos hb] at hr ⊢
  simp only [decide_eq_true_eq] at hr ⊢
  unfold ofH at hr ⊢
  by_cases h2 : h.kind = 2
  ·
   rw [if_pos h2] at hr ⊢
   exact hof _ _ _ _ hr
  ·
   rw [if_neg h2] at hr ⊢
   exact hof _ _ _ _ hr
 ·
  rw [if_neg hb] at hr
  cases hr
theorem rectsN_right (h : Hd) (k : Fo) : ∀ r ∈ rectsN h k, rightR r := by
 intro r hr
 unfold rectsN at hr
 split at hr
 ·
  obtain ⟨x, _, h1, rfl⟩ := (rectsL_mem _ _).1 hr
  exact rect_right h1
 ·
  cases hr
theorem flat_at : ∀ (l : List (Int × Int × Int × Int)) (i : Nat) (r : Int × Int × Int × Int), l[i]? = some r → ∀ j, j < 4 → (l.flatMap rcC)[i * 4 + j]? = (rcC r)[j]?
 | x :: l, 0, r, h, j, hj => by
  obtain rfl : x = r := Option.some.inj h
  rw [List.flatMap_cons, List.getElem?_append_left (by simp [rcC]; omega)]
  simp
 | x :: l, i + 1, r, h, j, hj => by
  rw [List.flatMap_cons, List.getElem?_append_right (by simp [rcC]; omega), show (i + 1) * 4 + j - (rcC x).length = i * 4 + j by simp [rcC]; omega]
  exact flat_at l i r (by simpa using h) j hj
def Rcs (w : World) (v : Value) (l : List (Int × Int × Int × Int)) : Prop := ∃ p cap, v = .slice p l.length cap ∧ (l = [] ∨ ∃ g, p = some ⟨g, 0, none⟩ ∧ ∀ W, Below w.heap.size w W → ∀ i r, l[i]? = some r → W.cell? ⟨g, i * 4, none⟩ = some (.int .i64 r.1) ∧ W.cell? ⟨g, i * 4 + 1, none⟩ = some (.int .i64 r.2.1) ∧ W.cell? ⟨g, i * 4 + 2, none⟩ = some (.int .i64 r.2.2.1) ∧ W.cell? ⟨g, i * 4 + 3, none⟩ = some (.int .i64 r.2.2.2))
theorem Rcs.of {w : World} {base : Nat} {v : Value} {l : List (Int × Int × Int × Int)} (h : w.ownsRow base 62 4 v l.length (l.flatMap rcC)) : Rcs w v l := by
 cases l with
 | nil =>
  rcases h.2 with ⟨rfl, _⟩ | ⟨g, cap, cur, rfl, _⟩
  ·
   exact ⟨none, 0, rfl, .inl rfl⟩
  ·
   exact ⟨_, cap, rfl, .inl rfl⟩
 | cons x l =>
  obtain ⟨g, cap, rfl⟩ := ownsRow_succ h
  have hg := (h.lt g rfl).2
  refine ⟨_, cap, rfl, .inr ⟨g, rfl, fun W hW i r hr => ?_⟩⟩
  have hil : i < (x :: l).length := (List.getElem?_eq_some_iff.1 hr).1
  have hc : ∀ j, j < 4 → W.cell? ⟨g, i * 4 + j, none⟩ = (rcC r)[j]? := fun j hj => (hW.cell (p := ⟨g, i * 4 + j, none⟩) hg).trans ((h.cellAt (i * 4 + j) (by simp only [List.length_cons] at hil ⊢; omega)).trans (flat_at _ i r hr j hj))
  exact ⟨hc 0 (by omega), hc 1 (by omega), hc 2 (by omega), hc 3 (by omega)⟩
theorem Rcs.below {w w' : World} {v : Value} {l : List (Int × Int × Int × Int)} (h : Rcs w v l) (hb : Below w.heap.size w w') : Rcs w' v l := by
 obtain ⟨p, cap, e, h⟩ := h
 refine ⟨p, cap, e, ?_⟩
 rcases h with h | ⟨g, hp, h⟩
 ·
  exact .inl h
 ·
  exact .inr ⟨g, hp, fun W hW => h W (hb.trans (hW.mono hb.size))⟩
end Go.Proofs.YtfpmmckpobpokaaGreat
