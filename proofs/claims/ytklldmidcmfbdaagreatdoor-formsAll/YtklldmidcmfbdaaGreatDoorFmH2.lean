/-
  Forms that are read, and their rows of wants, in blocks that were made since.
-/
import Derived.Test.YtklldmidcmfbdaaGreatDoorFmH1
namespace Go.Proofs.YtklldmidcmfbdaaGreatDoor
open Go.RowKit Go.Shelf

def fvR (x : Fu × Value) : List Value := [.string x.1.name, .int .i64 x.1.least, .int .i64 x.1.most, x.2]
/-- A row of wants that was made since. -/
def WtN (n₀ : Nat) (X : World) (u : Value) (ws : ByteArray) : Prop := ∃ p cap, u = .slice p ws.size cap ∧ (ws.size = 0 ∨ ∃ gw, p = some ⟨gw, 0, none⟩ ∧ n₀ ≤ gw ∧ gw < X.heap.size ∧ ∀ i, i < ws.size → X.cell? ⟨gw, i, none⟩ = some (.int .i64 (wantAt ws i)))
theorem WtN.of {n₀ : Nat} {W : World} {u : Value} {ws : ByteArray} (h : W.ownsRow n₀ 28 1 u ws.size (wantsL ws ws.size)) : WtN n₀ W u ws := by
  have h' := h
  rcases h.2 with ⟨rfl, hn⟩ | ⟨g, cap, cur, rfl, hb, hg, _, _, _, ht⟩
  · exact ⟨none, 0, by rw [hn], .inl hn⟩
  · refine ⟨_, cap, rfl, .inr ⟨g, rfl, hb, (Array.getElem?_eq_some_iff.1 hg).1, fun i hi => ?_⟩⟩
    rw [h'.cellAt i (by omega)]
    simp [wantsL, hi]
theorem WtN.below {n₀ : Nat} {W W' : World} {u : Value} {ws : ByteArray} (h : WtN n₀ W u ws) (hb : Below W.heap.size W W') : WtN n₀ W' u ws := by
  obtain ⟨p, cap, e, h⟩ := h
  refine ⟨p, cap, e, ?_⟩
  rcases h with h | ⟨g, hp, h0, h1, h2⟩
  · exact .inl h
  · exact .inr ⟨g, hp, h0, Nat.lt_of_lt_of_le h1 hb.size, fun i hi => (hb.cell (p := ⟨g, i, none⟩) h1).trans (h2 i hi)⟩
theorem WtN.mono {n₀ n₁ : Nat} {W : World} {u : Value} {ws : ByteArray} (h : WtN n₀ W u ws) (hn : n₁ ≤ n₀) : WtN n₁ W u ws := by
  obtain ⟨p, cap, e, h⟩ := h
  refine ⟨p, cap, e, ?_⟩
  rcases h with h | ⟨g, hp, h0, h1⟩
  · exact .inl h
  · exact .inr ⟨g, hp, by omega, h1⟩
theorem WtN.one {n₀ : Nat} {W : World} {u : Value} {ws : ByteArray} (h : WtN n₀ W u ws) : u.oneCell' = true := by
  obtain ⟨p, cap, rfl, _⟩ := h; rfl
/-- Forms that are read. -/
def FSl (n₀ : Nat) (w : World) (v : Value) (G : List (Fu × Value)) : Prop :=
  ((G = [] ∧ v = .slice none 0 0) ∨ ∃ g cap, v = .slice (some ⟨g, 0, none⟩) G.length cap ∧ G.length ≤ cap ∧ cap ≤ maxLen ∧ n₀ ≤ g ∧ g < w.heap.size ∧ ∀ (i : Nat) x, G[i]? = some x → ∀ j, j < 4 → w.cell? ⟨g, i * 4 + j, none⟩ = (fvR x)[j]?) ∧ ∀ x ∈ G, WtN n₀ w x.2 x.1.wants
theorem FSl.first (n₀ : Nat) (w : World) : FSl n₀ w (.slice none 0 0) [] := ⟨.inl ⟨rfl, rfl⟩, by simp⟩
theorem FSl.below {n₀ : Nat} {W W' : World} {v : Value} {G : List (Fu × Value)} (h : FSl n₀ W v G) (hb : Below W.heap.size W W') : FSl n₀ W' v G := by
  refine ⟨h.1.imp id ?_, fun x hx => (h.2 x hx).below hb⟩
  rintro ⟨g, cap, e, h1, h2, h3, h4, h5⟩
  exact ⟨g, cap, e, h1, h2, h3, Nat.lt_of_lt_of_le h4 hb.size, fun i x hx j hj => (hb.cell (p := ⟨g, i * 4 + j, none⟩) h4).trans (h5 i x hx j hj)⟩
theorem flatR_at : ∀ (G : List (Fu × Value)) (i : Nat) (x : Fu × Value), G[i]? = some x → ∀ j, j < 4 → (G.flatMap fvR)[i * 4 + j]? = (fvR x)[j]?
  | y :: G, 0, x, h, j, hj => by
    obtain rfl : y = x := Option.some.inj h
    rw [List.flatMap_cons, List.getElem?_append_left (by simp [fvR]; omega)]
    simp
  | y :: G, i + 1, x, h, j, hj => by
    rw [List.flatMap_cons, List.getElem?_append_right (by simp [fvR]; omega), show (i + 1) * 4 + j - (fvR y).length = i * 4 + j by simp [fvR]; omega]
    exact flatR_at G i x (by simpa using h) j hj
theorem flatR_len : ∀ G : List (Fu × Value), (G.flatMap fvR).length = G.length * 4
  | [] => rfl
  | x :: G => by rw [List.flatMap_cons, List.length_append, flatR_len G]; simp [fvR]; omega
theorem flatR_drop : ∀ (G : List (Fu × Value)) (p : Nat), (G.flatMap fvR).drop (p * 4) = (G.drop p).flatMap fvR
  | G, 0 => by simp
  | [], p + 1 => by simp
  | x :: G, p + 1 => by
    rw [List.flatMap_cons, show (p + 1) * 4 = (fvR x).length + p * 4 by simp [fvR]; omega, ← List.drop_drop, List.drop_left, flatR_drop G p]
    simp
theorem flatR_take : ∀ (G : List (Fu × Value)) (p : Nat), (G.flatMap fvR).take (p * 4) = (G.take p).flatMap fvR
  | G, 0 => by simp
  | [], p + 1 => by simp
  | x :: G, p + 1 => by
    rw [List.flatMap_cons, show (p + 1) * 4 = (fvR x).length + p * 4 by simp [fvR]; omega, List.take_length_add_append, flatR_take G p]
    simp
/-- All cells of the forms that are read. -/
theorem FSl.cells {g : Nat} {w : World} {G : List (Fu × Value)} (h5 : ∀ (i : Nat) x, G[i]? = some x → ∀ j, j < 4 → w.cell? ⟨g, i * 4 + j, none⟩ = (fvR x)[j]?) : ∀ j u, (G.flatMap fvR)[j]? = some u → w.cell? ⟨g, j, none⟩ = some u := fun j u hu => by
  have hj : j < G.length * 4 := by rw [← flatR_len]; exact (List.getElem?_eq_some_iff.1 hu).1
  have hi : j / 4 < G.length := by omega
  have hx : G[j / 4]? = some G[j / 4] := List.getElem?_eq_getElem hi
  have h1 := flatR_at G (j / 4) _ hx (j % 4) (by omega)
  have h2 := h5 (j / 4) _ hx (j % 4) (by omega)
  rw [show j / 4 * 4 + j % 4 = j by omega] at h1 h2
  rw [h2, ← h1, hu]
/-- A row of forms that the call owns can be read. -/
theorem FSl.of {n₀ base : Nat} {w : World} {v : Value} {G : List (Fu × Value)} (h : w.ownsRow base 27 4 v G.length (G.flatMap fvR)) (hb : n₀ ≤ base) (hw : ∀ x ∈ G, WtN n₀ w x.2 x.1.wants) (hn : 1 ≤ G.length) : FSl n₀ w v G := by
  have h' := h
  rcases h.2 with ⟨_, h0⟩ | ⟨g, cap, cur, rfl, hg0, hg, h1, h2, _⟩
  · omega
  · refine ⟨.inr ⟨g, cap, rfl, h1, h2, by omega, (Array.getElem?_eq_some_iff.1 hg).1, fun i x hx j hj => ?_⟩, hw⟩
    have hi : i < G.length := (List.getElem?_eq_some_iff.1 hx).1
    rw [h'.cellAt (i * 4 + j) (by omega)]
    exact flatR_at G i x hx j hj
theorem one_fvR {x : Fu × Value} (h : x.2.oneCell' = true) : ∀ u ∈ fvR x, u.oneCell' = true := by
  intro u hu
  simp only [fvR, List.mem_cons, List.mem_nil_iff, or_false] at hu
  rcases hu with rfl | rfl | rfl | rfl
  · rfl
  · rfl
  · rfl
  · exact h
theorem one_flatR {G : List (Fu × Value)} (h : ∀ x ∈ G, x.2.oneCell' = true) : ∀ u ∈ G.flatMap fvR, u.oneCell' = true := by
  intro u hu
  obtain ⟨x, hx, hu⟩ := List.mem_flatMap.1 hu
  exact one_fvR (h x hx) u hu
end Go.Proofs.YtklldmidcmfbdaaGreatDoor
