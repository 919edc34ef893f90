/-
  What the answer's Read has in hand: a row of sections, each a row of pieces; how it stands behind a piece and behind a parting.
-/
import Derived.Test.YtnhaapcpklfkpaaGreatDoorRc6
namespace Go.Proofs.YtnhaapcpklfkpaaGreatDoor
open Go.RowKit
set_option linter.unusedSimpArgs false

/-- The answer's sections in a row, each with its pieces (the answer's kinds). -/
structure RR (n₀ : Nat) (W : World) (g cap : Nat) (G : List (Value × List Pc)) (C : Array Value) : Prop where
  lt : n₀ ≤ g
  row : W.heap[g]? = some (.cells C 45 (0, 0))
  cs : C.size = cap
  le : G.length ≤ cap
  mx : cap ≤ maxLen
  cells : ∀ (i : Nat) (x : Value × List Pc), G[i]? = some x → W.cell? ⟨g, i, none⟩ = some x.1
  rows : ∀ (i : Nat) (x : Value × List Pc), G[i]? = some x → W.ownsRow n₀ 79 2 x.1 x.2.length (x.2.flatMap pcC)
  apart : ∀ (i j : Nat) (x y : Value × List Pc), G[i]? = some x → G[j]? = some y → i ≠ j → x.1.ownBlock = none ∨ x.1.ownBlock ≠ y.1.ownBlock
theorem RR.ug {n₀ : Nat} {W : World} {g cap : Nat} {G : List (Value × List Pc)} {C : Array Value} (h : RR n₀ W g cap G C) {i : Nat} {x : Value × List Pc} (hx : G[i]? = some x) : x.1.ownBlock ≠ some g := fun e => by
  obtain ⟨D, hD⟩ := own_block (h.rows i x hx) e
  rw [h.row] at hD
  cases hD
theorem RR.keep {n₀ : Nat} {W W' : World} {g cap : Nat} {G : List (Value × List Pc)} {C : Array Value} (h : RR n₀ W g cap G C) (k : KC W W') : RR n₀ W' g cap G C :=
  ⟨h.lt, k.2 _ _ _ _ h.row, h.cs, h.le, h.mx, fun i x hx => k.cell (h.cells i x hx), fun i x hx => own_same (h.rows i x hx) (fun _ _ _ e => k.2 _ _ _ _ e), h.apart⟩
theorem RR.owns {n₀ : Nat} {W : World} {g cap : Nat} {G : List (Value × List Pc)} {C : Array Value} (h : RR n₀ W g cap G C) : W.ownsRow n₀ 45 1 (.slice (some ⟨g, 0, none⟩) G.length cap) G.length (G.map Prod.fst) := by
  refine ⟨by simp, .inr ⟨g, cap, C, rfl, h.lt, h.row, h.le, h.mx, by rw [h.cs]; omega, ?_⟩⟩
  have hle := h.le
  refine List.ext_getElem? fun j => ?_
  by_cases hj : j < G.length
  · rw [List.getElem?_take_of_lt (by omega), List.getElem?_map, List.getElem?_eq_getElem hj]
    have hc := h.cells j _ (List.getElem?_eq_getElem hj)
    simpa [World.cell?, h.row] using hc
  · rw [List.getElem?_eq_none (by simp; omega), List.getElem?_eq_none (by simp; omega)]
/-- Behind a parting. -/
theorem RR.opened {n₀ : Nat} {W WA w4 : World} {g cap : Nat} {G : List (Value × List Pc)} {C : Array Value} {v' : Value} (h : RR n₀ W g cap G C) (hA : Below W.heap.size W WA) (hg : WA.grownBy w4 (some g)) (ho : w4.ownsRow n₀ 45 1 v' (G.length + 1) (G.map Prod.fst ++ [.slice none 0 0])) :
    ∃ g' cap' C', v' = .slice (some ⟨g', 0, none⟩) (G.length + 1) cap' ∧ RR n₀ w4 g' cap' (G ++ [(.slice none 0 0, [])]) C' := by
  have hX : G.map Prod.fst ++ [.slice none 0 0] = (G ++ [((.slice none 0 0 : Value), ([] : List Pc))]).map Prod.fst := by simp
  rw [hX] at ho
  have hk := h.keep (KC.of_below hA)
  rcases ho.2 with ⟨e, _⟩ | ⟨g', cap', C', rfl, e2, e3, e4, e5, e6, e7⟩
  · exact absurd ho.1 (by omega)
  · refine ⟨g', cap', C', rfl, e2, e3, by omega, by simpa using e4, e5, fun i x hx => ?_, fun i x hx => ?_, fun i j x y hx hy hij => ?_⟩
    · have hi : i < G.length + 1 := by have := (List.getElem?_eq_some_iff.1 hx).1; simpa using this
      have q := ho.cellAt i (by omega)
      rw [List.getElem?_map, hx] at q
      exact q
    · rcases snoc_get hx with ⟨hi, hx⟩ | ⟨rfl, rfl⟩
      · refine own_same (hk.rows i x hx) (fun b D hb hD => ?_)
        exact (hg.block b (Array.getElem?_eq_some_iff.1 hD).1 (fun e => hk.ug hx (by rw [hb]; exact e))).trans hD
      · exact World.ownsRow_nil _ _ _ _
    · rcases snoc_get hx with ⟨hi, hx⟩ | ⟨rfl, rfl⟩ <;> rcases snoc_get hy with ⟨hj, hy⟩ | ⟨rfl, rfl⟩
      · exact hk.apart i j x y hx hy hij
      · cases hq : x.1.ownBlock with
        | none => exact .inl rfl
        | some b => exact .inr (by intro e; cases e)
      · exact .inl rfl
      · exact absurd rfl hij
/-- Behind a piece: the last section's row grown, and stored anew. -/
theorem RR.taken {n₀ : Nat} {W WA w4 : World} {g cap : Nat} {G : List (Value × List Pc)} {C : Array Value} {u u' : Value} {ps : List Pc} {p : Pc} (h : RR n₀ W g cap (G ++ [(u, ps)]) C) (hA : Below W.heap.size W WA) (hg : WA.grownBy w4 u.ownBlock)
    (ho : w4.ownsRow n₀ 79 2 u' (ps.length + 1) (ps.flatMap pcC ++ pcC p)) (hw : u'.ownBlock = u.ownBlock ∨ u'.ownBlock = some WA.heap.size) :
    ∃ C', RR n₀ (w4.setCell ⟨g, G.length, none⟩ u') g cap (G ++ [(u', ps ++ [p])]) C' := by
  have hk := h.keep (KC.of_below hA)
  have hlast := snoc_last G (u, ps)
  have hug := hk.ug hlast
  have hgs : g < WA.heap.size := (Array.getElem?_eq_some_iff.1 hk.row).1
  have hg4 : w4.heap[g]? = WA.heap[g]? := hg.block g hgs (ne_row hug)
  have hr4 := hg4.trans hk.row
  have hle := h.le
  rw [List.length_append] at hle
  have hvg : u'.ownBlock ≠ some g := by
    rcases hw with q | q
    · rw [q]; exact hug
    · rw [q]; intro z; injection z; omega
  have oth : ∀ b, b ≠ g → (w4.setCell ⟨g, G.length, none⟩ u').heap[b]? = w4.heap[b]? := fun b hb => by
    simp [World.setCell, Array.getElem?_modify, Ne.symm hb]
  refine ⟨C.set! G.length u', h.lt, ?_, by simpa using h.cs, by rw [List.length_append]; exact hle, h.mx, fun i x hx => ?_, fun i x hx => ?_, fun i j x y hx hy hij => ?_⟩
  · simp [World.setCell, Array.getElem?_modify, hr4]
  · have hw4 : ∀ i x, (G ++ [(u, ps)])[i]? = some x → w4.cell? ⟨g, i, none⟩ = some x.1 := fun i x hx => (World.cell?_of_block (a := ⟨g, i, none⟩) hg4).trans (hk.cells i x hx)
    rcases snoc_get hx with ⟨hi, hx⟩ | ⟨rfl, rfl⟩
    · rw [World.cell?_setCell_other _ _ _ _ (fun q => by have := congrArg Addr.off q; simp at this; omega)]
      exact hw4 i x (snoc_left _ hx)
    · exact World.cell?_setCell_same _ _ _ (hw4 _ _ hlast)
  · rcases snoc_get hx with ⟨hi, hx⟩ | ⟨rfl, rfl⟩
    · refine own_same (hk.rows i x (snoc_left _ hx)) (fun b D hb hD => ?_)
      have hbg : b ≠ g := fun e => hk.ug (snoc_left _ hx) (by rw [hb, e])
      rw [oth b hbg]
      refine (hg.block b (Array.getElem?_eq_some_iff.1 hD).1 (fun e => ?_)).trans hD
      rcases hk.apart i G.length x _ (snoc_left _ hx) hlast (by omega) with q | q
      · rw [hb] at q; cases q
      · exact q (by rw [hb]; exact e)
    · refine own_same (t := 79) (W := w4) ?_ (fun b D hb hD => ?_)
      · simpa [List.flatMap_append] using ho
      · rw [oth b (fun e => hvg (by rw [hb, e]))]; exact hD
  · have hlt : ∀ (k : Nat) (z : Value × List Pc), G[k]? = some z → ∀ b, z.1.ownBlock = some b → b < WA.heap.size := fun k z hz b hb => ((hk.rows k z (snoc_left _ hz)).lt b hb).2
    rcases snoc_get hx with ⟨hi, hx⟩ | ⟨rfl, rfl⟩ <;> rcases snoc_get hy with ⟨hj, hy⟩ | ⟨rfl, rfl⟩
    · exact hk.apart i j x y (snoc_left _ hx) (snoc_left _ hy) hij
    · rcases hk.apart i G.length x _ (snoc_left _ hx) hlast hij with q | q
      · exact .inl q
      · rcases hw with e | e
        · exact .inr (by rw [e]; exact q)
        · refine .inr fun z => ?_
          rw [e] at z
          have := hlt i x hx _ z
          omega
    · rcases hw with e | e
      · rw [e]
        exact hk.apart G.length j _ y hlast (snoc_left _ hy) hij
      · refine .inr fun z => ?_
        rw [e] at z
        have := hlt j y hy _ z.symm
        omega
    · exact absurd rfl hij
end Go.Proofs.YtnhaapcpklfkpaaGreatDoor
