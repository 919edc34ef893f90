/-
  What codes' read has in hand: a row of sections, each with its row of pieces; how it stands behind a piece and behind a parting.
-/
import Derived.Test.YtnhaapcpklfkpaaGreatDoorCd7b
import Derived.Test.YtnhaapcpklfkpaaGreatDoorCdP
namespace Go.Proofs.YtnhaapcpklfkpaaGreatDoor
open Go.RowKit
set_option linter.unusedSimpArgs false

/-- Blocks of cells are as they were. -/
def KC (W W' : World) : Prop := W.heap.size ≤ W'.heap.size ∧ ∀ (b : Nat) (C : Array Value) (t : TypeId) (f : Nat × Nat), W.heap[b]? = some (.cells C t f) → W'.heap[b]? = some (.cells C t f)
theorem KC.of_below {W W' : World} (h : Below W.heap.size W W') : KC W W' := ⟨h.size, fun b _ _ _ e => (h.block b (Array.getElem?_eq_some_iff.1 e).1).trans e⟩
theorem KC.put (W : World) {l : Nat} {o o' : Obj} (hl : W.heap[l]? = some o) (ho : o.isCells = false) : KC W (W.putObj l o') := by
  refine ⟨by simp [World.putObj], fun b C t f e => ?_⟩
  rw [World.putObj_heap_other (fun q => by subst q; rw [hl] at e; cases e; cases ho)]
  exact e
theorem KC.cell {W W' : World} (h : KC W W') {b o : Nat} {v : Value} (e : W.cell? ⟨b, o, none⟩ = some v) : W'.cell? ⟨b, o, none⟩ = some v := by
  unfold World.cell? at e ⊢
  simp only at e ⊢
  split at e
  · rename_i c t f hb
    rw [h.2 b c t f hb]
    exact e
  · cases e
theorem own_same {W W' : World} {n₀ n : Nat} {v : Value} {xs : List Value} {t : TypeId} {s : Nat} (h : W.ownsRow n₀ t s v n xs) (hb : ∀ b C, v.ownBlock = some b → W.heap[b]? = some (.cells C t (0, 0)) → W'.heap[b]? = some (.cells C t (0, 0))) : W'.ownsRow n₀ t s v n xs := by
  refine ⟨h.1, ?_⟩
  rcases h.2 with e | ⟨b, c, cur, e1, e2, e3, e4⟩
  · exact .inl e
  · exact .inr ⟨b, c, cur, e1, e2, hb b cur (by rw [e1]; rfl) e3, e4⟩
theorem own_block {W : World} {n₀ n b : Nat} {v : Value} {xs : List Value} {t : TypeId} {s : Nat} (h : W.ownsRow n₀ t s v n xs) (hb : v.ownBlock = some b) : ∃ C, W.heap[b]? = some (.cells C t (0, 0)) := by
  rcases h.2 with ⟨e, _⟩ | ⟨b', c, cur, e1, e2, e3, e4⟩
  · rw [e] at hb; cases hb
  · rw [e1] at hb
    cases hb
    exact ⟨cur, e3⟩
def secX (G : List (Value × List Pc)) : List Value := G.flatMap fun x => secC x.1 x.2
theorem secX_len (G : List (Value × List Pc)) : (secX G).length = G.length * 12 := by
  induction G with
  | nil => rfl
  | cons x G ih => simp only [secX, List.flatMap_cons, List.length_append] at ih ⊢; rw [ih, secC_len]; simp; omega
theorem secX_get {G : List (Value × List Pc)} {i : Nat} {x : Value × List Pc} (h : G[i]? = some x) (j : Nat) (hj : j < 12) : (secX G)[i * 12 + j]? = (secC x.1 x.2)[j]? := by
  induction G generalizing i with
  | nil => cases h
  | cons y G ih =>
    simp only [secX, List.flatMap_cons] at ih ⊢
    match i, h with
    | 0, h =>
      simp only [List.getElem?_cons_zero, Option.some.injEq] at h
      subst h
      rw [Nat.zero_mul, Nat.zero_add, List.getElem?_append_left (by rw [secC_len]; exact hj)]
    | i + 1, h =>
      rw [List.getElem?_cons_succ] at h
      rw [List.getElem?_append_right (by rw [secC_len]; omega), secC_len, show (i + 1) * 12 + j - 12 = i * 12 + j by omega]
      exact ih h
/-- Sections in a row, each with its pieces. -/
structure RS (n₀ B : Nat) (W : World) (g cap : Nat) (G : List (Value × List Pc)) (C : Array Value) : Prop where
  box : W.heap[B]? = some (.cells #[.slice (some ⟨g, 0, none⟩) G.length cap] 32 (0, 0))
  lt : n₀ ≤ g
  row : W.heap[g]? = some (.cells C 66 (0, 0))
  cs : C.size = cap * 12
  le : G.length ≤ cap
  mx : cap ≤ maxLen
  secs : SecsAt W g G
  rows : ∀ (i : Nat) (x : Value × List Pc), G[i]? = some x → W.ownsRow n₀ 93 2 x.1 x.2.length (x.2.flatMap pcC)
  apart : ∀ (i j : Nat) (x y : Value × List Pc), G[i]? = some x → G[j]? = some y → i ≠ j → x.1.ownBlock = none ∨ x.1.ownBlock ≠ y.1.ownBlock
theorem RS.ne {n₀ B : Nat} {W : World} {g cap : Nat} {G : List (Value × List Pc)} {C : Array Value} (h : RS n₀ B W g cap G C) : g ≠ B := fun e => by
  have h1 := h.row
  rw [e, h.box] at h1
  cases h1
theorem RS.ug {n₀ B : Nat} {W : World} {g cap : Nat} {G : List (Value × List Pc)} {C : Array Value} (h : RS n₀ B W g cap G C) {i : Nat} {x : Value × List Pc} (hx : G[i]? = some x) : x.1.ownBlock ≠ some g := fun e => by
  obtain ⟨D, hD⟩ := own_block (h.rows i x hx) e
  rw [h.row] at hD
  cases hD
theorem RS.ub {n₀ B : Nat} {W : World} {g cap : Nat} {G : List (Value × List Pc)} {C : Array Value} (h : RS n₀ B W g cap G C) {i : Nat} {x : Value × List Pc} (hx : G[i]? = some x) : x.1.ownBlock ≠ some B := fun e => by
  obtain ⟨D, hD⟩ := own_block (h.rows i x hx) e
  rw [h.box] at hD
  cases hD
theorem SecAt.kc {W W' : World} {g off : Nat} {u : Value} {ps : List Pc} (h : SecAt W g off u ps) (k : KC W W') : SecAt W' g off u ps := by
  refine ⟨Nat.lt_of_lt_of_le h.1 k.1, fun j hj => ?_⟩
  have h2 := h.2 j hj
  rw [List.getElem?_eq_getElem (by rw [secC_len]; exact hj)] at h2 ⊢
  exact k.cell h2
theorem RS.keep {n₀ B : Nat} {W W' : World} {g cap : Nat} {G : List (Value × List Pc)} {C : Array Value} (h : RS n₀ B W g cap G C) (k : KC W W') : RS n₀ B W' g cap G C :=
  ⟨k.2 _ _ _ _ h.box, h.lt, k.2 _ _ _ _ h.row, h.cs, h.le, h.mx, ⟨Nat.lt_of_lt_of_le h.secs.1 k.1, fun i x hx => (h.secs.2 i x hx).kc k⟩, fun i x hx => own_same (h.rows i x hx) (fun _ _ _ e => k.2 _ _ _ _ e), h.apart⟩
/-- The row of sections, as a row of one's own. -/
theorem RS.owns {n₀ B : Nat} {W : World} {g cap : Nat} {G : List (Value × List Pc)} {C : Array Value} (h : RS n₀ B W g cap G C) : W.ownsRow n₀ 66 12 (.slice (some ⟨g, 0, none⟩) G.length cap) G.length (secX G) := by
  refine ⟨secX_len G, .inr ⟨g, cap, C, rfl, h.lt, h.row, h.le, h.mx, h.cs, ?_⟩⟩
  have hle := h.le
  refine List.ext_getElem? fun j => ?_
  by_cases hj : j < G.length * 12
  · rw [List.getElem?_take_of_lt hj]
    obtain ⟨i, r, hr, rfl⟩ : ∃ i r, r < 12 ∧ j = i * 12 + r := ⟨j / 12, j % 12, Nat.mod_lt _ (by decide), by omega⟩
    have hi : i < G.length := by omega
    have hx := List.getElem?_eq_getElem hi
    rw [secX_get hx r hr]
    have hc := (h.secs.2 i _ hx).2 r hr
    simpa [World.cell?, h.row] using hc
  · rw [List.getElem?_eq_none (by simp; omega), List.getElem?_eq_none (by rw [secX_len]; omega)]
theorem snoc_get {α : Type} {G : List α} {a x : α} {i : Nat} (h : (G ++ [a])[i]? = some x) : (i < G.length ∧ G[i]? = some x) ∨ (i = G.length ∧ x = a) := by
  rw [List.getElem?_append] at h
  split at h
  · rename_i hi; exact .inl ⟨hi, h⟩
  · rename_i hi
    have : i - G.length = 0 := by
      cases hk : i - G.length with
      | zero => rfl
      | succ k => rw [hk] at h; cases h
    rw [this] at h
    simp only [List.getElem?_cons_zero, Option.some.injEq] at h
    exact .inr ⟨by omega, h.symm⟩
theorem snoc_last {α : Type} (G : List α) (a : α) : (G ++ [a])[G.length]? = some a := by simp
theorem snoc_left {α : Type} {G : List α} {x : α} {i : Nat} (a : α) (h : G[i]? = some x) : (G ++ [a])[i]? = some x := by
  rw [List.getElem?_append_left (List.getElem?_eq_some_iff.1 h).1]; exact h
/-- Behind a piece. -/
theorem RS.taken {n₀ B : Nat} {W W' : World} {g cap : Nat} {G : List (Value × List Pc)} {C : Array Value} {u u' : Value} {ps : List Pc} {p : Pc} (h : RS n₀ B W g cap (G ++ [(u, ps)]) C) (t : Taken W W' g (G.length * 12) n₀ u ps p u') :
    ∃ C', RS n₀ B W' g cap (G ++ [(u', ps ++ [p])]) C' := by
  obtain ⟨C', hs, hrow⟩ := t.shape C _ _ h.row
  have hlast := snoc_last G (u, ps)
  have hug := h.ug hlast
  have hub := h.ub hlast
  have hle := h.le
  have hbox := h.box
  rw [List.length_append] at hle hbox
  have hB : B < W.heap.size := (Array.getElem?_eq_some_iff.1 hbox).1
  have own : ∀ (i : Nat) (x : Value × List Pc), G[i]? = some x → ∀ b D, x.1.ownBlock = some b → W.heap[b]? = some (.cells D 93 (0, 0)) → W'.heap[b]? = some (.cells D 93 (0, 0)) := fun i x hx b D hb hD => by
    have hi := (List.getElem?_eq_some_iff.1 hx).1
    refine (t.block b (Array.getElem?_eq_some_iff.1 hD).1 (fun e => h.ug (snoc_left _ hx) (by rw [hb, e])) (fun e => ?_)).trans hD
    rcases h.apart i G.length x _ (snoc_left _ hx) hlast (by omega) with q | q
    · rw [hb] at q; cases q
    · exact q (by rw [hb]; exact e.symm)
  refine ⟨C', ?_, h.lt, hrow, hs.trans h.cs, by rw [List.length_append]; exact hle, h.mx, ⟨Nat.lt_of_lt_of_le h.secs.1 t.size, fun i x hx => ?_⟩, fun i x hx => ?_, fun i j x y hx hy hij => ?_⟩
  · rw [List.length_append]
    exact (t.block B hB (fun e => h.ne e.symm) hub).trans hbox
  · rcases snoc_get hx with ⟨hi, hx⟩ | ⟨rfl, rfl⟩
    · have hs := h.secs.2 i x (snoc_left _ hx)
      exact ⟨Nat.lt_of_lt_of_le hs.1 t.size, fun j hj => (t.out (i * 12 + j) (by omega)).trans (hs.2 j hj)⟩
    · exact t.sec
  · rcases snoc_get hx with ⟨hi, hx⟩ | ⟨rfl, rfl⟩
    · exact own_same (h.rows i x (snoc_left _ hx)) (own i x hx)
    · have := t.row
      simpa using this
  · have hlt : ∀ (k : Nat) (z : Value × List Pc), G[k]? = some z → ∀ b, z.1.ownBlock = some b → b < W.heap.size := fun k z hz b hb => ((h.rows k z (snoc_left _ hz)).lt b hb).2
    rcases snoc_get hx with ⟨hi, hx⟩ | ⟨rfl, rfl⟩ <;> rcases snoc_get hy with ⟨hj, hy⟩ | ⟨rfl, rfl⟩
    · exact h.apart i j x y (snoc_left _ hx) (snoc_left _ hy) hij
    · rcases h.apart i G.length x _ (snoc_left _ hx) hlast hij with q | q
      · exact .inl q
      · rcases t.own with e | ⟨b, e, hb⟩
        · exact .inr (by rw [e]; exact q)
        · refine .inr fun z => ?_
          rw [e] at z
          have := hlt i x hx b z
          omega
    · rcases t.own with e | ⟨b, e, hb⟩
      · rw [e]
        exact h.apart G.length j _ y hlast (snoc_left _ hy) hij
      · refine .inr fun z => ?_
        rw [e] at z
        have := hlt j y hy b z.symm
        omega
    · exact absurd rfl hij
def zeroSec : List Value := [.slice none 0 0, .int .i64 0, .int .i64 0, .int .i64 0, .int .i64 0, .int .i64 0, .int .i64 0, .bool false, .bool false, .int .i64 0, .int .i64 0, .int .i64 0]
theorem zero_sec : secC (.slice none 0 0) [] = zeroSec := rfl
/-- Behind a parting. -/
theorem RS.opened {n₀ B : Nat} {W WA w4 : World} {g cap : Nat} {G : List (Value × List Pc)} {C : Array Value} {v' : Value} (h : RS n₀ B W g cap G C) (hA : Below W.heap.size W WA) (hg : WA.grownBy w4 (some g)) (ho : w4.ownsRow n₀ 66 12 v' (G.length + 1) (secX G ++ zeroSec)) :
    ∃ g' cap' C', v' = .slice (some ⟨g', 0, none⟩) (G.length + 1) cap' ∧ RS n₀ B (w4.setCell ⟨B, 0, none⟩ v') g' cap' (G ++ [(.slice none 0 0, [])]) C' := by
  have hlast := snoc_last G ((.slice none 0 0, []) : Value × List Pc)
  have hX : secX G ++ zeroSec = secX (G ++ [(.slice none 0 0, [])]) := by unfold secX; rw [List.flatMap_append]; simp [zero_sec]
  rw [hX] at ho
  have hk := h.keep (KC.of_below hA)
  have hBs : B < WA.heap.size := (Array.getElem?_eq_some_iff.1 hk.box).1
  have hB4 : w4.heap[B]? = WA.heap[B]? := hg.block B hBs (fun e => hk.ne (by injection e with e; exact e.symm))
  rcases ho.2 with ⟨e, _⟩ | ⟨g', cap', C', rfl, e2, e3, e4, e5, e6, e7⟩
  · exact absurd ho.1 (by omega)
  · have hgB : g' ≠ B := fun e => by
      rw [e, hB4, hk.box] at e3
      cases e3
    have oth : ∀ b, b ≠ B → (w4.setCell ⟨B, 0, none⟩ (.slice (some ⟨g', 0, none⟩) (G.length + 1) cap')).heap[b]? = w4.heap[b]? := fun b hb => by
      simp [World.setCell, Array.getElem?_modify, Ne.symm hb]
    have hown : (w4.setCell ⟨B, 0, none⟩ (.slice (some ⟨g', 0, none⟩) (G.length + 1) cap')).ownsRow n₀ 66 12 (.slice (some ⟨g', 0, none⟩) (G.length + 1) cap') (G.length + 1) (secX (G ++ [(.slice none 0 0, [])])) :=
      ⟨ho.1, .inr ⟨g', cap', C', rfl, e2, (oth g' hgB).trans e3, e4, e5, e6, e7⟩⟩
    refine ⟨g', cap', C', rfl, ?_, e2, (oth g' hgB).trans e3, e6, by simpa using e4, e5, ⟨?_, fun i x hx => ⟨?_, fun j hj => ?_⟩⟩, fun i x hx => ?_, fun i j x y hx hy hij => ?_⟩
    · have : w4.heap[B]? = _ := hB4.trans hk.box
      simp [World.setCell, Array.getElem?_modify, this]
    · rw [World.size_setCell]; exact (Array.getElem?_eq_some_iff.1 e3).1
    · rw [World.size_setCell]; exact (Array.getElem?_eq_some_iff.1 e3).1
    · have hi : i < G.length + 1 := by have := (List.getElem?_eq_some_iff.1 hx).1; simpa using this
      rw [hown.cellAt (i * 12 + j) (by omega)]
      exact secX_get hx j hj
    · rcases snoc_get hx with ⟨hi, hx⟩ | ⟨rfl, rfl⟩
      · refine own_same (hk.rows i x hx) (fun b D hb hD => ?_)
        have hbB : b ≠ B := fun e => hk.ub hx (by rw [hb, e])
        rw [oth b hbB]
        exact (hg.block b (Array.getElem?_eq_some_iff.1 hD).1 (fun e => hk.ug hx (by rw [hb]; exact e))).trans hD
      · exact World.ownsRow_nil _ _ _ _
    · rcases snoc_get hx with ⟨hi, hx⟩ | ⟨rfl, rfl⟩ <;> rcases snoc_get hy with ⟨hj, hy⟩ | ⟨rfl, rfl⟩
      · exact hk.apart i j x y hx hy hij
      · cases hq : x.1.ownBlock with
        | none => exact .inl rfl
        | some b => exact .inr (by intro e; cases e)
      · exact .inl rfl
      · exact absurd rfl hij
end Go.Proofs.YtnhaapcpklfkpaaGreatDoor
