/-
  An insertion that pushes nothing of what a formula names off is undone by its Back.
  A map of rectangles that the call makes: what it holds, how a count goes up; append's law within a fence.
  The contract of forms.Rects.
  place.Check at a right rectangle.
  Behind an edit: what a formula names goes with its places; an insertion that pushes nothing off is undone.
-/
import Derived.Test.YtfpmmckpobpokaaGreatMZE
import Derived.Test.YtfpmmckpobpokaaGreatMRwK1
import Derived.DeepKeys4
import Derived.WideKeyEntry
namespace Go.Proofs.YtfpmmckpobpokaaGreat
open Go.RowKit Go.Shelf Go.ChangeMaps Go.MapKept
def rcV (r : Int × Int × Int × Int) : Value := .agg (rcC r).toArray
def rcS (r : Int × Int × Int × Int) : Prop := (0 ≤ r.1 ∧ r.1 ≤ 1048576) ∧ (0 ≤ r.2.1 ∧ r.2.1 ≤ 1048576) ∧ (0 ≤ r.2.2.1 ∧ r.2.2.1 ≤ 1048576) ∧ 0 ≤ r.2.2.2 ∧ r.2.2.2 ≤ 1048576
def EsOk (l : List (Int × Int × Int × Int)) (n : Nat) (es : Array MapEntry) (clock : Nat) : Prop :=
 Stamped es clock ∧ (∀ x ∈ es.toList, ∃ r ∈ l, ∃ c : Nat, x.key = rcV r ∧ x.val = .int .i64 c ∧ 1 ≤ c ∧ c ≤ n) ∧ (∀ r ∈ l, rcS r ∧ ∃ x ∈ es.toList, x.key = rcV r)
def Met (W : World) (M : Nat) (l : List (Int × Int × Int × Int)) (n : Nat) : Prop := ∃ es clock, W.heap[M]? = some (.map es clock) ∧ EsOk l n es clock
theorem EsOk.nil (n : Nat) : EsOk [] n #[] 0 := ⟨⟨by simp, by simp, by simp⟩, by simp, by simp⟩
end Go.Proofs.YtfpmmckpobpokaaGreat
namespace Go.Proofs.YtfpmmckpobpokaaGreat
open Go.RowKit Go.Shelf Go.ChangeMaps Go.MapKept
theorem make_map (w : World) : (Instr.makeMap 96 none).run Tryz.prog w = .ok (.map (some w.heap.size)) (w.alloc (.map #[] 0)) := rfl
attribute [local go_sem] Oper.semAt_some make_map
theorem Met.to {X Y : World} {M n n' : Nat} {l l' : List (Int × Int × Int × Int)} (h : Met X M l n) (hb : Below X.heap.size X Y) (hl : l' = l) (hn : n ≤ n') : Met Y M l' n' := by
 subst hl
 obtain ⟨es, clock, h1, h2, h3, h4⟩ := h
 exact ⟨es, clock, (hb.block _ (Array.getElem?_eq_some_iff.1 h1).1).trans h1, h2, fun x hx => by obtain ⟨r, hr, c, a1, a2, a3, a4⟩ := h3 x hx; exact ⟨r, hr, c, a1, a2, a3, by omega⟩, h4⟩
def Rws (n₀ B : Nat) (l : List (Int × Int × Int × Int)) (X : World) : Prop := ∃ v, Boxed X B 57 v ∧ X.ownsRow n₀ 62 4 v l.length (l.flatMap rcC)
theorem Rws.to {X Y : World} {n₀ B : Nat} {l l' : List (Int × Int × Int × Int)} (h : Rws n₀ B l X) (hb : Below X.heap.size X Y) (hl : l' = l) : Rws n₀ B l' Y := by
 subst hl
 obtain ⟨v, h1, h2⟩ := h
 exact ⟨v, (hb.block _ h1.lt).trans h1, h2.kept ⟨hb.os, hb.tape, hb.output, hb.size, fun k hk _ => hb.block k hk⟩ (row := none) (by cases v.ownBlock <;> simp)⟩
theorem KpR.turn {n₀ B M clock : Nat} {Y Y2 Y3 : World} {es : Array MapEntry} (hn : n₀ ≤ M) (hM : Y.heap[M]? = some (.map es clock)) (hBM : B ≠ M) (hg : ∀ i, i ≠ M → Y3.heap[i]? = Y.heap[i]?) (n2 : Y.drew.grownBy Y2 (some M)) (n3 : Y2.grownBy Y3 (some M)) : KpR n₀ B Y Y3 := by
 have hMl := (Array.getElem?_eq_some_iff.1 hM).1
 have hb : Below n₀ Y Y2 := (Below.refl n₀ Y).drew.grown n2 (show n₀ ≤ Y.drew.heap.size from (by show n₀ ≤ Y.heap.size; omega)) (fun k e => by cases e; exact hn)
 refine ⟨hb.grown n3 (by have := n2.size; have h5 : Y.heap.size ≤ Y2.heap.size := this; omega) (fun k e => by cases e; exact hn), fun b o h1 h2 _ _ => (hg b (fun e => by subst e; rw [hM] at h1; cases h1; cases h2)).trans h1, fun g h => .inl ?_⟩
 rw [rowAt_block (hg B hBM)] at h
 exact h
end Go.Proofs.YtfpmmckpobpokaaGreat
namespace Go.Proofs.YtfpmmckpobpokaaGreat
open Go.RowKit Go.Shelf
theorem flat_at : ∀ (l : List (Int × Int × Int × Int)) (i : Nat) (r : Int × Int × Int × Int), l[i]? = some r → ∀ j, j < 4 → (l.flatMap rcC)[i * 4 + j]? = (rcC r)[j]?
 | x :: l, 0, r, h, j, hj => by
  obtain rfl : x = r := Option.some.inj h
  rw [List.flatMap_cons, List.getElem?_append_left (by simp [rcC]; omega)]
  simp
 | x :: l, i + 1, r, h, j, hj => by
  rw [List.flatMap_cons, List.getElem?_append_right (by simp [rcC]; omega), show (i + 1) * 4 + j - (rcC x).length = i * 4 + j by simp [rcC]; omega]
  exact flat_at l i r (by simpa using h) j hj
def Rcs (w : World) (v : Value) (l : List (Int × Int × Int × Int)) : Prop := ∃ p cap, v = .slice p l.length cap ∧ (l = [] ∨ ∃ g, p = some ⟨g, 0, none⟩ ∧ ∀ W, Below w.heap.size w W → ∀ i r, l[i]? = some r → W.cell? ⟨g, i * 4, none⟩ = some (.int .i64 r.1) ∧ W.cell? ⟨g, i * 4 + 1, none⟩ = some (.int .i64 r.2.1) ∧ W.cell? ⟨g, i * 4 + 2, none⟩ = some (.int .i64 r.2.2.1) ∧ W.cell? ⟨g, i * 4 + 3, none⟩ = some (.int .i64 r.2.2.2))
theorem Rcs.of {w : World} {base : Nat} {v : Value} {l : List (Int × Int × Int × Int)} (h : w.ownsRow base 62 4 v l.length (l.flatMap rcC)) : Rcs w v l := by
 cases l with
 | nil =>
  rcases h.2 with ⟨rfl, _⟩ | ⟨g, cap, cur, rfl, _⟩
  ·
   exact ⟨none, 0, rfl, .inl rfl⟩
  ·
   exact ⟨_, cap, rfl, .inl rfl⟩
 | cons x l =>
  obtain ⟨g, cap, rfl⟩ := ownsRow_succ h
  have hg := (h.lt g rfl).2
  refine ⟨_, cap, rfl, .inr ⟨g, rfl, fun W hW i r hr => ?_⟩⟩
  have hil : i < (x :: l).length := (List.getElem?_eq_some_iff.1 hr).1
  have hc : ∀ j, j < 4 → W.cell? ⟨g, i * 4 + j, none⟩ = (rcC r)[j]? := fun j hj => (hW.cell (p := ⟨g, i * 4 + j, none⟩) hg).trans ((h.cellAt (i * 4 + j) (by simp only [List.length_cons] at hil ⊢; omega)).trans (flat_at _ i r hr j hj))
  exact ⟨hc 0 (by omega), hc 1 (by omega), hc 2 (by omega), hc 3 (by omega)⟩
theorem Rcs.below {w w' : World} {v : Value} {l : List (Int × Int × Int × Int)} (h : Rcs w v l) (hb : Below w.heap.size w w') : Rcs w' v l := by
 obtain ⟨p, cap, e, h⟩ := h
 refine ⟨p, cap, e, ?_⟩
 rcases h with h | ⟨g, hp, h⟩
 ·
  exact .inl h
 ·
  exact .inr ⟨g, hp, fun W hW => h W (hb.trans (hW.mono hb.size))⟩
end Go.Proofs.YtfpmmckpobpokaaGreat
namespace Go.Proofs.YtfpmmckpobpokaaGreat
open Go.RowKit
theorem alone_cell {h : Hd} {m : Nat} (ha : aloneB h m = true) (k2 : h.kind = 2) : Pla.placeB h.row h.col = true := by
 unfold aloneB at ha
 rw [if_neg (by omega), if_pos k2] at ha
 simp only [Bool.and_eq_true] at ha
 exact ha.1.1.1.1
theorem alone_range {h : Hd} {m : Nat} (ha : aloneB h m = true) (k3 : h.kind = 3) : Pla.placeB h.row h.col = true ∧ Pla.placeB h.row2 h.col2 = true := by
 unfold aloneB at ha
 rw [if_neg (by omega), if_neg (by omega), if_pos k3] at ha
 simp only [Bool.and_eq_true] at ha
 exact ⟨ha.1.1.1.1, ha.1.1.1.2⟩
theorem spot_place {k a n r c : Int} (he : Pla.editB k a n = true) (hp : Pla.placeB r c = true) (hf : (Pla.spotR k a n r c).2.2.1 = 0) : Pla.placeB (Pla.spotR k a n r c).1 (Pla.spotR k a n r c).2.1 = true ∧ Pla.spotR k a n r c = ((Pla.spotR k a n r c).1, (Pla.spotR k a n r c).2.1, 0, 0) := by
 have p := Pla.placeB_iff.1 hp
 rcases Pla.spot_cases k a n r c with ⟨_, h1 | h1⟩ | ⟨_, _, f, h1, e⟩ | ⟨_, _, hr, ht, e⟩ | ⟨_, _, hr, ht, e⟩
 ·
  rw [he] at h1; cases h1
 ·
  rw [hp] at h1; cases h1
 ·
  rw [e] at hf; simp only at hf; omega
 ·
  have tt := Pla.top_rows hr
  have g := Pla.carry_fits he (x := r) (by omega) (by omega) ht
  rw [e]
  exact ⟨Pla.placeB_iff.2 (by simp only; omega), rfl⟩
 ·
  have tt := Pla.top_cols hr
  have g := Pla.carry_fits he (x := c) (by omega) (by omega) ht
  rw [e]
  exact ⟨Pla.placeB_iff.2 (by simp only; omega), rfl⟩
theorem rect_ok {k a n t l b r : Int} (h : (Pla.rectR k a n t l b r).2.2.2.2.1 = true) : Pla.editB k a n = true ∧ Pla.rightB t l b r = true ∧ ∃ t' l' b' r', Pla.rectR k a n t l b r = (t', l', b', r', true, 0) ∧ Pla.rightB t' l' b' r' = true := by
 rcases Pla.rect_cases k a n t l b r with ⟨e, _⟩ | ⟨_, _, _, _, e, _⟩ | ⟨_, _, _, _, e, _⟩ | ⟨he, hR, hw, hq, e, _⟩ | ⟨he, hR, hw, hq, e, _⟩
 ·
  rw [e] at h; cases h
 ·
  rw [e] at h; cases h
 ·
  rw [e] at h; cases h
 ·
  have g := Pla.rightB_iff.1 hR
  have tt := Pla.top_rows hw
  have o := Pla.lines_ok he (f := t) (l := b) (by omega) (by omega) hq
  exact ⟨he, hR, _, _, _, _, e, Pla.rightB_iff.2 (by omega)⟩
 ·
  have g := Pla.rightB_iff.1 hR
  have tt := Pla.top_cols hw
  have o := Pla.lines_ok he (f := l) (l := r) (by omega) (by omega) hq
  exact ⟨he, hR, _, _, _, _, e, Pla.rightB_iff.2 (by omega)⟩
theorem of_right {r c r2 c2 : Int} (h1 : Pla.placeB r c = true) (h2 : Pla.placeB r2 c2 = true) : Pla.ofR r c r2 c2 = (min r r2, min c c2, max r r2, max c c2, 0) ∧ Pla.rightB (min r r2) (min c c2) (max r r2) (max c c2) = true := by
 refine ⟨by unfold Pla.ofR; rw [h1, h2]; rfl, ?_⟩
 have p1 := Pla.placeB_iff.1 h1
 have p2 := Pla.placeB_iff.1 h2
 exact Pla.rightB_iff.2 (by omega)
theorem span_ok {k a n r c r2 c2 : Int} (h1 : Pla.placeB r c = true) (h2 : Pla.placeB r2 c2 = true) (h : (spanR k a n r c r2 c2).2.2.2.2 = true) : ∃ t l b r', Pla.rectR k a n (min r r2) (min c c2) (max r r2) (max c c2) = (t, l, b, r', true, 0) ∧ Pla.rightB t l b r' = true ∧ spanR k a n r c r2 c2 = (if r ≤ r2 then t else b, if c ≤ c2 then l else r', if r ≤ r2 then b else t, if c ≤ c2 then r' else l, true) := by
 unfold spanR at h ⊢
 rw [(of_right h1 h2).1] at h ⊢
 simp only at h ⊢
 obtain ⟨_, _, t, l, b, r', e, hR⟩ := rect_ok h
 rw [e]
 exact ⟨t, l, b, r', rfl, hR, rfl⟩
theorem leaf_nil {h : Hd} {q : Fo} (ha : aloneB h q.len = true) (hl : leafB h = true) : q = .nil := by
 refine len_nil ?_
 unfold leafB at hl
 unfold aloneB at ha
 by_cases k2 : h.kind = 2
 ·
  rw [if_neg (by omega), if_pos k2] at ha
  simp only [Bool.and_eq_true, decide_eq_true_eq] at ha
  exact ha.2
 ·
  have k3 : h.kind = 3 := by simpa [k2] using hl
  rw [if_neg (by omega), if_neg k2, if_pos k3] at ha
  simp only [Bool.and_eq_true, decide_eq_true_eq] at ha
  exact ha.2
end Go.Proofs.YtfpmmckpobpokaaGreat
namespace Go.Proofs.YtfpmmckpobpokaaGreat
open Go.RowKit
theorem other_same (D : Do) (h : Hd) (n : Nat) (ha : aloneB h n = true) (k2 : h.kind ≠ 2) (k3 : h.kind ≠ 3) : remH D h = h ∧ leafB h = false := by
 obtain ⟨kind, vk, vn, vs, vb, vc, row, col, fr, fc, row2, col2, fr2, fc2, txt⟩ := h
 simp only at k2 k3
 refine ⟨?_, by simp [leafB, k2, k3]⟩
 unfold aloneB noVal noCell noTo at ha
 simp only [k2, k3, if_false] at ha
 simp only [remH, k2, k3, if_false, bareH]
 by_cases k1 : kind = 1
 ·
  subst k1
  simp at ha
  simp [ha]
 rw [if_neg k1] at ha
 by_cases k4 : kind = 4
 ·
  subst k4
  simp at ha
  simp [ha]
 rw [if_neg k4] at ha
 by_cases k5 : kind = 5
 ·
  subst k5
  simp at ha
  simp [ha]
 rw [if_neg k5] at ha
 by_cases k6 : kind = 6
 ·
  subst k6
  simp at ha
  simp [ha]
 rw [if_neg k6] at ha
 cases ha
end Go.Proofs.YtfpmmckpobpokaaGreat
