/-
  The answer's like: by places, from the ends on.
-/
import Derived.Test.YtpghgjibpbimeaaGreatDoorRf2
import Derived.Test.YtpghgjibpbimeaaGreatDoorCr3
import Derived.Test.YtpghgjibpbimeaaGreatDoorKVal3
namespace Go.Proofs.YtpghgjibpbimeaaGreatDoor
open Go.RowKit
set_option linter.unusedSimpArgs false

theorem infoBool : (Tryz.prog.info? 4).map (fun i => (i.zero, i.size, i.bytes)) = some (some (.bool false), 1, 1) := by kernel_rfl
/-- Is what stands from a place on what the steps from one on stand for? -/
def fAt (l : List Stp) (s : List UInt8) (k j : Nat) : Bool := lk (l.drop k) (s.drop j)
theorem drop_len {α : Type} {l : List α} {i : Nat} (h : l.length ≤ i) : l.drop i = [] := List.drop_eq_nil_of_le h
theorem fAt_row {l : List Stp} {s : List UInt8} {k j : Nat} {p : Stp} (hp : l[k]? = some p) (h2 : p.k = 2) : fAt l s k j = (fAt l s (k + 1) j || (decide (j < s.length) && fAt l s k (j + 1))) := by
  unfold fAt
  rw [drop_at hp, lk_row h2]
  by_cases hj : j < s.length
  · rw [List.drop_eq_getElem_cons hj, starL, lk_row h2, decide_eq_true hj, Bool.true_and]
  · rw [drop_len (by omega : s.length ≤ j), starL, decide_eq_false hj, Bool.false_and, Bool.or_false]
theorem fAt_one {l : List Stp} {s : List UInt8} {k j : Nat} {p : Stp} (hp : l[k]? = some p) (h2 : p.k ≠ 2) (hj : j < s.length) : fAt l s k j = (takesB p s[j] && fAt l s (k + 1) (j + 1)) := by
  unfold fAt
  rw [drop_at hp, List.drop_eq_getElem_cons hj, lk_one h2]
theorem fAt_end {l : List Stp} {s : List UInt8} {k j : Nat} {p : Stp} (hp : l[k]? = some p) (h2 : p.k ≠ 2) (hj : s.length ≤ j) : fAt l s k j = false := by
  unfold fAt
  rw [drop_at hp, drop_len hj, lk_end h2]
theorem fAt_last (l : List Stp) (s : List UInt8) (j : Nat) : fAt l s l.length j = decide (s.length ≤ j) := by
  unfold fAt
  rw [List.drop_length]
  unfold lk
  by_cases h : s.length ≤ j
  · rw [drop_len h, decide_eq_true h]; rfl
  · rw [List.drop_eq_getElem_cons (by omega), decide_eq_false h]; rfl
/-- A row of truths lies in a block: what stands from each place on. -/
def NowAt (W : World) (g : Nat) (l : List Stp) (s : List UInt8) (k : Nat) : Prop := g < W.heap.size ∧ ∀ j, j ≤ s.length → W.cell? ⟨g, j, none⟩ = some (.bool (fAt l s k j))
theorem NowAt.below {W W' : World} {g k : Nat} {l : List Stp} {s : List UInt8} (h : NowAt W g l s k) (z : Below W.heap.size W W') : NowAt W' g l s k :=
  ⟨Nat.lt_of_lt_of_le h.1 z.size, fun j hj => (z.cell (p := ⟨g, j, Option.none⟩) h.1).trans (h.2 j hj)⟩
/-- The answer's steps lie in a row. -/
def RsAt (W : World) (v : Value) (l : List Stp) : Prop := l = [] ∨ ∃ g cap, v = .slice (some ⟨g, 0, none⟩) l.length cap ∧ g < W.heap.size ∧ ∀ j p, l[j]? = some p → W.cell? ⟨g, j * 2, none⟩ = some (.int .u8 (rkB p)) ∧ W.cell? ⟨g, j * 2 + 1, none⟩ = some (.int .u8 (p.o.toNat : Int))
theorem RsAt.below {W W' : World} {v : Value} {l : List Stp} (h : RsAt W v l) (z : Below W.heap.size W W') : RsAt W' v l := by
  rcases h with h | ⟨g, cap, rfl, hg, hc⟩
  · exact .inl h
  · exact .inr ⟨g, cap, rfl, Nat.lt_of_lt_of_le hg z.size, fun j p hj => ⟨(z.cell (p := ⟨g, j * 2, Option.none⟩) hg).trans (hc j p hj).1, (z.cell (p := ⟨g, j * 2 + 1, Option.none⟩) hg).trans (hc j p hj).2⟩⟩
theorem rstps_get : ∀ {l : List Stp} {j : Nat} {p : Stp}, l[j]? = some p → (rstpsC l)[j * 2]? = some (.int .u8 (rkB p)) ∧ (rstpsC l)[j * 2 + 1]? = some (.int .u8 (p.o.toNat : Int))
  | [], j, p, h => by simp at h
  | q :: l, 0, p, h => by
    simp at h
    subst h
    exact ⟨rfl, rfl⟩
  | q :: l, j + 1, p, h => by
    have := rstps_get (l := l) (j := j) (p := p) (by simpa using h)
    rw [show (j + 1) * 2 = j * 2 + 1 + 1 by omega]
    exact this
theorem rs_of_own {W : World} {base : Nat} {v : Value} {l : List Stp} (h : W.ownsRow base 62 2 v l.length (rstpsC l)) : RsAt W v l ∧ ∃ p cap, v = .slice p l.length cap := by
  have h' := h
  obtain ⟨_, ⟨rfl, h1⟩ | ⟨g, cap, cur, rfl, hb, hh, _⟩⟩ := h
  · exact ⟨.inl (List.eq_nil_of_length_eq_zero h1), none, 0, by rw [h1]⟩
  · refine ⟨.inr ⟨g, cap, rfl, (Array.getElem?_eq_some_iff.1 hh).1, fun j p hj => ?_⟩, _, cap, rfl⟩
    have hlt := (List.getElem?_eq_some_iff.1 hj).1
    obtain ⟨k1, k2⟩ := rstps_get hj
    exact ⟨(h'.cellAt (j * 2) (by omega)).trans k1, (h'.cellAt (j * 2 + 1) (by omega)).trans k2⟩
/-- A row of truths that is being filled from its end on. -/
def FillR (bs : List Bool) (l : List Stp) (s : List UInt8) (k m : Nat) : Prop := bs.length = s.length + 1 ∧ ∀ j, m ≤ j → j ≤ s.length → bs[j]? = some (fAt l s k j)
theorem FillR.zero (bs : List Bool) (l : List Stp) (s : List UInt8) (k : Nat) (h : bs.length = s.length + 1) : FillR bs l s k (s.length + 1) := ⟨h, fun j h1 h2 => absurd h1 (by omega)⟩
theorem FillR.put {bs : List Bool} {l : List Stp} {s : List UInt8} {k m : Nat} {x : Bool} (h : FillR bs l s k (m + 1)) (hm : m ≤ s.length) (hx : fAt l s k m = x) : FillR (bs.set m x) l s k m := by
  refine ⟨by rw [List.length_set]; exact h.1, fun j h1 h2 => ?_⟩
  by_cases e : j = m
  · subst e
    rw [List.getElem?_set_self (by rw [h.1]; omega), hx]
  · rw [List.getElem?_set_ne (fun q => e q.symm)]
    exact h.2 j (by omega) h2
def boolsC (bs : List Bool) : List Value := bs.map Value.bool
theorem bools_set (bs : List Bool) (m : Nat) (x : Bool) : (boolsC bs).set m (.bool x) = boolsC (bs.set m x) := by unfold boolsC; rw [List.map_set]
theorem bools_made (n : Nat) : (madeCells (Value.bool false).cells (n * 1)).toList = boolsC (List.replicate n false) := by
  rw [show (Value.bool false).cells = #[Value.bool false] from rfl]
  rw [Nat.mul_one, toList_madeCells_one]
  unfold boolsC
  rw [List.map_replicate]
theorem now_first {w w0 : World} {l : List Stp} {s : List UInt8} (h : w0.ownsRow w.heap.size 4 1 (.slice (some ⟨w.heap.size, 0, none⟩) (s.length + 1) (s.length + 1)) (s.length + 1) (boolsC (List.replicate (s.length + 1) false))) (hg : w.grownBy w0 none) :
    w0.cell? ⟨w.heap.size, s.length, none⟩ = some (.bool false) ∧ w0.frozen? ⟨w.heap.size, s.length, none⟩ = false ∧ NowAt (w0.setCell ⟨w.heap.size, s.length, none⟩ (.bool true)) w.heap.size l s l.length ∧ Below w.heap.size w (w0.setCell ⟨w.heap.size, s.length, none⟩ (.bool true)) := by
  have hb : Below w.heap.size w w0 := (Below.refl _ w).grown hg (Nat.le_refl _) (fun k hk => by cases hk)
  obtain ⟨s1, s2⟩ := h.stored s.length (.bool true)
  have s1' := s1
  obtain ⟨_, ⟨e, _⟩ | ⟨g', cap, cur, e, h2, h3, _⟩⟩ := s1'
  · simp at e
  simp only [Value.slice.injEq, Option.some.injEq, Addr.mk.injEq, and_true, true_and] at e
  obtain ⟨rfl, rfl⟩ := e
  refine ⟨?_, h.frozenAt _, ⟨(Array.getElem?_eq_some_iff.1 h3).1, fun j hj => ?_⟩, hb.setCell (Nat.le_refl _) _⟩
  · rw [h.cellAt s.length (by omega)]; simp [boolsC]
  · rw [s1.cellAt j (by omega), bools_set, fAt_last]
    unfold boolsC
    rw [List.getElem?_map]
    by_cases e : j = s.length
    · subst e
      rw [List.getElem?_set_self (by simp)]; simp
    · rw [List.getElem?_set_ne (fun q => e q.symm), List.getElem?_replicate, if_pos (by omega), decide_eq_false (by omega)]; rfl
theorem now_done {wr wx : World} {l : List Stp} {s : List UInt8} {k g : Nat} {bs : List Bool} (h : wx.ownsRow wr.heap.size 4 1 (.slice (some ⟨g, 0, none⟩) (s.length + 1) (s.length + 1)) (s.length + 1) (boolsC bs)) (hf : FillR bs l s k 0) : NowAt wx g l s k := by
  have h' := h
  obtain ⟨_, ⟨e, _⟩ | ⟨g', cap, cur, e, h2, h3, _⟩⟩ := h'
  · simp at e
  simp only [Value.slice.injEq, Option.some.injEq, Addr.mk.injEq, and_true, true_and] at e
  obtain ⟨rfl, rfl⟩ := e
  refine ⟨(Array.getElem?_eq_some_iff.1 h3).1, fun j hj => ?_⟩
  rw [h.cellAt j (by omega)]
  unfold boolsC
  rw [List.getElem?_map, hf.2 j (Nat.zero_le _) hj]; rfl
theorem fill_cell {wr wx : World} {l : List Stp} {s : List UInt8} {k g m : Nat} {bs : List Bool} (h : wx.ownsRow wr.heap.size 4 1 (.slice (some ⟨g, 0, none⟩) (s.length + 1) (s.length + 1)) (s.length + 1) (boolsC bs)) (hf : FillR bs l s k (m + 1)) (hm : m ≤ s.length) :
    (∃ o, wx.cell? ⟨g, m, none⟩ = some o) ∧ wx.frozen? ⟨g, m, none⟩ = false ∧ (m < s.length → wx.cell? ⟨g, m + 1, none⟩ = some (.bool (fAt l s k (m + 1)))) := by
  refine ⟨?_, h.frozenAt _, fun hlt => ?_⟩
  · rw [h.cellAt m (by omega)]
    unfold boolsC
    rw [List.getElem?_map, List.getElem?_eq_getElem (by rw [hf.1]; omega)]
    exact ⟨_, rfl⟩
  · rw [h.cellAt (m + 1) (by omega)]
    unfold boolsC
    rw [List.getElem?_map, hf.2 (m + 1) (Nat.le_refl _) (by omega)]; rfl
theorem fill_put {wr wx : World} {l : List Stp} {s : List UInt8} {k g m : Nat} {bs : List Bool} {x : Bool} (h : wx.ownsRow wr.heap.size 4 1 (.slice (some ⟨g, 0, none⟩) (s.length + 1) (s.length + 1)) (s.length + 1) (boolsC bs)) (hf : FillR bs l s k (m + 1)) (hm : m ≤ s.length) (hx : fAt l s k m = x) (hb : Below wr.heap.size wr wx) :
    ∃ bs', (wx.setCell ⟨g, m, none⟩ (.bool x)).ownsRow wr.heap.size 4 1 (.slice (some ⟨g, 0, none⟩) (s.length + 1) (s.length + 1)) (s.length + 1) (boolsC bs') ∧ FillR bs' l s k m ∧ Below wr.heap.size wr (wx.setCell ⟨g, m, none⟩ (.bool x)) := by
  obtain ⟨s1, s2⟩ := h.stored m (.bool x)
  rw [bools_set] at s1
  have hg : wr.heap.size ≤ g := by
    obtain ⟨_, ⟨e, _⟩ | ⟨g', cap, cur, e, h2, h3, _⟩⟩ := h
    · simp at e
    simp only [Value.slice.injEq, Option.some.injEq, Addr.mk.injEq, and_true, true_and] at e
    obtain ⟨rfl, rfl⟩ := e
    exact h2
  exact ⟨_, s1, hf.put hm hx, hb.setCell (p := ⟨g, m, none⟩) hg _⟩
end Go.Proofs.YtpghgjibpbimeaaGreatDoor
