/-
  Rows of tokens: how they are read; what stays of them.
-/
import Derived.Test.YtiaoaifoecmemaaGreatDoorRLxS
namespace Go.Proofs.YtiaoaifoecmemaaGreatDoor
open Go.RowKit Go.Shelf
theorem tokC_len (t : Tok) : (tokC t).length = 12 := rfl
theorem cells_at : ∀ (ts : List Tok) (i j : Nat) (t : Tok), ts[i]? = some t → j < 12 → (cellsT ts)[12 * i + j]? = (tokC t)[j]?
 | [], i, j, t, h, _ => by simp at h
 | u :: ts, 0, j, t, h, hj => by
  obtain rfl : u = t := by simpa using h
  unfold cellsT
  rw [List.flatMap_cons, List.getElem?_append_left (by rw [tokC_len]; omega)]
  simp
 | u :: ts, i + 1, j, t, h, hj => by
  have ih := cells_at ts i j t (by simpa using h) hj
  unfold cellsT at *
  rw [List.flatMap_cons, List.getElem?_append_right (by rw [tokC_len]; omega), tokC_len, ← ih]
  congr 1
  omega
def Rd (w : World) (v : Value) (ts : List Tok) : Prop :=
 (v = .slice none 0 0 ∧ ts = []) ∨ ∃ g o cap, v = .slice (some ⟨g, o, none⟩) ts.length cap ∧ ts.length ≤ cap ∧ cap ≤ maxLen ∧ g < w.heap.size ∧ ∀ i t, ts[i]? = some t → ∀ j, j < 12 → w.cell? ⟨g, o + 12 * i + j, none⟩ = (tokC t)[j]?
theorem Rd.below {w w' : World} {v : Value} {ts : List Tok} (h : Rd w v ts) (hb : Below w.heap.size w w') : Rd w' v ts := by
  rcases h with h | ⟨g, o, cap, h1, h2, h3, h4, h5⟩
  · exact .inl h
  · exact .inr ⟨g, o, cap, h1, h2, h3, Nat.lt_of_lt_of_le h4 hb.size, fun i t hi j hj => by rw [hb.cell (p := ⟨g, o + 12 * i + j, none⟩) h4]; exact h5 i t hi j hj⟩
theorem RowT.rd {n₀ : Nat} {w : World} {v : Value} {ts : List Tok} (h : RowT n₀ w v ts) : Rd w v ts := by
  have h' := h
  unfold RowT at h
  rcases h.2 with ⟨rfl, hn⟩ | ⟨g, cap, cur, rfl, hb, hg, hnc, hcm, hcs, htake⟩
  · exact .inl ⟨rfl, List.eq_nil_of_length_eq_zero hn⟩
  · refine .inr ⟨g, 0, cap, rfl, hnc, hcm, (Array.getElem?_eq_some_iff.1 hg).1, fun i t hi j hj => ?_⟩
    have hil : i < ts.length := (List.getElem?_eq_some_iff.1 hi).1
    have e : 0 + 12 * i + j = 12 * i + j := by omega
    rw [e, h.cellAt (12 * i + j) (by omega), cells_at ts i j t hi hj]
theorem RowT.below {n₀ : Nat} {w w' : World} {v : Value} {ts : List Tok} (h : RowT n₀ w v ts) (hb : Below w.heap.size w w') : RowT n₀ w' v ts :=
 World.ownsRow.kept h ⟨hb.os, hb.tape, hb.output, hb.size, fun k hk _ => hb.block k hk⟩ (row := none) (by cases v.ownBlock <;> simp)
theorem Rd.drop {w : World} {g o cap n : Nat} {ts : List Tok} (h : Rd w (.slice (some ⟨g, o, none⟩) n cap) ts) (i : Nat) (hi : i ≤ ts.length) : Rd w (.slice (some ⟨g, o + 12 * i, none⟩) (ts.length - i) (cap - i)) (ts.drop i) := by
  rcases h with ⟨h, _⟩ | ⟨g', o', cap', h1, h2, h3, h4, h5⟩
  · cases h
  · simp only [Value.slice.injEq, Option.some.injEq, Addr.mk.injEq, and_true] at h1
    obtain ⟨⟨rfl, rfl⟩, _, rfl⟩ := h1
    refine .inr ⟨g, o + 12 * i, cap - i, by rw [List.length_drop], by rw [List.length_drop]; omega, by omega, h4, fun k t hk j hj => ?_⟩
    rw [List.getElem?_drop] at hk
    have := h5 (i + k) t hk j hj
    rw [show o + 12 * i + 12 * k + j = o + 12 * (i + k) + j by omega]
    exact this
end Go.Proofs.YtiaoaifoecmemaaGreatDoor
