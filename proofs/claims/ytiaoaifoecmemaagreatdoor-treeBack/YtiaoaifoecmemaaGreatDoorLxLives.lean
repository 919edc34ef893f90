/-
  The contract of the statements' own 'lives': the document's examples.
-/
import Derived.Test.YtiaoaifoecmemaaGreatDoorLxRow
namespace Go.Proofs.YtiaoaifoecmemaaGreatDoor
open Go.RowKit Go.Shelf

theorem lv1 : scanR [83, 85, 77, 40, 65, 49, 58, 36, 66, 36, 50, 41, 42, 50] = ([⟨3, 0, 0, [], false, 0, 0, 0, false, false, [83, 85, 77], 0⟩, ⟨4, 0, 0, [], false, 0, 0, 0, false, false, [40], 3⟩, ⟨2, 0, 0, [], false, 0, 1, 1, false, false, [], 4⟩, ⟨4, 0, 0, [], false, 0, 0, 0, false, false, [58], 6⟩, ⟨2, 0, 0, [], false, 0, 2, 2, true, true, [], 7⟩, ⟨4, 0, 0, [], false, 0, 0, 0, false, false, [41], 11⟩, ⟨4, 0, 0, [], false, 0, 0, 0, false, false, [42], 12⟩, ⟨1, 1, 2000000, [], false, 0, 0, 0, false, false, [], 13⟩, ⟨0, 0, 0, [], false, 0, 0, 0, false, false, [], 14⟩], 0, 0) := by kernel_rfl
theorem lv2 : scanR [34, 97, 34, 34, 98, 34] = ([⟨1, 2, 0, [97, 34, 98], false, 0, 0, 0, false, false, [], 0⟩, ⟨0, 0, 0, [], false, 0, 0, 0, false, false, [], 6⟩], 0, 0) := by kernel_rfl
theorem lv3 : scanR [32, 49, 46, 50, 46, 51] = ([], 1, 5) := by kernel_rfl
theorem lv4 : scanR [49, 43, 36, 65, 40, 49, 41] = ([], 2, 5) := by kernel_rfl
theorem row_open {n₀ : Nat} {w : World} {v : Value} {t : Tok} {ts : List Tok} (h : RowT n₀ w v (t :: ts)) : ∃ g cap, v = .slice (some ⟨g, 0, none⟩) (ts.length + 1) cap ∧ n₀ ≤ g ∧ g < w.heap.size ∧ ts.length + 1 ≤ cap ∧ cap ≤ maxLen := by
  unfold RowT at h
  rcases h.2 with ⟨_, h⟩ | ⟨g, cap, cur, h1, h2, h3, h4, h5, _⟩
  · cases h
  · exact ⟨g, cap, h1, h2, (Array.getElem?_eq_some_iff.1 h3).1, h4, h5⟩
theorem row_cell {n₀ : Nat} {w : World} {g n cap : Nat} {ts : List Tok} (h : RowT n₀ w (.slice (some ⟨g, 0, none⟩) n cap) ts) (i : Nat) (u : Tok) (hi : ts[i]? = some u) (j : Nat) (hj : j < 12) (k : Nat) (hk : k = 12 * i + j) : w.cell? ⟨g, k, none⟩ = (tokC u)[j]? := by
  have hil : i < ts.length := (List.getElem?_eq_some_iff.1 hi).1
  unfold RowT at h
  have hn : n = ts.length := by
    rcases h.2 with ⟨h', _⟩ | ⟨_, _, _, h', _⟩
    · cases h'
    · cases h'; rfl
  subst hn
  rw [hk, h.cellAt (12 * i + j) (by omega), cells_at ts i j u hi hj]
end Go.Proofs.YtiaoaifoecmemaaGreatDoor
