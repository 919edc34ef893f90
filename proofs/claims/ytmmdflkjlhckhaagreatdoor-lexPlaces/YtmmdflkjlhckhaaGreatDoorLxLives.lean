/-
  The contract of the statements' own 'lives': the document's examples.
-/
import Derived.Test.YtmmdflkjlhckhaaGreatDoorLxRow
namespace Go.Proofs.YtmmdflkjlhckhaaGreatDoor
open Go.RowKit Go.Shelf

theorem lv1 : scanR [83, 85, 77, 40, 65, 49, 58, 36, 66, 36, 50, 41, 42, 50] = ([⟨3, 0, 0, [], false, 0, 0, 0, false, false, [83, 85, 77], 0⟩, ⟨4, 0, 0, [], false, 0, 0, 0, false, false, [40], 3⟩, ⟨2, 0, 0, [], false, 0, 1, 1, false, false, [], 4⟩, ⟨4, 0, 0, [], false, 0, 0, 0, false, false, [58], 6⟩, ⟨2, 0, 0, [], false, 0, 2, 2, true, true, [], 7⟩, ⟨4, 0, 0, [], false, 0, 0, 0, false, false, [41], 11⟩, ⟨4, 0, 0, [], false, 0, 0, 0, false, false, [42], 12⟩, ⟨1, 1, 2000000, [], false, 0, 0, 0, false, false, [], 13⟩, ⟨0, 0, 0, [], false, 0, 0, 0, false, false, [], 14⟩], 0, 0) := by kernel_rfl
theorem lv2 : scanR [34, 97, 34, 34, 98, 34] = ([⟨1, 2, 0, [97, 34, 98], false, 0, 0, 0, false, false, [], 0⟩, ⟨0, 0, 0, [], false, 0, 0, 0, false, false, [], 6⟩], 0, 0) := by kernel_rfl
theorem lv3 : scanR [32, 49, 46, 50, 46, 51] = ([], 1, 5) := by kernel_rfl
theorem lv4 : scanR [49, 43, 36, 65, 40, 49, 41] = ([], 2, 5) := by kernel_rfl
theorem row_open {n₀ : Nat} {w : World} {v : Value} {t : Tok} {ts : List Tok} (h : RowT n₀ w v (t :: ts)) : ∃ g cap, v = .slice (some ⟨g, 0, none⟩) (ts.length + 1) cap ∧ n₀ ≤ g ∧ g < w.heap.size ∧ ts.length + 1 ≤ cap ∧ cap ≤ maxLen := by
  unfold RowT at h
  rcases h.2 with ⟨_, h⟩ | ⟨g, cap, cur, h1, h2, h3, h4, h5, _⟩
  · cases h
  · exact ⟨g, cap, h1, h2, (Array.getElem?_eq_some_iff.1 h3).1, h4, h5⟩
theorem row_cell {n₀ : Nat} {w : World} {g n cap : Nat} {ts : List Tok} (h : RowT n₀ w (.slice (some ⟨g, 0, none⟩) n cap) ts) (i : Nat) (u : Tok) (hi : ts[i]? = some u) (j : Nat) (hj : j < 12) (k : Nat) (hk : k = 12 * i + j) : w.cell? ⟨g, k, none⟩ = (tokC u)[j]? := by
  have hil : i < ts.length := (List.getElem?_eq_some_iff.1 hi).1
  unfold RowT at h
  have hn : n = ts.length := by
    rcases h.2 with ⟨h', _⟩ | ⟨_, _, _, h', _⟩
    · cases h'
    · cases h'; rfl
  subst hn
  rw [hk, h.cellAt (12 * i + j) (by omega), cells_at ts i j u hi hj]
set_option maxRecDepth 100000 in
set_option maxHeartbeats 4000000 in
theorem lives_any (w : World) (he : EnvL w) :
    Calls Tryz.prog 11 #[] w fun e w' => e = .returned (.bool true) ∧ Below w.heap.size w w' := by
  have H1 : Hid (∀ W : World, EnvL W → Calls Tryz.prog 8 #[.string ⟨#[83, 85, 77, 40, 65, 49, 58, 36, 66, 36, 50, 41, 42, 50]⟩] W fun e w' => ∃ v, e = .returned (.tuple #[v, .int .i64 0, .int .i64 0]) ∧ RowT W.heap.size w' v [⟨3, 0, 0, [], false, 0, 0, 0, false, false, [83, 85, 77], 0⟩, ⟨4, 0, 0, [], false, 0, 0, 0, false, false, [40], 3⟩, ⟨2, 0, 0, [], false, 0, 1, 1, false, false, [], 4⟩, ⟨4, 0, 0, [], false, 0, 0, 0, false, false, [58], 6⟩, ⟨2, 0, 0, [], false, 0, 2, 2, true, true, [], 7⟩, ⟨4, 0, 0, [], false, 0, 0, 0, false, false, [41], 11⟩, ⟨4, 0, 0, [], false, 0, 0, 0, false, false, [42], 12⟩, ⟨1, 1, 2000000, [], false, 0, 0, 0, false, false, [], 13⟩, ⟨0, 0, 0, [], false, 0, 0, 0, false, false, [], 14⟩] ∧ Below W.heap.size W w') := fun W hW => by
    have := scan_any ⟨#[83, 85, 77, 40, 65, 49, 58, 36, 66, 36, 50, 41, 42, 50]⟩ W hW (by unfold maxLen; decide)
    rw [show ((⟨#[83, 85, 77, 40, 65, 49, 58, 36, 66, 36, 50, 41, 42, 50]⟩ : ByteArray).data.toList) = [83, 85, 77, 40, 65, 49, 58, 36, 66, 36, 50, 41, 42, 50] from rfl, lv1] at this
    exact this
  have H2 : Hid (∀ W : World, EnvL W → Calls Tryz.prog 8 #[.string ⟨#[34, 97, 34, 34, 98, 34]⟩] W fun e w' => ∃ v, e = .returned (.tuple #[v, .int .i64 0, .int .i64 0]) ∧ RowT W.heap.size w' v [⟨1, 2, 0, [97, 34, 98], false, 0, 0, 0, false, false, [], 0⟩, ⟨0, 0, 0, [], false, 0, 0, 0, false, false, [], 6⟩] ∧ Below W.heap.size W w') := fun W hW => by
    have := scan_any ⟨#[34, 97, 34, 34, 98, 34]⟩ W hW (by unfold maxLen; decide)
    rw [show ((⟨#[34, 97, 34, 34, 98, 34]⟩ : ByteArray).data.toList) = [34, 97, 34, 34, 98, 34] from rfl, lv2] at this
    exact this
  have H3 : Hid (∀ W : World, EnvL W → Calls Tryz.prog 8 #[.string ⟨#[32, 49, 46, 50, 46, 51]⟩] W fun e w' => ∃ v, e = .returned (.tuple #[v, .int .i64 1, .int .i64 5]) ∧ RowT W.heap.size w' v [] ∧ Below W.heap.size W w') := fun W hW => by
    have := scan_any ⟨#[32, 49, 46, 50, 46, 51]⟩ W hW (by unfold maxLen; decide)
    rw [show ((⟨#[32, 49, 46, 50, 46, 51]⟩ : ByteArray).data.toList) = [32, 49, 46, 50, 46, 51] from rfl, lv3] at this
    exact this
  have H4 : Hid (∀ W : World, EnvL W → Calls Tryz.prog 8 #[.string ⟨#[49, 43, 36, 65, 40, 49, 41]⟩] W fun e w' => ∃ v, e = .returned (.tuple #[v, .int .i64 2, .int .i64 5]) ∧ RowT W.heap.size w' v [] ∧ Below W.heap.size W w') := fun W hW => by
    have := scan_any ⟨#[49, 43, 36, 65, 40, 49, 41]⟩ W hW (by unfold maxLen; decide)
    rw [show ((⟨#[49, 43, 36, 65, 40, 49, 41]⟩ : ByteArray).data.toList) = [49, 43, 36, 65, 40, 49, 41] from rfl, lv4] at this
    exact this
  have HE := hide he
  clear he
  go_enter Tryz.func11, Tryz.ntmps11
  go_wp2_with fail
  refine (H1.out _ HE.out).mono ?_
  rintro e w1 ⟨v1, rfl, hr1, hb1⟩
  obtain ⟨gl, capl, rfl, _, _, _, _⟩ := row_open hr1
  have HR1 := hide hr1
  clear hr1
  go_wp2_with fail
  refine (H2.out _ (HE.out.below hb1)).mono ?_
  rintro e w2 ⟨v2, rfl, hr2, hb2⟩
  obtain ⟨gm, capm, rfl, _, _, _, _⟩ := row_open hr2
  have HR2 := hide hr2
  clear hr2
  have hB2 : Below w.heap.size w w2 := hb1.trans (hb2.mono hb1.size)
  go_wp2_with fail
  refine (H3.out _ (HE.out.below hB2)).mono ?_
  rintro e w3 ⟨v3, rfl, _, hb3⟩
  have hB3 : Below w.heap.size w w3 := hB2.trans (hb3.mono hB2.size)
  go_wp2_with fail
  refine (H4.out _ (HE.out.below hB3)).mono ?_
  rintro e w4 ⟨v4, rfl, _, hb4⟩
  have hB4 : Below w.heap.size w w4 := hB3.trans (hb4.mono hB3.size)
  have s1 := HR1.out.below (hb2.trans ((hb3.trans (hb4.mono hb3.size)).mono hb2.size))
  have s2 := HR2.out.below (hb3.trans (hb4.mono hb3.size))
  have l0_0 : w4.cell? ⟨gl, 0, none⟩ = some (.int .i64 3) := (row_cell s1 0 _ rfl 0 (by omega) 0 rfl).trans rfl
  have l0_1 : w4.cell? ⟨gl, 1, none⟩ = some (.int .i64 0) := (row_cell s1 0 _ rfl 1 (by omega) 1 rfl).trans rfl
  have l0_2 : w4.cell? ⟨gl, 2, none⟩ = some (.int .i64 0) := (row_cell s1 0 _ rfl 2 (by omega) 2 rfl).trans rfl
  have l0_3 : w4.cell? ⟨gl, 3, none⟩ = some (.string ⟨#[]⟩) := (row_cell s1 0 _ rfl 3 (by omega) 3 rfl).trans rfl
  have l0_4 : w4.cell? ⟨gl, 4, none⟩ = some (.bool false) := (row_cell s1 0 _ rfl 4 (by omega) 4 rfl).trans rfl
  have l0_5 : w4.cell? ⟨gl, 5, none⟩ = some (.int .i64 0) := (row_cell s1 0 _ rfl 5 (by omega) 5 rfl).trans rfl
  have l0_6 : w4.cell? ⟨gl, 6, none⟩ = some (.int .i64 0) := (row_cell s1 0 _ rfl 6 (by omega) 6 rfl).trans rfl
  have l0_7 : w4.cell? ⟨gl, 7, none⟩ = some (.int .i64 0) := (row_cell s1 0 _ rfl 7 (by omega) 7 rfl).trans rfl
  have l0_8 : w4.cell? ⟨gl, 8, none⟩ = some (.bool false) := (row_cell s1 0 _ rfl 8 (by omega) 8 rfl).trans rfl
  have l0_9 : w4.cell? ⟨gl, 9, none⟩ = some (.bool false) := (row_cell s1 0 _ rfl 9 (by omega) 9 rfl).trans rfl
  have l0_10 : w4.cell? ⟨gl, 10, none⟩ = some (.string ⟨#[83, 85, 77]⟩) := (row_cell s1 0 _ rfl 10 (by omega) 10 rfl).trans rfl
  have l0_11 : w4.cell? ⟨gl, 11, none⟩ = some (.int .i64 0) := (row_cell s1 0 _ rfl 11 (by omega) 11 rfl).trans rfl
  have l4_0 : w4.cell? ⟨gl, 48, none⟩ = some (.int .i64 2) := (row_cell s1 4 _ rfl 0 (by omega) 48 rfl).trans rfl
  have l4_1 : w4.cell? ⟨gl, 49, none⟩ = some (.int .i64 0) := (row_cell s1 4 _ rfl 1 (by omega) 49 rfl).trans rfl
  have l4_2 : w4.cell? ⟨gl, 50, none⟩ = some (.int .i64 0) := (row_cell s1 4 _ rfl 2 (by omega) 50 rfl).trans rfl
  have l4_3 : w4.cell? ⟨gl, 51, none⟩ = some (.string ⟨#[]⟩) := (row_cell s1 4 _ rfl 3 (by omega) 51 rfl).trans rfl
  have l4_4 : w4.cell? ⟨gl, 52, none⟩ = some (.bool false) := (row_cell s1 4 _ rfl 4 (by omega) 52 rfl).trans rfl
  have l4_5 : w4.cell? ⟨gl, 53, none⟩ = some (.int .i64 0) := (row_cell s1 4 _ rfl 5 (by omega) 53 rfl).trans rfl
  have l4_6 : w4.cell? ⟨gl, 54, none⟩ = some (.int .i64 2) := (row_cell s1 4 _ rfl 6 (by omega) 54 rfl).trans rfl
  have l4_7 : w4.cell? ⟨gl, 55, none⟩ = some (.int .i64 2) := (row_cell s1 4 _ rfl 7 (by omega) 55 rfl).trans rfl
  have l4_8 : w4.cell? ⟨gl, 56, none⟩ = some (.bool true) := (row_cell s1 4 _ rfl 8 (by omega) 56 rfl).trans rfl
  have l4_9 : w4.cell? ⟨gl, 57, none⟩ = some (.bool true) := (row_cell s1 4 _ rfl 9 (by omega) 57 rfl).trans rfl
  have l4_10 : w4.cell? ⟨gl, 58, none⟩ = some (.string ⟨#[]⟩) := (row_cell s1 4 _ rfl 10 (by omega) 58 rfl).trans rfl
  have l4_11 : w4.cell? ⟨gl, 59, none⟩ = some (.int .i64 7) := (row_cell s1 4 _ rfl 11 (by omega) 59 rfl).trans rfl
  have l8_0 : w4.cell? ⟨gl, 96, none⟩ = some (.int .i64 0) := (row_cell s1 8 _ rfl 0 (by omega) 96 rfl).trans rfl
  have l8_1 : w4.cell? ⟨gl, 97, none⟩ = some (.int .i64 0) := (row_cell s1 8 _ rfl 1 (by omega) 97 rfl).trans rfl
  have l8_2 : w4.cell? ⟨gl, 98, none⟩ = some (.int .i64 0) := (row_cell s1 8 _ rfl 2 (by omega) 98 rfl).trans rfl
  have l8_3 : w4.cell? ⟨gl, 99, none⟩ = some (.string ⟨#[]⟩) := (row_cell s1 8 _ rfl 3 (by omega) 99 rfl).trans rfl
  have l8_4 : w4.cell? ⟨gl, 100, none⟩ = some (.bool false) := (row_cell s1 8 _ rfl 4 (by omega) 100 rfl).trans rfl
  have l8_5 : w4.cell? ⟨gl, 101, none⟩ = some (.int .i64 0) := (row_cell s1 8 _ rfl 5 (by omega) 101 rfl).trans rfl
  have l8_6 : w4.cell? ⟨gl, 102, none⟩ = some (.int .i64 0) := (row_cell s1 8 _ rfl 6 (by omega) 102 rfl).trans rfl
  have l8_7 : w4.cell? ⟨gl, 103, none⟩ = some (.int .i64 0) := (row_cell s1 8 _ rfl 7 (by omega) 103 rfl).trans rfl
  have l8_8 : w4.cell? ⟨gl, 104, none⟩ = some (.bool false) := (row_cell s1 8 _ rfl 8 (by omega) 104 rfl).trans rfl
  have l8_9 : w4.cell? ⟨gl, 105, none⟩ = some (.bool false) := (row_cell s1 8 _ rfl 9 (by omega) 105 rfl).trans rfl
  have l8_10 : w4.cell? ⟨gl, 106, none⟩ = some (.string ⟨#[]⟩) := (row_cell s1 8 _ rfl 10 (by omega) 106 rfl).trans rfl
  have l8_11 : w4.cell? ⟨gl, 107, none⟩ = some (.int .i64 14) := (row_cell s1 8 _ rfl 11 (by omega) 107 rfl).trans rfl
  have m0_0 : w4.cell? ⟨gm, 0, none⟩ = some (.int .i64 1) := (row_cell s2 0 _ rfl 0 (by omega) 0 rfl).trans rfl
  have m0_1 : w4.cell? ⟨gm, 1, none⟩ = some (.int .i64 2) := (row_cell s2 0 _ rfl 1 (by omega) 1 rfl).trans rfl
  have m0_2 : w4.cell? ⟨gm, 2, none⟩ = some (.int .i64 0) := (row_cell s2 0 _ rfl 2 (by omega) 2 rfl).trans rfl
  have m0_3 : w4.cell? ⟨gm, 3, none⟩ = some (.string ⟨#[97, 34, 98]⟩) := (row_cell s2 0 _ rfl 3 (by omega) 3 rfl).trans rfl
  have m0_4 : w4.cell? ⟨gm, 4, none⟩ = some (.bool false) := (row_cell s2 0 _ rfl 4 (by omega) 4 rfl).trans rfl
  have m0_5 : w4.cell? ⟨gm, 5, none⟩ = some (.int .i64 0) := (row_cell s2 0 _ rfl 5 (by omega) 5 rfl).trans rfl
  have m0_6 : w4.cell? ⟨gm, 6, none⟩ = some (.int .i64 0) := (row_cell s2 0 _ rfl 6 (by omega) 6 rfl).trans rfl
  have m0_7 : w4.cell? ⟨gm, 7, none⟩ = some (.int .i64 0) := (row_cell s2 0 _ rfl 7 (by omega) 7 rfl).trans rfl
  have m0_8 : w4.cell? ⟨gm, 8, none⟩ = some (.bool false) := (row_cell s2 0 _ rfl 8 (by omega) 8 rfl).trans rfl
  have m0_9 : w4.cell? ⟨gm, 9, none⟩ = some (.bool false) := (row_cell s2 0 _ rfl 9 (by omega) 9 rfl).trans rfl
  have m0_10 : w4.cell? ⟨gm, 10, none⟩ = some (.string ⟨#[]⟩) := (row_cell s2 0 _ rfl 10 (by omega) 10 rfl).trans rfl
  have m0_11 : w4.cell? ⟨gm, 11, none⟩ = some (.int .i64 0) := (row_cell s2 0 _ rfl 11 (by omega) 11 rfl).trans rfl
  clear s1 s2
  go_wp2
  go_ret
  exact ⟨rfl, hB4⟩
end Go.Proofs.YtmmdflkjlhckhaaGreatDoor
