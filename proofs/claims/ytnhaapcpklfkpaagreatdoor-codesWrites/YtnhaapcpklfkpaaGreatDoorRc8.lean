/-
  How the answer's Read goes on: behind a piece, behind a parting.
-/
import Derived.Test.YtnhaapcpklfkpaaGreatDoorRc7
namespace Go.Proofs.YtnhaapcpklfkpaaGreatDoor
open Go.RowKit
set_option linter.unusedSimpArgs false

/-- What Read has in hand at a place. -/
structure IH (n₀ : Nat) (w : World) (S : List UInt8) (pre : List Pc) (at' : Nat) (g cap : Nat) (G : List (Value × List Pc)) (W : World) : Prop where
  rr : ∃ C, RR n₀ W g cap G C
  secs : G.map Prod.snd = (secsR pre).map (·.map kkP)
  ok : pre.all okP = true
  rd : Rd S pre (S.drop at')
  le : at' ≤ S.length
  below : Below n₀ w W
theorem first_part {c : UInt8} {r : List UInt8} {p : Pc} {k : Nat} (h : firstR (c :: r) = some (p, k)) (hc : c ≠ 59) : p.k ≠ 5 := by
  unfold firstR at h
  simp only at h
  unfold quotedR escapedR partR at h
  repeat' split at h
  all_goals first | (cases h; simp; done) | (cases h; done) | (exact absurd (by assumption) hc)
theorem IH.keep {n₀ : Nat} {w : World} {S : List UInt8} {pre : List Pc} {at' g cap : Nat} {G : List (Value × List Pc)} {W W' : World} (h : IH n₀ w S pre at' g cap G W) (hn : n₀ ≤ w.heap.size) (k : Below W.heap.size W W') : IH n₀ w S pre at' g cap G W' := by
  obtain ⟨C, hr⟩ := h.rr
  exact ⟨⟨C, hr.keep (KC.of_below k)⟩, h.secs, h.ok, h.rd, h.le, h.below.trans (k.mono (Nat.le_trans hn h.below.size))⟩
theorem secs_last {G0 : List (Value × List Pc)} {x : Value × List Pc} {pre : List Pc} (h : (G0 ++ [x]).map Prod.snd = (secsR pre).map (·.map kkP)) : G0.map Prod.snd = (secsF pre).1.map (·.map kkP) ∧ x.2 = (secsF pre).2.map kkP := by
  have e : secsR pre = (secsF pre).1 ++ [(secsF pre).2] := rfl
  rw [e, List.map_append, List.map_append] at h
  have := List.append_inj' h rfl
  exact ⟨this.1, by simpa using this.2⟩
theorem IH.taken {n₀ : Nat} {w : World} {S : List UInt8} {pre : List Pc} {at' g cap : Nat} {G0 : List (Value × List Pc)} {u u' : Value} {ps : List Pc} {W WA w4 : World} {pk k : Nat} {pt : List UInt8}
    (h : IH n₀ w S pre at' g cap (G0 ++ [(u, ps)]) W) (hn : n₀ ≤ w.heap.size) (hf : firstR (S.drop at') = some (⟨pk, pt⟩, k)) (hok : ¬ (pk = 1 ∧ placeB pt = false)) (h5 : pk ≠ 5)
    (hA : Below W.heap.size W WA) (hg : WA.grownBy w4 u.ownBlock) (ho : w4.ownsRow n₀ 79 2 u' (ps.length + 1) (ps.flatMap pcC ++ [.int .i64 (kk pk), .string ⟨pt.toArray⟩])) (hw : u'.ownBlock = u.ownBlock ∨ u'.ownBlock = some WA.heap.size) :
    IH n₀ w S (pre ++ [⟨pk, pt⟩]) (at' + k) g cap (G0 ++ [(u', ps ++ [⟨kk pk, pt⟩])]) (w4.setCell ⟨g, G0.length, none⟩ u') := by
  obtain ⟨C, hr⟩ := h.rr
  obtain ⟨C', hr'⟩ := hr.taken (p := ⟨kk pk, pt⟩) hA hg ho hw
  obtain ⟨e1, e2⟩ := secs_last h.secs
  have hsz := h.below.size
  have hasz := hA.size
  obtain ⟨k1, k2, _⟩ := first_len hf
  rw [List.length_drop] at k2
  refine ⟨⟨C', hr'⟩, ?_, ?_, ?_, by have := h.le; omega, ?_⟩
  · rw [secsR_piece (p := ⟨pk, pt⟩) h5]
    simp only at e2
    simp [e1, e2, kkP]
  · rw [List.all_append, h.ok]
    have : okP ⟨pk, pt⟩ = true := by
      unfold okP
      simp only
      by_cases q : pk = 1
      · have : placeB pt = true := by
          cases hp : placeB pt
          · exact absurd ⟨q, hp⟩ hok
          · rfl
        simp [this]
      · simp [q]
    simp [this]
  · have := h.rd.more hf
    rwa [List.drop_drop] at this
  · exact ((h.below.trans (hA.mono (by omega))).grown hg (by omega) (fun b e => ((hr.rows _ _ (snoc_last G0 (u, ps))).lt b e).1)).setCell (p := ⟨g, G0.length, none⟩) hr.lt _
theorem IH.opened {n₀ : Nat} {w : World} {S : List UInt8} {pre : List Pc} {at' g cap : Nat} {G : List (Value × List Pc)} {v' : Value} {W WA w4 : World}
    (h : IH n₀ w S pre at' g cap G W) (hn : n₀ ≤ w.heap.size) (hl : at' < S.length) (h59 : S[at'] = 59) (hA : Below W.heap.size W WA) (hg : WA.grownBy w4 (some g)) (ho : w4.ownsRow n₀ 45 1 v' (G.length + 1) (G.map Prod.fst ++ [.slice none 0 0])) :
    ∃ g' cap', v' = .slice (some ⟨g', 0, none⟩) (G ++ [((.slice none 0 0 : Value), ([] : List Pc))]).length cap' ∧ IH n₀ w S (pre ++ [⟨5, [59]⟩]) (at' + 1) g' cap' (G ++ [(.slice none 0 0, [])]) w4 := by
  obtain ⟨C, hr⟩ := h.rr
  obtain ⟨g', cap', C', e, hr'⟩ := hr.opened hA hg ho
  have hsz := h.below.size
  have hasz := hA.size
  refine ⟨g', cap', by rw [e]; simp, ⟨C', hr'⟩, ?_, ?_, ?_, by omega, ?_⟩
  · rw [secsR_part (p := ⟨5, [59]⟩) rfl, List.map_append, List.map_append, h.secs]; rfl
  · rw [List.all_append, h.ok]; rfl
  · have hf : firstR (S.drop at') = some (⟨5, [59]⟩, 1) := by
      rw [List.drop_eq_getElem_cons hl, h59]; rfl
    have := h.rd.more hf
    rwa [List.drop_drop] at this
  · exact (h.below.trans (hA.mono (by omega))).grown hg (by omega) (fun b e => by cases e; exact hr.lt)
end Go.Proofs.YtnhaapcpklfkpaaGreatDoor
