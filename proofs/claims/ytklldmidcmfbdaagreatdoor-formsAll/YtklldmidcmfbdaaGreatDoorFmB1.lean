/-
  The answer's table, as plain data, and its contract.
-/
import Derived.Test.YtklldmidcmfbdaaGreatDoorFmW2
import Derived.Test.YtklldmidcmfbdaaGreatDoorFmY
import Derived.Test.YtklldmidcmfbdaaGreatDoorFmSm
import Derived.Deep.WholeRow
import Derived.Deep.MidRow
import Derived.Great.BuildSlice
namespace Go.Proofs.YtklldmidcmfbdaaGreatDoor
open Go.RowKit Go.Shelf

/-- The last line of the answer's table has four names. -/
def r19 : Gr := ⟨⟨#[82, 79, 87, 83, 32, 67, 79, 76, 85, 77, 78, 83, 32, 82, 79, 87, 32, 67, 79, 76, 85, 77, 78]⟩, 1, 1, ⟨#[82]⟩⟩
def refG : List Gr := [g0, g1, g2, g3, g4, g5, g6, g7, g8, g9, g10, g11, g12, g13, g14, g15, g16, g17, g18, r19]
def refC : List Value := refG.flatMap grC
def rfnsOf (g : Gr) : List Fu := (wordsB g.names).map (fnOf g)
/-- Both tables tell the same functions, in the same order. -/
theorem ref_fns : refG.flatMap rfnsOf = fnsL := by kernel_rfl
theorem ref_small : ∀ g ∈ refG, g.names.size ≤ 1000 ∧ g.wants.size ≤ 4 := by
  have h : (refG.all fun g => decide (g.names.size ≤ 1000) && decide (g.wants.size ≤ 4)) = true := by kernel_rfl
  intro g hg
  have := List.all_eq_true.1 h g hg
  simpa using this
def qsG : Array (Nat × Value) := (refG.zipIdx.map fun x => (x.2, Value.agg (grC x.1).toArray)).toArray
theorem rbuild (w : World) : (Instr.buildSlice 46 20 qsG).run Tryz.prog w = .ok (.slice (some ⟨w.heap.size, 0, none⟩) 20 20) (w.alloc (.cells refC.toArray 51)) := by
  obtain ⟨ie, hie, hz, hs⟩ : ∃ ie, Tryz.prog.info? 51 = some ie ∧ ie.zero = some (.agg #[.string ⟨#[]⟩, .int .i64 0, .int .i64 0, .string ⟨#[]⟩]) ∧ ie.size = 4 := by
    have : (Tryz.prog.info? 51).map (fun i => (i.zero, i.size)) = some (some (.agg #[.string ⟨#[]⟩, .int .i64 0, .int .i64 0, .string ⟨#[]⟩]), 4) := by kernel_rfl
    cases hq : Tryz.prog.info? 51 with
    | none => simp [hq] at this
    | some i => simp [hq] at this; exact ⟨i, rfl, this.1, this.2⟩
  refine run_buildSlice w 46 51 20 _ _ ie _ Tryz.underlying46 hie hz (by rw [hs]; decide) (by rw [hs]; decide) ?_
  rw [hs]
  kernel_rfl
set_option maxRecDepth 100000 in
set_option maxHeartbeats 4000000 in
theorem rtable_any (w : World) : Calls Tryz.prog 14 #[] w fun e w' => e = .returned (.slice (some ⟨w.heap.size, 0, none⟩) 20 20) ∧ w' = w.alloc (.cells refC.toArray 51) := by
  go_enter Tryz.func14, Tryz.ntmps14
  go_wp2_with (with_reducible refine wpl_any ?_; refine wpl_buildS rfl 46 20 _ rfl (qs := qsG) (by kernel_rfl) (rbuild _) ?_)
  go_ret
  exact ⟨rfl, rfl⟩
theorem ref_at {i : Nat} {g : Gr} (h : refG[i]? = some g) (j : Nat) (hj : j < 4) : refC[i * 4 + j]? = (grC g)[j]? := by
  unfold refC
  obtain ⟨hlt, hg⟩ := List.getElem?_eq_some_iff.1 h
  rw [← List.getElem?_drop, drop_flat, List.drop_eq_getElem_cons hlt, hg, List.flatMap_cons, List.getElem?_append_left (by show j < 4; exact hj)]
theorem ref_cell {W : World} {b : Nat} {t : TypeId} (hW : W.heap[b]? = some (.cells refC.toArray t (0, 0))) {i : Nat} {g : Gr} (h : refG[i]? = some g) : W.cell? ⟨b, i * 4, none⟩ = some (.string g.names) ∧ W.cell? ⟨b, i * 4 + 1, none⟩ = some (.int .i64 g.least) ∧ W.cell? ⟨b, i * 4 + 2, none⟩ = some (.int .i64 g.most) ∧ W.cell? ⟨b, i * 4 + 3, none⟩ = some (.string g.wants) := by
  have hc : ∀ j, j < 4 → W.cell? ⟨b, i * 4 + j, none⟩ = (grC g)[j]? := fun j hj => by
    have := ref_at h j hj
    simp only [World.cell?, hW]
    simpa using this
  exact ⟨hc 0 (by omega), hc 1 (by omega), hc 2 (by omega), hc 3 (by omega)⟩
/-- Texts in a slice, in all later worlds. -/
def Sts (w : World) (v : Value) (l : List ByteArray) : Prop := ∃ p cap, v = .slice p l.length cap ∧ (l = [] ∨ ∃ g, p = some ⟨g, 0, none⟩ ∧ ∀ W, Below w.heap.size w W → ∀ (i : Nat) x, l[i]? = some x → W.cell? ⟨g, i, none⟩ = some (.string x))
theorem Sts.of {w : World} {base : Nat} {v : Value} {l : List ByteArray} (h : w.ownsRow base 9 1 v l.length (l.map Value.string)) : Sts w v l := by
  cases hl : l with
  | nil =>
    subst hl
    rcases h.2 with ⟨rfl, _⟩ | ⟨g, cap, cur, rfl, _⟩
    · exact ⟨none, 0, rfl, .inl rfl⟩
    · exact ⟨_, cap, rfl, .inl rfl⟩
  | cons x r =>
    subst hl
    obtain ⟨g, cap, rfl⟩ := ownsRow_succ h
    have hg := (h.lt g rfl).2
    refine ⟨_, cap, rfl, .inr ⟨g, rfl, fun W hW i y hy => ?_⟩⟩
    have hil : i < r.length + 1 := by simpa using (List.getElem?_eq_some_iff.1 hy).1
    refine (hW.cell (p := ⟨g, i, none⟩) hg).trans ((h.cellAt i (by simpa using hil)).trans ?_)
    rw [List.getElem?_map, hy]
    rfl
/-- Where a function stands in the tables. -/
theorem ref_hit {s : ByteArray} {i k : Nat} {g : Gr} (h : refG[i]? = some g) (hk : (wordsB g.names)[k]? = some s) (h1 : ∀ f ∈ (refG.take i).flatMap rfnsOf, f.name ≠ s) (h2 : ∀ x ∈ (wordsB g.names).take k, x ≠ s) : findF s = some (fnOf g s) := by
  refine find_hit (q := (refG.take i).flatMap rfnsOf ++ ((wordsB g.names).take k).map (fnOf g)) ?_ ?_ rfl
  · obtain ⟨hi, hg⟩ := List.getElem?_eq_some_iff.1 h
    obtain ⟨hj, hs⟩ := List.getElem?_eq_some_iff.1 hk
    refine ⟨((wordsB g.names).drop (k + 1)).map (fnOf g) ++ (refG.drop (i + 1)).flatMap rfnsOf, ?_⟩
    have e1 : refG = refG.take i ++ g :: refG.drop (i + 1) := by rw [← hg, ← List.drop_eq_getElem_cons hi, List.take_append_drop]
    have e2 : wordsB g.names = (wordsB g.names).take k ++ s :: (wordsB g.names).drop (k + 1) := by rw [← hs, ← List.drop_eq_getElem_cons hj, List.take_append_drop]
    rw [← ref_fns]
    conv => rhs; rw [e1, List.flatMap_append, List.flatMap_cons]
    have e3 : rfnsOf g = ((wordsB g.names).take k).map (fnOf g) ++ fnOf g s :: ((wordsB g.names).drop (k + 1)).map (fnOf g) := by
      unfold rfnsOf
      conv => lhs; rw [e2]
      rw [List.map_append, List.map_cons]
    rw [e3]
    simp
  · intro f hf
    rcases List.mem_append.1 hf with hf | hf
    · exact h1 f hf
    · obtain ⟨x, hx, rfl⟩ := List.mem_map.1 hf
      exact h2 x hx
theorem ref_next {s : ByteArray} {i : Nat} {g : Gr} (h : refG[i]? = some g) (h1 : ∀ f ∈ (refG.take i).flatMap rfnsOf, f.name ≠ s) (h2 : ∀ x ∈ (wordsB g.names).take (wordsB g.names).length, x ≠ s) : ∀ f ∈ (refG.take (i + 1)).flatMap rfnsOf, f.name ≠ s := by
  intro f hf
  rw [List.take_add_one, h, List.flatMap_append] at hf
  rcases List.mem_append.1 hf with hf | hf
  · exact h1 f hf
  · simp only [Option.toList_some, List.flatMap_cons, List.flatMap_nil, List.append_nil, rfnsOf] at hf
    obtain ⟨x, hx, rfl⟩ := List.mem_map.1 hf
    rw [List.take_length] at h2
    exact h2 x hx
theorem ref_miss {s : ByteArray} (h1 : ∀ f ∈ (refG.take 20).flatMap rfnsOf, f.name ≠ s) : findF s = none := by
  refine find_miss fun f hf => h1 f ?_
  rw [← ref_fns] at hf
  exact hf
theorem want_is {ws : ByteArray} {j : Nat} (h : j < ws.size) : wantN ws[j] = wantAt ws j := by
  unfold wantAt
  rw [Nat.min_eq_left (by omega), List.getD_eq_getElem?_getD, List.getElem?_eq_getElem (by simpa using h), Option.getD_some, ByteArray.getElem_eq_getElem_data, ← Array.getElem_toList]
end Go.Proofs.YtklldmidcmfbdaaGreatDoor
