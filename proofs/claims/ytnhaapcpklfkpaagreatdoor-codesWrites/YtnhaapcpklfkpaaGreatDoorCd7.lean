/-
  The contract of codes' take: a piece is put behind the others of a section.
-/
import Derived.Test.YtnhaapcpklfkpaaGreatDoorCd3
import Derived.Test.YtnhaapcpklfkpaaGreatDoorCd6b
import Derived.Test.YtnhaapcpklfkpaaGreatDoorRegion
import Derived.Maps.AppendAt
import Derived.Deep.RegionWith
namespace Go.Proofs.YtnhaapcpklfkpaaGreatDoor
open Go.RowKit
set_option linter.unusedSimpArgs false

theorem readyC {ops : Array Oper} {Q : Exit → Act → World → Prop} {md : Region.Mode} {S : World → Prop} {fuel : Nat} {listed : Array Bool} {a : Act} {w : World} {i : Nat} {o : Oper} {rs : List Nat} (ho : ops[i]? = some o) (hg : o.guard = none)
    (h : ∀ K' : Act → World → Prop, Shut (∀ a w, S w → (S w → wpAnyH Tryz.prog md ops Q S fuel (listed.setIfInBounds i true) a w) → K' a w) → Oper.wp Tryz.prog o a w K' Q)
    (hs : AllReadyH Tryz.prog md ops Q S fuel listed a w rs) : AllReadyH Tryz.prog md ops Q S fuel listed a w (i :: rs) :=
  AllReadyH.cons ho (fun K' hK => by rw [if_pos (by simp [Region.wanted, hg])]; exact h K' hK) hs
theorem wp_append_own {o : Oper} {a : Act} {w : World} {K : Act → World → Prop} {Q : Exit → Act → World → Prop} (s x : Operand) (t : TypeId) (ho : o.op = .call { callee := .builtin .append, args := #[s, x], argTypes := #[t, t] }) {v v' : Value} (hs : a.eval s = v) (hx : a.eval x = v')
    (hr : ∃ v2 w2, (Builtin.append_ #[t, t] o.type #[v, v']).run Tryz.prog w = .ok v2 w2 ∧ K (a.put o.dst v2) w2) : o.wp Tryz.prog a w K Q := by
  obtain ⟨v2, w2, hr, hk⟩ := hr
  unfold Oper.wp execOp
  simp only [ho, resolve, invoke, builtin, Sem.run_bind, Sem.run_pure, Result.andThen_ok, List.map_toArray, List.map_cons, List.map_nil, hs, hx, hr]
  exact hk
theorem wp_runC {o : Oper} {a : Act} {w w' : World} {K : Act → World → Prop} {Q : Exit → Act → World → Prop} {v : Value} (he : (execOp a.eval o).run Tryz.prog w = .ok (.value v) w') (hk : K (a.put o.dst v) w') : o.wp Tryz.prog a w K Q := by
  unfold Oper.wp
  rw [he]
  exact hk
theorem cells_newC (W : World) (arr : Array Value) (t : TypeId) (j : Nat) (u : Value) (h : arr.toList[j]? = some u) : (W.alloc (.cells arr t)).cell? ((⟨W.heap.size, 0, none⟩ : Addr).add j) = some u := by
  have := World.alloc_heap_new W (.cells arr t)
  rw [show (⟨W.heap.size, 0, none⟩ : Addr).add j = ⟨W.heap.size, j, none⟩ by unfold Addr.add; split <;> simp_all]
  simp only [World.cell?, this]
  simpa using h
theorem below_drewC (w : World) : Below w.heap.size w w.drew := (Below.refl _ w).drew
def pcC (p : Pc) : List Value := [.int .i64 p.k, .string ⟨p.t.toArray⟩]
theorem info_piece : (Tryz.prog.info? 93).map (fun i => (i.zero, i.size, i.bytes)) = some (some (.agg #[.int .i64 0, .string ⟨#[]⟩]), 2, 24) := by kernel_rfl
theorem info_partsC {P : Program} {t : TypeId} {z : Value} {s b : Nat} (h : (P.info? t).map (fun i => (i.zero, i.size, i.bytes)) = some (some z, s, b)) : ∃ i, P.info? t = some i ∧ i.zero = some z ∧ i.size = s ∧ i.bytes = b := by
  cases hi : P.info? t with
  | none => rw [hi] at h; cases h
  | some i => rw [hi] at h; simp only [Option.map_some, Option.some.injEq, Prod.mk.injEq] at h; exact ⟨i, rfl, h⟩
/-- A block of cells stays one, of as many. -/
def SameSh (w W : World) (g : Nat) : Prop := ∀ C t f, w.heap[g]? = some (.cells C t f) → ∃ C' : Array Value, C'.size = C.size ∧ W.heap[g]? = some (.cells C' t f)
theorem SameSh.refl (w : World) (g : Nat) : SameSh w w g := fun C _ _ h => ⟨C, rfl, h⟩
theorem SameSh.trans {w W W' : World} {g : Nat} (h : SameSh w W g) (h' : SameSh W W' g) : SameSh w W' g := fun C t f e => by
  obtain ⟨C1, e1, h1⟩ := h C t f e
  obtain ⟨C2, e2, h2⟩ := h' C1 t f h1
  exact ⟨C2, e2.trans e1, h2⟩
theorem SameSh.set (W : World) (g : Nat) (a : Addr) (v : Value) : SameSh W (W.setCell a v) g := by
  intro C t f e
  by_cases hg : a.block = g
  · subst hg
    refine ⟨if a.spot.isSome then C else C.setIfInBounds a.off v, by split <;> simp, ?_⟩
    simp [World.setCell, Array.getElem?_modify, e]
  · exact ⟨C, rfl, by rw [← e]; simp [World.setCell, Array.getElem?_modify, hg]⟩
theorem SameSh.same {w W W' : World} {g : Nat} (h : SameSh w W g) (e : W'.heap[g]? = W.heap[g]?) : SameSh w W' g := fun C t f hh => by rw [e]; exact h C t f hh
/-- Cells of a row's block that are known, one behind the other; the rest of the block is as it was, and what lay elsewhere. -/
structure Rw (w W : World) (g off : Nat) (X : List Value) : Prop where
  grown : w.grownBy W (some g)
  lt : g < w.heap.size
  cells : ∀ j, j < X.length → W.cell? ⟨g, off + j, none⟩ = X[j]?
  out : ∀ o, (o < off ∨ off + X.length ≤ o) → W.cell? ⟨g, o, none⟩ = w.cell? ⟨g, o, none⟩
  shape : SameSh w W g
theorem Rw.first {w : World} {g off : Nat} {X : List Value} (hg : g < w.heap.size) (h : ∀ j, j < X.length → w.cell? ⟨g, off + j, none⟩ = X[j]?) : Rw w w g off X := ⟨grown_refl w g, hg, h, fun _ _ => rfl, SameSh.refl w g⟩
theorem Rw.below {w W W' : World} {g off : Nat} {X : List Value} (h : Rw w W g off X) (k : Below W.heap.size W W') : Rw w W' g off X := by
  have hs : w.heap.size ≤ W.heap.size := h.grown.size
  have hg : g < W.heap.size := Nat.lt_of_lt_of_le h.lt hs
  exact ⟨grown_below h.grown k, h.lt, fun j hj => (k.cell (p := ⟨g, off + j, none⟩) hg).trans (h.cells j hj), fun o ho => (k.cell (p := ⟨g, o, none⟩) hg).trans (h.out o ho), h.shape.same (k.block g hg)⟩
theorem Rw.set {w W : World} {g off : Nat} {X : List Value} (h : Rw w W g off X) (i : Nat) (v : Value) (hi : i < X.length) : Rw w (W.setCell ⟨g, off + i, none⟩ v) g off (X.set i v) := by
  refine ⟨grown_cells g [v] (off + i) w W h.grown, h.lt, fun j hj => ?_, fun o ho => ?_, h.shape.trans (SameSh.set W g _ v)⟩
  · rw [List.length_set] at hj
    by_cases e : j = i
    · subst e
      have := h.cells j hj
      rw [List.getElem?_eq_getElem hj] at this
      rw [World.cell?_setCell_same _ _ _ this, List.getElem?_set_self hj]
    · rw [World.cell?_setCell_other _ _ _ _ (fun q => e (by have := congrArg Addr.off q; simp at this; omega)), List.getElem?_set_ne (by omega)]
      exact h.cells j hj
  · rw [List.length_set] at ho
    rw [World.cell?_setCell_other _ _ _ _ (fun q => by have := congrArg Addr.off q; simp at this; omega)]
    exact h.out o ho
theorem cnt_snoc (ps : List Pc) (p : Pc) (k : Nat) : cntK (ps ++ [p]) k = cntK ps k + if p.k = k then 1 else 0 := by
  unfold cntK
  rw [List.filter_append, List.length_append]
  by_cases h : p.k = k <;> simp [h]
theorem plc_snoc (ps : List Pc) (p : Pc) : plcOf (ps ++ [p]) = if p.k = 1 then placeR p.t else plcOf ps := by
  unfold plcOf
  rw [List.foldl_append]; rfl
theorem secC_len (u : Value) (ps : List Pc) : (secC u ps).length = 12 := rfl
theorem sec_other {u : Value} {ps : List Pc} {p : Pc} (h1 : p.k ≠ 1) (h6 : p.k < 6) : (secC u ps).set (1 + p.k) (.int .i64 ((cntK ps p.k : Int) + 1)) = secC u (ps ++ [p]) := by
  have e : p.k = 0 ∨ p.k = 2 ∨ p.k = 3 ∨ p.k = 4 ∨ p.k = 5 := by omega
  rcases e with e | e | e | e | e <;> simp [secC, cn, cnt_snoc, plc_snoc, e]
theorem sec_number {u : Value} {ps : List Pc} {p : Pc} (h1 : p.k = 1) : ((((((secC u ps).set 7 (.bool (placeR p.t).comma)).set 8 (.bool (placeR p.t).point)).set 9 (.int .i64 (placeR p.t).noughts)).set 10 (.int .i64 (placeR p.t).fixed)).set 11 (.int .i64 (placeR p.t).free)).set 2 (.int .i64 ((cntK ps 1 : Int) + 1)) = secC u (ps ++ [p]) := by
  simp [secC, cn, cnt_snoc, plc_snoc, h1]
/-- What take leaves. -/
structure Taken (w W : World) (g off base : Nat) (u : Value) (ps : List Pc) (p : Pc) (u' : Value) : Prop where
  row : W.ownsRow base 93 2 u' (ps.length + 1) ((ps ++ [p]).flatMap pcC)
  sec : SecAt W g off u' (ps ++ [p])
  out : ∀ o, (o < off ∨ off + 12 ≤ o) → W.cell? ⟨g, o, none⟩ = w.cell? ⟨g, o, none⟩
  shape : SameSh w W g
  size : w.heap.size ≤ W.heap.size
  tape : W.tape = w.tape
  os : W.os = w.os
  output : W.output = w.output
  block : ∀ b, b < w.heap.size → b ≠ g → u.ownBlock ≠ some b → W.heap[b]? = w.heap[b]?
  own : u'.ownBlock = u.ownBlock ∨ ∃ b, u'.ownBlock = some b ∧ w.heap.size ≤ b
theorem frozen_sh {w W : World} {g : Nat} {C : Array Value} {t : TypeId} (h : SameSh w W g) (hC : w.heap[g]? = some (.cells C t (0, 0))) (o : Nat) : W.frozen? ⟨g, o, none⟩ = false := by
  obtain ⟨C', _, e⟩ := h C t _ hC
  simp [World.frozen?, e]
theorem ne_row {u : Value} {b : Nat} (h : u.ownBlock ≠ some b) : some b ≠ u.ownBlock := fun e => h e.symm
/-- Behind the append: the section's cell of its row, and what may be written. -/
theorem taken_pre {w W w4 : World} {g off : Nat} {u : Value} {ps : List Pc} {p : Pc} {C : Array Value} (hR : Rw w W g off (secC u (ps ++ [p]))) (hC : w.heap[g]? = some (.cells C 66 (0, 0))) (hug : u.ownBlock ≠ some g) (hg : W.grownBy w4 u.ownBlock) :
    w4.cell? ⟨g, off, none⟩ = some u ∧ ∀ o, w4.frozen? ⟨g, o, none⟩ = false := by
  have hgW : g < W.heap.size := Nat.lt_of_lt_of_le hR.lt hR.grown.size
  have e := hg.block g hgW (ne_row hug)
  refine ⟨(World.cell?_of_block (a := ⟨g, off, none⟩) e).trans (hR.cells 0 (by rw [secC_len]; omega)), fun o => (World.frozen?_of_block (a := ⟨g, o, none⟩) e).trans (frozen_sh hR.shape hC o)⟩
theorem flat_snoc (ps : List Pc) (p : Pc) : (ps ++ [p]).flatMap pcC = ps.flatMap pcC ++ pcC p := by simp [List.flatMap_append]
theorem taken_of {w W w4 : World} {g off base : Nat} {u v' : Value} {ps : List Pc} {p : Pc} (hR : Rw w W g off (secC u (ps ++ [p]))) (hug : u.ownBlock ≠ some g) (hg : W.grownBy w4 u.ownBlock)
    (ho : w4.ownsRow base 93 2 v' (ps.length + 1) (ps.flatMap pcC ++ pcC p)) (hw : v'.ownBlock = u.ownBlock ∨ v'.ownBlock = some W.heap.size) : Taken w (w4.setCell ⟨g, off, none⟩ v') g off base u ps p v' := by
  have hgW : g < W.heap.size := Nat.lt_of_lt_of_le hR.lt hR.grown.size
  have e := hg.block g hgW (ne_row hug)
  have hvg : v'.ownBlock ≠ some g := by
    rcases hw with q | q
    · rw [q]; exact hug
    · rw [q]; intro z; injection z; omega
  have hoff : ∀ j, (⟨g, off, none⟩ : Addr) = ⟨g, j, none⟩ → off = j := fun j q => by injection q
  refine ⟨?_, ⟨?_, fun j hj => ?_⟩, fun o h => ?_, (hR.shape.same e).trans (SameSh.set _ _ _ _), ?_, hg.tape.trans hR.grown.tape, hg.os.trans hR.grown.os, hg.output.trans hR.grown.output, fun b hb hbg hbu => ?_, ?_⟩
  · rw [flat_snoc]
    exact ho.kept (grown_cells g [v'] off w4 w4 (grown_refl w4 g)) (.inr hvg)
  · rw [World.size_setCell]; exact Nat.lt_of_lt_of_le hgW hg.size
  · have h4 : ∀ i, i < 12 → w4.cell? ⟨g, off + i, none⟩ = (secC u (ps ++ [p]))[i]? := fun i hi => (World.cell?_of_block (a := ⟨g, off + i, none⟩) e).trans (hR.cells i hi)
    match j, hj with
    | 0, _ => exact World.cell?_setCell_same _ _ _ (h4 0 (by omega))
    | j + 1, hj =>
      rw [World.cell?_setCell_other _ _ _ _ (fun q => by have := hoff _ q; omega)]
      exact h4 (j + 1) hj
  · rw [World.cell?_setCell_other _ _ _ _ (fun q => by have := hoff _ q; omega)]
    exact (World.cell?_of_block (a := ⟨g, o, none⟩) e).trans (hR.out o (by rw [secC_len]; exact h))
  · rw [World.size_setCell]; exact Nat.le_trans hR.grown.size hg.size
  · have hb4 : b < w4.heap.size := Nat.lt_of_lt_of_le hb (Nat.le_trans hR.grown.size hg.size)
    rw [show (w4.setCell ⟨g, off, none⟩ v').heap[b]? = w4.heap[b]? from (grown_cells g [v'] off w4 w4 (grown_refl w4 g)).block b hb4 (fun q => by injection q with q; exact hbg q), hg.block b (Nat.lt_of_lt_of_le hb hR.grown.size) (ne_row hbu)]
    exact hR.grown.block b hb (fun q => by injection q with q; exact hbg q)
  · rcases hw with q | q
    · exact .inl q
    · exact .inr ⟨_, q, hR.grown.size⟩
set_option maxRecDepth 100000 in
set_option maxHeartbeats 4000000 in
theorem take_other (g off base : Nat) (u : Value) (ps : List Pc) (p : Pc) (w : World) (C : Array Value) (hC : w.heap[g]? = some (.cells C 66 (0, 0))) (h : SecAt w g off u ps) (hr : w.ownsRow base 93 2 u ps.length (ps.flatMap pcC)) (hug : u.ownBlock ≠ some g)
    (hk : p.k ≠ 1) (hk6 : p.k < 6) (hn : ∀ k, cntK ps k ≤ 1000) (hl : ps.length ≤ 1000) (hbs : base ≤ w.heap.size) :
    Calls Tryz.prog 46 #[.pointer (some ⟨g, off, none⟩), .agg #[.int .i64 p.k, .string ⟨p.t.toArray⟩]] w fun e w' => e = .returned (.tuple #[]) ∧ ∃ u', Taken w w' g off base u ps p u' := by
  have hg := h.1
  have c0 : w.cell? ⟨g, off, none⟩ = some u := h.2 0 (by omega)
  have n0 := h.num p.k hk6
  have b0 := hn p.k
  have hf := frozen_sh (SameSh.refl w g) hC
  have hk1 : ((p.k : Int) == 1) = false := by rw [beq_eq_false_iff_ne]; omega
  have hk6' : (p.k : Int) < 6 := by omega
  obtain ⟨q1, q2, q3, rfl⟩ : ∃ q1 q2 q3, u = .slice q1 q2 q3 := by
    rcases hr.2 with ⟨e, _⟩ | ⟨b, c, _, e, _⟩
    · exact ⟨_, _, _, e⟩
    · exact ⟨_, _, _, e⟩
  obtain ⟨pk, pt⟩ := p
  simp only at *
  go_enter Tryz.func46, Tryz.ntmps46
  go_wp2
  go_region
  all_goals
    have HR : Hid (Rw w ((w.setCell ⟨g, off + 1 + pk, none⟩ (.int .i64 ((cntK ps pk : Int) + 1))).alloc (.cells #[.int .i64 pk, .string ⟨pt.toArray⟩] 93)).drew g off (secC (.slice q1 q2 q3) (ps ++ [⟨pk, pt⟩]))) := by
      have h1 := ((Rw.first hg (X := secC (.slice q1 q2 q3) ps) h.2).set (1 + pk) (.int .i64 ((cntK ps pk : Int) + 1)) (by rw [secC_len]; omega))
      rw [sec_other (p := ⟨pk, pt⟩) hk hk6, show off + (1 + pk) = off + 1 + pk by omega] at h1
      exact (h1.below ((Below.refl _ _).alloc (Nat.le_refl _) _)).below (below_drewC _)
    have hx0 : (((w.setCell ⟨g, off + 1 + pk, none⟩ (.int .i64 ((cntK ps pk : Int) + 1))).alloc (.cells #[.int .i64 pk, .string ⟨pt.toArray⟩] 93)).drew).heap[w.heap.size]? = some (.cells #[.int .i64 pk, .string ⟨pt.toArray⟩] 93) := by
      have := World.alloc_heap_new (w.setCell ⟨g, off + 1 + pk, none⟩ (.int .i64 ((cntK ps pk : Int) + 1))) (.cells #[.int .i64 pk, .string ⟨pt.toArray⟩] 93)
      rw [World.size_setCell] at this; exact this
    clear n0 b0 hk hk1 hk6 hk6' h c0
    generalize (((w.setCell ⟨g, off + 1 + pk, none⟩ (.int .i64 ((cntK ps pk : Int) + 1))).alloc (.cells #[.int .i64 pk, .string ⟨pt.toArray⟩] 93)).drew) = W at *
    go_wp2
    have hgW : g < W.heap.size := Nat.lt_of_lt_of_le hg HR.out.grown.size
    have hxs : w.heap.size < W.heap.size := (Array.getElem?_eq_some_iff.1 hx0).1
    have cD : W.drew.cell? ⟨g, off, none⟩ = some (.slice q1 q2 q3) := HR.out.cells 0 (by rw [secC_len]; omega)
    have hrW : W.ownsRow base 93 2 (.slice q1 q2 q3) ps.length (ps.flatMap pcC) := hr.kept HR.out.grown (.inr hug)
    have HO := hide ((hrW.alloc (.cells #[.int .i64 pk, .string ⟨pt.toArray⟩] 93)).drew)
    have huw : ∀ k, (Value.slice q1 q2 q3).ownBlock = some k → k < w.heap.size := fun k e => (hr.lt k e).2
    have hS0 : W.drew.cell? ⟨w.heap.size, 0, none⟩ = some (.int .i64 pk) ∧ W.drew.cell? ⟨w.heap.size, 1, none⟩ = some (.string ⟨pt.toArray⟩) := by
      have e0 : W.cell? ⟨w.heap.size, 0, none⟩ = some (.int .i64 pk) := by simp [World.cell?, hx0]
      have e1 : W.cell? ⟨w.heap.size, 1, none⟩ = some (.string ⟨pt.toArray⟩) := by simp [World.cell?, hx0]
      exact ⟨e0, e1⟩
    have hSA : ∀ W', Below W.heap.size W W' → W'.cell? ⟨w.heap.size, 0, none⟩ = some (.int .i64 pk) ∧ W'.cell? ⟨w.heap.size, 1, none⟩ = some (.string ⟨pt.toArray⟩) := by
      intro W' hW'
      have := (hW'.block w.heap.size hxs).trans hx0
      constructor <;> simp [World.cell?, this]
    have hA0 : Below W.heap.size W (W.alloc (.cells #[.int .i64 pk, .string ⟨pt.toArray⟩] 93)).drew := ((Below.refl _ W).alloc (Nat.le_refl _) _).drew
    have cA : (W.alloc (.cells #[.int .i64 pk, .string ⟨pt.toArray⟩] 93)).drew.cell? ⟨g, off, none⟩ = some (.slice q1 q2 q3) := (hA0.cell (p := ⟨g, off, none⟩) hgW).trans cD
    have HA0 := hide hA0
    have HSA := hide hSA
    have HR2 := hide (HR.out.below hA0)
    have HHR := hide hr
    have HUG := hide hug
    have HUW := hide huw
    have HHC := hide hC
    obtain ⟨i0, hinf, hz0, hz1, hz2⟩ := info_partsC info_piece
    clear hx0 HR hr hrW hug hC huw hSA hA0
    refine wp_region_held_drew (S := fun W' => W'.cell? ⟨w.heap.size, 0, none⟩ = some (.int .i64 pk) ∧ W'.cell? ⟨w.heap.size, 1, none⟩ = some (.string ⟨pt.toArray⟩)) (by kernel_rfl) hS0 (fun hHeld => ?_)
    (refine takeD (i := 0) (some 24) rfl rfl (by kernel_rfl) (by kernel_rfl) (by kernel_rfl) (fun _ _ _ h => h) (v := ?_) rfl ?_ (by assumption) ?_; rotate_left; (focus (intro w hSw; (try dsimp only at hSw); first | (go_simp; done) | (go_simp; with_reducible rfl))); try simp only [Act.put, List.setIfInBounds_toArray, List.set_cons_zero, List.set_cons_succ]); (refine takeD (i := 1) (some 25) rfl rfl (by kernel_rfl) (by kernel_rfl) (by kernel_rfl) (fun _ _ _ h => h) (v := ?_) rfl ?_ (by assumption) ?_; rotate_left; (focus (intro w hSw; (try dsimp only at hSw); first | (go_simp; done) | (go_simp; with_reducible rfl))); try simp only [Act.put, List.setIfInBounds_toArray, List.set_cons_zero, List.set_cons_succ]); (refine takeD (i := 2) (some 26) rfl rfl (by kernel_rfl) (by kernel_rfl) (by kernel_rfl) (fun _ _ _ h => h) (v := ?_) rfl ?_ (by assumption) ?_; rotate_left; (focus (intro w hSw; (try dsimp only at hSw); first | (go_simp; done) | (go_simp; with_reducible rfl))); try simp only [Act.put, List.setIfInBounds_toArray, List.set_cons_zero, List.set_cons_succ]); (refine takeD (i := 3) (some 27) rfl rfl (by kernel_rfl) (by kernel_rfl) (by kernel_rfl) (fun _ _ _ h => h) (v := ?_) rfl ?_ (by assumption) ?_; rotate_left; (focus (intro w hSw; (try dsimp only at hSw); first | (go_simp; done) | (go_simp; with_reducible rfl))); try simp only [Act.put, List.setIfInBounds_toArray, List.set_cons_zero, List.set_cons_succ])
    (refine takeD (i := 5) (some 29) rfl rfl (by kernel_rfl) (by kernel_rfl) (by kernel_rfl) (fun _ _ _ h => h) (v := ?_) rfl ?_ (by assumption) ?_; rotate_left; (focus (intro w hSw; (try dsimp only at hSw); obtain ⟨hS1, hS2⟩ := hSw; first | (go_simp; done) | (go_simp; with_reducible rfl))); try simp only [Act.put, List.setIfInBounds_toArray, List.set_cons_zero, List.set_cons_succ])
    refine wpAnyH_ready (rs := [4, 6]) (by kernel_rfl) (by simp) ?_
    refine readyC (o := _) rfl rfl (fun K hK => ?_) (readyC (o := _) rfl rfl (fun K hK => ?_) AllReadyH.nil)
    · refine wp_runC (v := .slice q1 q2 q3) (w' := W.drew) (by go_simp) ?_
      refine hK.out _ _ hS0 (fun hHeld => ?_)
      clear hK K
      try simp only [Act.put, List.setIfInBounds_toArray, List.set_cons_zero, List.set_cons_succ]
      refine wpAnyH_ready (rs := [6]) (by kernel_rfl) (by simp) ?_
      refine readyC (o := _) rfl rfl (fun K hK => ?_) AllReadyH.nil
      go_simp
      refine hK.out _ _ (HSA.out _ HA0.out) (fun hHeld => ?_)
      clear hK K
      try simp only [Act.put, List.setIfInBounds_toArray, List.set_cons_zero, List.set_cons_succ]
      refine wpAnyH_ready (rs := [7]) (by kernel_rfl) (by simp) ?_
      refine readyC (o := _) rfl rfl (fun K hK => ?_) AllReadyH.nil
      obtain ⟨v', w4, hr4, hown4, hgr4, _, hwh4⟩ := run_append_own_at (P := Tryz.prog) _ base 61 61 93 i0 (.agg #[.int .i64 0, .string ⟨#[]⟩]) 2 24 Tryz.underlying61 hinf hz0 hz1 hz2 rfl (by decide) _ _ _ HO.out ⟨W.heap.size, 0, none⟩ 1 1 [.int .i64 pk, .string ⟨pt.toArray⟩] rfl
        (fun j u hu => cells_newC W #[.int .i64 pk, .string ⟨pt.toArray⟩] 93 j u (by simpa using hu))
        (by simp [Value.oneCell']) (by unfold maxLen; omega) (by omega) (by simp; omega)
      refine wp_append_own _ _ _ rfl rfl rfl ⟨v', w4, hr4, ?_⟩
      obtain ⟨c4, f4⟩ := taken_pre HR2.out HHC.out HUG.out hgr4
      have hS4 : w4.cell? ⟨w.heap.size, 0, none⟩ = some (.int .i64 pk) ∧ w4.cell? ⟨w.heap.size, 1, none⟩ = some (.string ⟨pt.toArray⟩) := by
        have e := hgr4.block w.heap.size (Nat.lt_of_lt_of_le hxs HA0.out.size) (fun q => Nat.lt_irrefl _ (HUW.out _ q.symm))
        have hq := HSA.out _ HA0.out
        exact ⟨(World.cell?_of_block (a := ⟨w.heap.size, 0, none⟩) e).trans hq.1, (World.cell?_of_block (a := ⟨w.heap.size, 1, none⟩) e).trans hq.2⟩
      have HT := hide (taken_of HR2.out HUG.out hgr4 hown4 hwh4)
      obtain ⟨r1, r2, r3, rfl⟩ : ∃ r1 r2 r3, v' = .slice r1 r2 r3 := by
        rcases hown4.2 with ⟨e, _⟩ | ⟨b, c, _, e, _⟩
        · exact ⟨_, _, _, e⟩
        · exact ⟨_, _, _, e⟩
      refine hK.out _ _ hS4 (fun hHeld => ?_)
      clear hK K hown4 hgr4 hwh4 hr4
      try simp only [Act.put, List.setIfInBounds_toArray, List.set_cons_zero, List.set_cons_succ]
      (refine takeD (i := 8) (some 32) rfl rfl (by kernel_rfl) (by kernel_rfl) (by kernel_rfl) (fun _ _ _ h => h) (v := ?_) rfl ?_ (by assumption) ?_; rotate_left; (focus (intro w hSw; (try dsimp only at hSw); first | (go_simp; done) | (go_simp; with_reducible rfl))); try simp only [Act.put, List.setIfInBounds_toArray, List.set_cons_zero, List.set_cons_succ]); (refine takeD (i := 9) (some 33) rfl rfl (by kernel_rfl) (by kernel_rfl) (by kernel_rfl) (fun _ _ _ h => h) (v := ?_) rfl ?_ (by assumption) ?_; rotate_left; (focus (intro w hSw; (try dsimp only at hSw); first | (go_simp; done) | (go_simp; with_reducible rfl))); try simp only [Act.put, List.setIfInBounds_toArray, List.set_cons_zero, List.set_cons_succ])
      refine wpAnyH_ready (rs := [10]) (by kernel_rfl) (by simp) ?_
      refine readyC (o := _) rfl rfl (fun K hK => ?_) AllReadyH.nil
      go_simp
      have hgx : g ≠ w.heap.size := Nat.ne_of_lt hg
      have hS5 : (w4.setCell ⟨g, off, none⟩ (.slice r1 r2 r3)).cell? ⟨w.heap.size, 0, none⟩ = some (.int .i64 pk) ∧ (w4.setCell ⟨g, off, none⟩ (.slice r1 r2 r3)).cell? ⟨w.heap.size, 1, none⟩ = some (.string ⟨pt.toArray⟩) :=
        ⟨(World.cell?_setCell_far _ _ _ _ hgx).trans hS4.1, (World.cell?_setCell_far _ _ _ _ hgx).trans hS4.2⟩
      refine hK.out _ _ hS5 (fun hHeld => ?_)
      clear hK K
      refine wpAnyH_done (by kernel_rfl) ?_ _
      go_end0
      exact ⟨rfl, _, HT.out⟩
    · go_simp
      refine hK.out _ _ (HSA.out _ HA0.out) (fun hHeld => ?_)
      clear hK K
      try simp only [Act.put, List.setIfInBounds_toArray, List.set_cons_zero, List.set_cons_succ]
      refine wpAnyH_ready (rs := [4]) (by kernel_rfl) (by simp) ?_
      refine readyC (o := _) rfl rfl (fun K hK => ?_) AllReadyH.nil
      refine wp_runC (v := .slice q1 q2 q3) (w' := (W.alloc (.cells #[.int .i64 pk, .string ⟨pt.toArray⟩] 93)).drew) (by go_simp) ?_
      refine hK.out _ _ (HSA.out _ HA0.out) (fun hHeld => ?_)
      clear hK K
      try simp only [Act.put, List.setIfInBounds_toArray, List.set_cons_zero, List.set_cons_succ]
      refine wpAnyH_ready (rs := [7]) (by kernel_rfl) (by simp) ?_
      refine readyC (o := _) rfl rfl (fun K hK => ?_) AllReadyH.nil
      obtain ⟨v', w4, hr4, hown4, hgr4, _, hwh4⟩ := run_append_own_at (P := Tryz.prog) _ base 61 61 93 i0 (.agg #[.int .i64 0, .string ⟨#[]⟩]) 2 24 Tryz.underlying61 hinf hz0 hz1 hz2 rfl (by decide) _ _ _ HO.out ⟨W.heap.size, 0, none⟩ 1 1 [.int .i64 pk, .string ⟨pt.toArray⟩] rfl
        (fun j u hu => cells_newC W #[.int .i64 pk, .string ⟨pt.toArray⟩] 93 j u (by simpa using hu))
        (by simp [Value.oneCell']) (by unfold maxLen; omega) (by omega) (by simp; omega)
      refine wp_append_own _ _ _ rfl rfl rfl ⟨v', w4, hr4, ?_⟩
      obtain ⟨c4, f4⟩ := taken_pre HR2.out HHC.out HUG.out hgr4
      have hS4 : w4.cell? ⟨w.heap.size, 0, none⟩ = some (.int .i64 pk) ∧ w4.cell? ⟨w.heap.size, 1, none⟩ = some (.string ⟨pt.toArray⟩) := by
        have e := hgr4.block w.heap.size (Nat.lt_of_lt_of_le hxs HA0.out.size) (fun q => Nat.lt_irrefl _ (HUW.out _ q.symm))
        have hq := HSA.out _ HA0.out
        exact ⟨(World.cell?_of_block (a := ⟨w.heap.size, 0, none⟩) e).trans hq.1, (World.cell?_of_block (a := ⟨w.heap.size, 1, none⟩) e).trans hq.2⟩
      have HT := hide (taken_of HR2.out HUG.out hgr4 hown4 hwh4)
      obtain ⟨r1, r2, r3, rfl⟩ : ∃ r1 r2 r3, v' = .slice r1 r2 r3 := by
        rcases hown4.2 with ⟨e, _⟩ | ⟨b, c, _, e, _⟩
        · exact ⟨_, _, _, e⟩
        · exact ⟨_, _, _, e⟩
      refine hK.out _ _ hS4 (fun hHeld => ?_)
      clear hK K hown4 hgr4 hwh4 hr4
      try simp only [Act.put, List.setIfInBounds_toArray, List.set_cons_zero, List.set_cons_succ]
      (refine takeD (i := 8) (some 32) rfl rfl (by kernel_rfl) (by kernel_rfl) (by kernel_rfl) (fun _ _ _ h => h) (v := ?_) rfl ?_ (by assumption) ?_; rotate_left; (focus (intro w hSw; (try dsimp only at hSw); first | (go_simp; done) | (go_simp; with_reducible rfl))); try simp only [Act.put, List.setIfInBounds_toArray, List.set_cons_zero, List.set_cons_succ]); (refine takeD (i := 9) (some 33) rfl rfl (by kernel_rfl) (by kernel_rfl) (by kernel_rfl) (fun _ _ _ h => h) (v := ?_) rfl ?_ (by assumption) ?_; rotate_left; (focus (intro w hSw; (try dsimp only at hSw); first | (go_simp; done) | (go_simp; with_reducible rfl))); try simp only [Act.put, List.setIfInBounds_toArray, List.set_cons_zero, List.set_cons_succ])
      refine wpAnyH_ready (rs := [10]) (by kernel_rfl) (by simp) ?_
      refine readyC (o := _) rfl rfl (fun K hK => ?_) AllReadyH.nil
      go_simp
      have hgx : g ≠ w.heap.size := Nat.ne_of_lt hg
      have hS5 : (w4.setCell ⟨g, off, none⟩ (.slice r1 r2 r3)).cell? ⟨w.heap.size, 0, none⟩ = some (.int .i64 pk) ∧ (w4.setCell ⟨g, off, none⟩ (.slice r1 r2 r3)).cell? ⟨w.heap.size, 1, none⟩ = some (.string ⟨pt.toArray⟩) :=
        ⟨(World.cell?_setCell_far _ _ _ _ hgx).trans hS4.1, (World.cell?_setCell_far _ _ _ _ hgx).trans hS4.2⟩
      refine hK.out _ _ hS5 (fun hHeld => ?_)
      clear hK K
      refine wpAnyH_done (by kernel_rfl) ?_ _
      go_end0
      exact ⟨rfl, _, HT.out⟩
end Go.Proofs.YtnhaapcpklfkpaaGreatDoor
