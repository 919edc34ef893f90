/-
  The contract of forms.All (made by allgen.py).
-/
import Derived.Test.YtklldmidcmfbdaaGreatDoorFmA2
import Derived.Test.YtklldmidcmfbdaaGreatDoorFmY
import Derived.Test.YtklldmidcmfbdaaGreatDoorFmSm
import Derived.Test.YtklldmidcmfbdaaGreatDoorFmM2
import Derived.Test.YtklldmidcmfbdaaGreatDoorFmF2
namespace Go.Proofs.YtklldmidcmfbdaaGreatDoor
open Go.RowKit Go.Shelf

attribute [local go_sem] Oper.semAt_some

/-- A row of wants in a block of its own. -/
def WtB (n₀ : Nat) (X : World) (u : Value) (ws : ByteArray) : Prop := ∃ p cap, u = .slice p ws.size cap ∧ (ws.size = 0 ∨ ∃ gw cs, p = some ⟨gw, 0, none⟩ ∧ n₀ ≤ gw ∧ X.heap[gw]? = some (.cells cs 28 (0, 0)) ∧ ∀ i, i < ws.size → cs[i]? = some (.int .i64 (wantAt ws i)))
theorem WtB.of {W : World} {base : Nat} {u : Value} {ws : ByteArray} (h : W.ownsRow base 28 1 u ws.size (wantsL ws ws.size)) : WtB base W u ws := by
  rcases h.2 with ⟨rfl, hn⟩ | ⟨g, cap, cur, rfl, hb, hg, _, _, _, ht⟩
  · exact ⟨none, 0, by rw [hn], .inl hn⟩
  · refine ⟨_, cap, rfl, .inr ⟨g, cur, rfl, hb, hg, fun i hi => ?_⟩⟩
    have e : (cur.toList.take (ws.size * 1))[i]? = (wantsL ws ws.size)[i]? := by rw [ht]
    rw [List.getElem?_take, if_pos (by omega)] at e
    rw [← Array.getElem?_toList, e]
    simp [wantsL, hi]
theorem WtB.mono {n₀ n₁ : Nat} {W : World} {u : Value} {ws : ByteArray} (h : WtB n₀ W u ws) (hn : n₁ ≤ n₀) : WtB n₁ W u ws := by
  obtain ⟨p, cap, e, h⟩ := h
  refine ⟨p, cap, e, ?_⟩
  rcases h with h | ⟨gw, cs, hp, hb, h⟩
  · exact .inl h
  · exact .inr ⟨gw, cs, hp, Nat.le_trans hn hb, h⟩
theorem WtB.kept {n₀ : Nat} {W W' : World} {u : Value} {ws : ByteArray} (h : WtB n₀ W u ws) (hk : ∀ (b : Nat) (cs : Array Value), W.heap[b]? = some (Obj.cells cs 28 (0, 0)) → W'.heap[b]? = W.heap[b]?) : WtB n₀ W' u ws := by
  obtain ⟨p, cap, e, h⟩ := h
  refine ⟨p, cap, e, ?_⟩
  rcases h with h | ⟨gw, cs, hp, hn, hg, hc⟩
  · exact .inl h
  · exact .inr ⟨gw, cs, hp, hn, (hk gw cs hg).trans hg, hc⟩
theorem WtB.below {n₀ : Nat} {W W' : World} {u : Value} {ws : ByteArray} (h : WtB n₀ W u ws) (hb : Below W.heap.size W W') : WtB n₀ W' u ws := h.kept (fun b _ hc => hb.block b (Array.getElem?_eq_some_iff.1 hc).1)
theorem WtB.one {n₀ : Nat} {W : World} {u : Value} {ws : ByteArray} (h : WtB n₀ W u ws) : u.oneCell' = true := by
  obtain ⟨p, cap, rfl, _⟩ := h; rfl
/-- The box of the forms that were met, and their row. -/
def FRow (n₀ B : Nat) (l : List Fu) (X : World) : Prop := ∃ (v : Value) (G : List (Fu × Value)), G.map Prod.fst = l ∧ Boxed X B 22 v ∧ X.ownsRow n₀ 27 4 v G.length (G.flatMap fvC) ∧ ∀ x ∈ G, WtB n₀ X x.2 x.1.wants
theorem ab_frow {β : Type} {n₀ B m : Nat} (hB : B < m) (f : β → List Fu) : Ab B (fun _ => False) m (fun s W => FRow n₀ B (f s) W) := by
  intro s W W' row ⟨v, G, e, hv, hr, hw⟩ hg h
  have hne : ∀ r, row = some r → r ≠ B := fun r e => by
    rcases (h r e).1 with h1 | h1
    · exact h1.elim
    · omega
  refine ⟨v, G, e, hv.kept hg (fun e => hne B e.symm rfl), hr.kept hg ?_, fun x hx => (hw x hx).kept (fun b cs hc => hg.block b (Array.getElem?_eq_some_iff.1 hc).1 (fun e => ?_))⟩
  · cases hvb : v.ownBlock with
    | none => exact .inl rfl
    | some g =>
      refine .inr fun e => ?_
      rcases (h g e.symm).2 with ⟨o, ho, hc⟩ | h2
      · rcases hr.2 with ⟨rfl, _⟩ | ⟨g', cp, cur, rfl, _, hgb, _⟩
        · cases hvb
        · simp [Value.ownBlock] at hvb
          subst hvb
          rw [hgb] at ho
          cases ho
          cases hc
      · exact h2.1 (by unfold rowAt; rw [hv.cell]; exact hvb)
  · rcases (h b e.symm).2 with ⟨o, ho, hc2⟩ | ⟨_, cs2, fz, h2⟩
    · rw [hc] at ho
      cases ho
      cases hc2
    · rw [hc] at h2
      simp at h2
noncomputable def fmI : TypeInfo := (Tryz.prog.info? 27).get (by kernel_rfl)
theorem fmI_info : Tryz.prog.info? 27 = some fmI := by kernel_rfl
theorem fmI_zero : fmI.zero = some (.agg #[.string ⟨#[]⟩, .int .i64 0, .int .i64 0, .slice none 0 0]) := by kernel_rfl
theorem fmI_size : fmI.size = 4 := by kernel_rfl
theorem fmI_bytes : fmI.bytes = 56 := by kernel_rfl
theorem fms_under : Tryz.prog.underlying 22 = some (.slice 27) := by kernel_rfl
/-- The law on append inside a fence, by one operation, with where the row is. -/
theorem wpIn_append_at {F : Fence} {n : Nat} {P : Program} (w : World) {o : Oper} {a : Act} {K : Act → World → Prop} {Q : Exit → Act → World → Prop}
    (s x : Operand) (t : TypeId) (hop : o.op = Op.call { callee := Callee.builtin Builtin.append, args := #[s, x], argTypes := #[t, t] })
    (base : Nat) (e : TypeId) (i : TypeInfo) (z : Value) (size bytes : Nat) (h1 : P.underlying t = some (.slice e)) (h2 : P.info? e = some i) (h3 : i.zero = some z) (h4 : i.size = size) (h5 : i.bytes = bytes) (h6 : z.cells.size = size) (h7 : 0 < size)
    (v : Value) (k : Nat) (xs : List Value) (hs : a.eval s = v) (hown : w.ownsRow base e size v k xs) (ad : Addr) (m c : Nat) (news : List Value) (hx : a.eval x = .slice (some ad) m c) (hn : news.length = m * size)
    (hc : ∀ j u, news[j]? = some u → w.cell? (ad.add j) = some u) (h1c : ∀ u ∈ news, u.oneCell' = true) (b1 : k + m ≤ maxLen) (b2 : (k + m) * bytes ≤ 140737488355328) (b3 : base ≤ w.heap.size)
    (hK : ∀ v' w', w'.ownsRow base e size v' (k + m) (xs ++ news) → w.grownBy w' v.ownBlock → (∀ g, v'.ownBlock = some g → v.ownBlock = some g ∨ w.heap.size ≤ g) → K (a.put o.dst v') w') :
    o.wpIn F n P a w K Q := by
  obtain ⟨v', w', hrun, r1, r2, _⟩ := run_append_own (P := P) w base t o.type e i z size bytes h1 h2 h3 h4 h5 h6 h7 v k xs hown ad m c news hn hc h1c b1 b2 b3
  have r3 := append_where (P := P) w base t o.type e i z size bytes h1 h2 h3 h4 h5 h6 h7 v k xs hown ad m c news hn hc h1c b1 b2 hrun
  unfold Oper.wpIn
  refine ⟨?_, ?_⟩
  · simp [Oper.about, hop, resolve, Target.leads, Sem.run_pure]
  · rw [Oper.semAt_plain F _ _ (by rw [hop]; intro c hc'; cases hc')]
    simp [execOp, hop, resolve, invoke, builtin, hs, hx, hrun, Result.andThen]
    exact hK v' w' r1 r2 r3
/-- An operation that is due, inside a fence. -/
theorem readyIn {F : Fence} {n : Nat} {P : Program} {ops : Array Oper} {Q : Exit → Act → World → Prop} {md : Region.Mode} {fuel : Nat} {listed : Array Bool} {a : Act} {w : World} {i : Nat} {o : Oper} {rs : List Nat} (ho : ops[i]? = some o) (hg : o.guard = none)
    (h : ∀ K' : Act → World → Prop, (∀ a w, wpAnyIn F n P md ops Q fuel (listed.setIfInBounds i true) a w → K' a w) → Oper.wpIn F n P o a w K' Q)
    (hs : AllReadyIn F n P md ops Q fuel listed a w rs) : AllReadyIn F n P md ops Q fuel listed a w (i :: rs) :=
  AllReadyIn.cons ho (fun K' hK => by rw [if_pos (by simp [Region.wanted, hg])]; exact h K' hK) hs
/-- No later name is less. -/
def SortedG (G : List (Fu × Value)) : Prop := ∀ (i j : Nat) (x y : Fu × Value), i < j → G[i]? = some x → G[j]? = some y → Op.bytesLess y.1.name.toList x.1.name.toList = false
/-- Forms in a row, with their wants. -/
def AllAt (n₀ : Nat) (W : World) (g : Nat) (G : List (Fu × Value)) : Prop := (∀ i x, G[i]? = some x → ∀ j, j < 4 → W.cell? ⟨g, i * 4 + j, none⟩ = (fvC x)[j]?) ∧ ∀ x ∈ G, WtB n₀ W x.2 x.1.wants
theorem all_ret {tmps : Array Value} {Z : World} {v : Value} (h : tmps.getD 0 undef = v) : (results Tryz.f5 tmps).run Tryz.prog Z = .ok v Z := by
  have h' : tmps[0]?.getD undef = v := by simpa using h
  simp [results, Tryz.results5, h', go_sem]
theorem range_map (G : List (Fu × Value)) : (List.range G.length).map (Prod.fst ∘ fun i => G.getD i zfv) = G.map Prod.fst := by
  apply List.ext_getElem (by simp)
  intro i h1 h2
  have hi : i < G.length := by simpa using h2
  simp [List.getD_eq_getElem?_getD, List.getElem?_eq_getElem hi]
theorem fns_len : fnsL.length = 86 := by kernel_rfl
theorem flat_fv : ∀ (G : List (Fu × Value)) (i : Nat) (x : Fu × Value), G[i]? = some x → ∀ j, j < 4 → (G.flatMap fvC)[i * 4 + j]? = (fvC x)[j]?
  | y :: G, 0, x, h, j, hj => by
    obtain rfl : y = x := Option.some.inj h
    rw [List.flatMap_cons, List.getElem?_append_left (by simp [fvC]; omega)]
    simp
  | y :: G, i + 1, x, h, j, hj => by
    rw [List.flatMap_cons, List.getElem?_append_right (by simp [fvC]; omega), show (i + 1) * 4 + j - (fvC y).length = i * 4 + j by simp [fvC]; omega]
    exact flat_fv G i x (by simpa using h) j hj
theorem holds_owns {X : World} {n₀ g cap : Nat} {G : List (Fu × Value)} (h : X.ownsRow n₀ 27 4 (.slice (some ⟨g, 0, none⟩) G.length cap) G.length (G.flatMap fvC)) : Go.Sort.HoldsK (encF G) 4 X g 0 (Array.range G.length) := by
  intro j hj
  have hj' : j < G.length * 4 := by simpa using hj
  have hi : j / 4 < G.length := by omega
  have hc := h.cellAt j hj'
  have hx : G[j / 4]? = some G[j / 4] := List.getElem?_eq_getElem hi
  have hf := flat_fv G (j / 4) _ hx (j % 4) (by omega)
  rw [show j / 4 * 4 + j % 4 = j by omega] at hf
  have hr : (Array.range G.length)[j / 4]! = j / 4 := by simp [hi]
  refine ⟨?_, ?_⟩
  · rw [Nat.zero_add, hc, hf, id, Go.Sort.get_flatK _ _ _ _ (by simpa using hj'), hr]
    unfold encF
    rw [List.getD_eq_getElem?_getD, hx, Option.getD_some]
    have h4 : j % 4 < (fvC G[j / 4]).length := by simp [fvC]; omega
    rw [List.getElem?_eq_getElem h4]
    simp [h4]
  · rcases h.2 with ⟨e, _⟩ | ⟨g', cp, cur, e, _, hg, _⟩
    · cases e
    · cases e
      simp [World.frozen?, hg]
theorem grown_of' {w w' : World} (h : Below w.heap.size w w') : w.grownBy w' none := ⟨h.os, h.tape, h.output, h.size, fun k hk _ => h.block k hk⟩
theorem row_type {X : World} {n₀ n b : Nat} {e : TypeId} {v : Value} {xs : List Value} {cs : Array Value} {t : TypeId} (h : X.ownsRow n₀ e 4 v n xs) (hb : X.heap[b]? = some (Obj.cells cs t (0, 0))) (hne : e ≠ t) : v.ownBlock ≠ some b := by
  intro hv
  rcases h.2 with ⟨rfl, _⟩ | ⟨g, cp, cur, rfl, _, hg, _⟩
  · cases hv
  · simp [Value.ownBlock] at hv
    subst hv
    rw [hg] at hb
    simp at hb
    exact hne hb.2
theorem frow_fin {n₀ B m : Nat} {w X w1 wa : World} {v v' : Value} {G : List (Fu × Value)} {x : Fu} {u : Value} {pre : List Fu} (hnB : n₀ ≤ B) (hv : Boxed X B 22 v) (hrow : X.ownsRow n₀ 27 4 v G.length (G.flatMap fvC)) (hwt : ∀ y ∈ G, WtB n₀ X y.2 y.1.wants) (hG : G.map Prod.fst = pre) (hb1 : Below X.heap.size X w1) (hu : WtB n₀ w1 u x.wants)
    (hown' : wa.ownsRow n₀ 27 4 v' (G.length + 1) (G.flatMap fvC ++ fvC (x, u))) (hgrow : (w1.alloc (.cells (fvC (x, u)).toArray 27)).grownBy wa v.ownBlock) (hwhere : ∀ g, v'.ownBlock = some g → v.ownBlock = some g ∨ (w1.alloc (.cells (fvC (x, u)).toArray 27)).heap.size ≤ g) (hbw : Below n₀ w X) :
    KeepsFrom m X (wa.setCell ⟨B, 0, none⟩ v') ∧ KpR n₀ B X (wa.setCell ⟨B, 0, none⟩ v') ∧ FRow n₀ B (pre ++ [x]) (wa.setCell ⟨B, 0, none⟩ v') ∧ Below n₀ w (wa.setCell ⟨B, 0, none⟩ v') := by
  have hX := hv.lt
  have hs1 := hb1.size
  have bne : v.ownBlock ≠ some B := row_type hrow hv (by decide)
  have hv1 : Boxed w1 B 22 v := (hb1.block B hX).trans hv
  have hva : Boxed wa B 22 v := (hv1.alloc _).kept hgrow (fun e => bne e.symm)
  have hZ := hva.set v'
  have hrow1 : w1.ownsRow n₀ 27 4 v G.length (G.flatMap fvC) := hrow.kept (grown_of' hb1) (by cases v.ownBlock <;> simp)
  have hblk1 : ∀ k, k < w1.heap.size → k ≠ B → v.ownBlock ≠ some k → (wa.setCell ⟨B, 0, none⟩ v').heap[k]? = w1.heap[k]? := fun k hk hne hr =>
    (Below.heap_setCell wa ⟨B, 0, none⟩ v' k hne).trans ((hgrow.block k (by simp; omega) (fun e => hr e.symm)).trans (Below.heap_alloc w1 _ k hk))
  have hblk : ∀ k, k < X.heap.size → k ≠ B → v.ownBlock ≠ some k → (wa.setCell ⟨B, 0, none⟩ v').heap[k]? = X.heap[k]? := fun k hk hne hr => (hblk1 k (by omega) hne hr).trans (hb1.block k hk)
  have hsz : (wa.setCell ⟨B, 0, none⟩ v').heap.size = wa.heap.size := by simp
  have hsa : w1.heap.size + 1 ≤ wa.heap.size := by have := hgrow.size; simpa using this
  have hbase : ∀ k, v.ownBlock = some k → n₀ ≤ k := fun k e => (hrow.lt k e).1
  have hbZ : Below n₀ w1 (wa.setCell ⟨B, 0, none⟩ v') := (((Below.refl n₀ w1).alloc (by omega) _).grown hgrow (by simp; omega) hbase).setCell (p := ⟨B, 0, none⟩) hnB _
  have hlt : ∀ g, v'.ownBlock = some g → g < (wa.setCell ⟨B, 0, none⟩ v').heap.size := fun g e => by rw [hsz]; exact (hown'.lt g e).2
  have bne' : v'.ownBlock ≠ some B := fun e => by
    rcases hwhere B e with h | h
    · exact bne h
    · simp at h; omega
  refine ⟨⟨by rw [hsz]; omega, fun k o _ h1 h2 => ?_⟩, (KpR.of hb1 (by omega) hX).trans (KpR.appended hv1 hZ hbZ hgrow hwhere hlt), ⟨v', G ++ [(x, u)], by rw [List.map_append, hG]; rfl, hZ, ?_, fun y hy => ?_⟩, hbw.trans ((hb1.mono (by omega)).trans hbZ)⟩
  · have hk := (Array.getElem?_eq_some_iff.1 h1).1
    refine (hblk k hk (fun e => ?_) (fun e => ?_)).trans h1
    · subst e
      rw [show X.heap[k]? = _ from hv] at h1
      cases h1
      cases h2
    · rcases hrow.2 with ⟨rfl, _⟩ | ⟨g, cp, cur, rfl, _, hg, _⟩
      · cases e
      · simp [Value.ownBlock] at e
        subst e
        rw [hg] at h1
        cases h1
        cases h2
  · have := hown'.kept (grownBy_setCell' wa B v') (.inr bne')
    simpa using this
  · rcases List.mem_append.1 hy with hy | hy
    · exact (hwt y hy).kept (fun b cs hc => hblk b (Array.getElem?_eq_some_iff.1 hc).1 (fun e => by subst e; rw [show X.heap[b]? = _ from hv] at hc; simp at hc) (row_type hrow hc (by decide)))
    · rw [List.mem_singleton.1 hy]
      exact hu.kept (fun b cs hc => hblk1 b (Array.getElem?_eq_some_iff.1 hc).1 (fun e => by subst e; rw [show w1.heap[b]? = _ from hv1] at hc; simp at hc) (row_type hrow1 hc (by decide)))
set_option maxRecDepth 100000 in
set_option maxHeartbeats 4000000 in
theorem all_any (w : World) : Calls Tryz.prog 5 #[] w fun e w' => ∃ (g cap : Nat) (G : List (Fu × Value)), e = .returned (.slice (some ⟨g, 0, none⟩) 86 cap) ∧ 86 ≤ cap ∧ cap ≤ maxLen ∧ (G.map Prod.fst).Perm fnsL ∧ SortedG G ∧ AllAt w.heap.size w' g G ∧ w.heap.size ≤ g ∧ g < w'.heap.size ∧ Below w.heap.size w w' := by
  refine (callsIn_wide (n := 0)).1 ?_
  refine callsIn_of_wp_marks Tryz.func5 rfl trivial ?_ rfl
  simp only [Tryz.ntmps5, List.size_toArray, List.length_nil, Nat.reduceSub, Array.replicate_succ, Array.replicate_zero, List.push_toArray, List.append_toArray, List.nil_append, List.cons_append]
  gi_wp2_with (refine ⟨trivial, rfl, ?_⟩; gi_at_call 10; refine (callsIn_wide.2 (functions_any _)).mono ?_; rintro e wz ⟨rfl, hz⟩; subst wz)
  have k0 := Boxed.new w 22 (.slice none 0 0)
  have hB0 : Below w.heap.size w (w.alloc (.cells #[.slice none 0 0] 22)) := (Below.refl _ _).alloc (Nat.le_refl _) _
  obtain ⟨W0, hW0⟩ : ∃ W0, w.alloc (.cells #[.slice none 0 0] 22) = W0 := ⟨_, rfl⟩
  have z0 : W0.heap.size = w.heap.size + 1 := by rw [← hW0]; simp
  rw [hW0] at k0 hB0 ⊢
  have hr0 : rowAt W0 w.heap.size = none := by unfold rowAt; rw [k0.cell]; rfl
  have hRI : RowIn w.heap.size W0 := ⟨by omega, fun g hg => by rw [hr0] at hg; cases hg⟩
  clear hW0
  have hmx : Tryz.prog.follows .mixedOrders = true := by kernel_rfl
  refine rangeS (α := Fu) (B := w.heap.size) (n₀ := w.heap.size) (X := fun _ => False) rfl (enters_of Tryz.func23 (by kernel_rfl) rfl) (functions_stopsS w.heap.size w.heap.size)
    (fun X hX => ⟨hRI.below hX, by have := hX.size; omega⟩) (fun _ => rfl) (by omega) (by omega) (fun _ h => h.elim)
    (fun pre X => FRow w.heap.size w.heap.size pre X ∧ Below w.heap.size w X)
    (fun _ _ _ => False)
    ?hI ?hIx ⟨⟨_, [], rfl, k0, World.ownsRow_nil _ _ _ _, by simp⟩, hB0⟩
    (fun x a' X => ∃ Bx, w.heap.size < Bx ∧ X.heap[Bx]? = some (.cells (fnC x).toArray 42 (0, 0)) ∧ a' = { tmps := #[.slice none 0 0, .pointer (some ⟨w.heap.size, 0, none⟩), .pointer (some ⟨Bx, 0, none⟩), .func (.func 23) #[] #[], .agg (fnC x).toArray, undef, undef, undef, undef, undef, undef, undef, undef], defers := [] })
    ?hAx ?assign ?body ?done ?stop
  case hI => exact (ab_frow (by omega) _).and (ab_below (Nat.le_refl _) (by omega) (fun _ h => h.elim))
  case hIx => exact fun _ _ _ _ _ h _ _ => h
  case hAx =>
    rintro x a' _ A A' row ⟨Bx, h1, h2, h3⟩ hg hr
    refine ⟨Bx, h1, (hg.block Bx (Array.getElem?_eq_some_iff.1 h2).1 (fun e => ?_)).trans h2, h3⟩
    obtain ⟨_, o, ho, hc⟩ := hr Bx e.symm
    rw [h2] at ho
    cases ho
    cases hc
  case assign =>
    rintro l pre ⟨fn, fl, fm, fw⟩ X K ⟨h1, h5⟩ hK
    have HK := hide hK
    have hX : w.heap.size < X.heap.size := by obtain ⟨v, G, _, hv, _⟩ := h1; exact hv.lt
    have hBX : Below X.heap.size X (X.alloc (.cells #[.string fn, .int .i64 fl, .int .i64 fm, .string fw] 42)) := (Below.refl _ _).alloc (Nat.le_refl _) _
    clear hK
    simp only [fnC]
    gi_wp2
    exact HK.out _ _ (keeps_of hBX) (KpR.of hBX (by omega) hX) ⟨(ab_frow (m := X.heap.size) hX (fun _ : Unit => pre)).below (s := ()) h1 hBX, h5.trans (hBX.mono (by omega))⟩ ⟨X.heap.size, hX, World.alloc_heap_new X _, rfl⟩
  case body =>
    rintro l pre ⟨fn, fl, fm, fw⟩ _ X hl _ ⟨⟨v, G, hG, hv, hrow, hwt⟩, hbX⟩ ⟨Bx, hx1, hx2, rfl⟩ hlen
    simp only [fnC] at *
    have hX : w.heap.size < X.heap.size := hv.lt
    have cx : ∀ j, X.cell? ⟨Bx, j, none⟩ = (#[.string fn, .int .i64 fl, .int .i64 fm, .string fw] : Array Value)[j]? := fun j => by simp [World.cell?, hx2]
    have cx0 : X.drew.cell? ⟨Bx, 0, none⟩ = some (.string fn) := cx 0
    have cx1 : X.drew.cell? ⟨Bx, 1, none⟩ = some (.int .i64 fl) := cx 1
    have cx2 : X.drew.cell? ⟨Bx, 2, none⟩ = some (.int .i64 fm) := cx 2
    have cx3 : X.drew.cell? ⟨Bx, 3, none⟩ = some (.string fw) := cx 3
    have cB0 : X.drew.cell? ⟨w.heap.size, 0, none⟩ = some v := hv.cell
    have hfw : fw.size ≤ 4 := by
      have hm : (⟨fn, fl, fm, fw⟩ : Fu) ∈ fnsL := hlen.2.subset (by simp)
      exact (fn_fine hm).1
    have hGl : G.length ≤ 86 := by
      have h1 := hlen.1
      rw [fns_len, ← hG, List.length_map] at h1
      omega
    have HFm : Hid (∀ W : World, CallsIn Fence.wide 0 Tryz.prog 11 #[.agg #[.string fn, .int .i64 fl, .int .i64 fm, .string fw]] W fun e w' => ∃ u, e = .returned (.agg #[.string fn, .int .i64 fl, .int .i64 fm, u]) ∧ w'.ownsRow W.heap.size 28 1 u fw.size (wantsL fw fw.size) ∧ Below W.heap.size W w') := fun W => callsIn_wide.2 (form_any ⟨fn, fl, fm, fw⟩ W hfw)
    have HOwn : Hid (∀ W : World, Below X.drew.heap.size X.drew W → W.ownsRow w.heap.size 27 4 v G.length (G.flatMap fvC)) := fun W hW => (World.ownsRow.drew hrow).kept (grown_of' hW) (by cases v.ownBlock <;> simp)
    have HV := hide hv
    have HRow := hide hrow
    have HWt := hide hwt
    have HBX := hide hbX
    have HG := hide hG
    have HX2 := hide hx2
    have HBxd : Hid (∀ W1 wa : World, Below X.drew.heap.size X.drew W1 → ∀ {o : Obj}, (W1.alloc o).grownBy wa v.ownBlock → Boxed wa w.heap.size 22 v) := fun W1 wa h1 o h2 => (((show Boxed W1 w.heap.size 22 v from (h1.block _ hX).trans HV.out).alloc o).kept h2 (fun e => row_type HRow.out HV.out (by decide) e.symm))
    clear cx hv hrow hwt hbX hG hx2
    gi_wp2
    refine wpIn_region_any (by assumption) ?_
    change wpAnyIn _ _ _ _ _ _ _ _ _ (World.drew _)
    refine wpAnyIn_ready (rs := [0, 1]) (by kernel_rfl) (by simp) ?_
    refine readyIn (o := _) rfl rfl (fun K hK => ?_) (readyIn (o := _) rfl rfl (fun K hK => ?_) AllReadyIn.nil)
    · go_simp
      refine hK _ _ ?_
      clear hK K
      refine wpAnyIn_ready (rs := [1]) (by kernel_rfl) (by simp) ?_
      refine readyIn (o := _) rfl rfl (fun K hK => ?_) AllReadyIn.nil
      go_simp
      refine hK _ _ ?_
      clear hK K
      refine wpAnyIn_ready (rs := [2]) (by kernel_rfl) (by simp) ?_
      refine readyIn (o := _) rfl rfl (fun K hK => ?_) AllReadyIn.nil
      go_simp
      gi_wp2_with (refine ⟨trivial, rfl, ?_⟩; gi_at_call 11; refine (CallsIn.inRound l (HFm.out _)).mono ?_; rintro e w1 ⟨u, rfl, ho1, hb1⟩; have HB1 := hide hb1; have HU := hide ((WtB.of ho1).mono (n₁ := w.heap.size) (by first | omega | (simp; omega))); obtain ⟨pu, cu, rfl, _⟩ := WtB.of ho1; have cB1 := (hb1.cell (p := ⟨w.heap.size, 0, none⟩) hX).trans cB0; have cB2 := ((hb1.alloc hb1.size (.cells #[.string fn, .int .i64 fl, .int .i64 fm, .slice pu fw.size cu] 27)).cell (p := ⟨w.heap.size, 0, none⟩) hX).trans cB0; clear ho1 hb1)
      refine wpAnyIn_ready (rs := [3]) (by kernel_rfl) (by simp) ?_
      refine readyIn (o := _) rfl rfl (fun K hK => ?_) AllReadyIn.nil
      go_simp
      refine hK _ _ ?_
      clear hK K
      refine wpAnyIn_ready (rs := [4]) (by kernel_rfl) (by simp) ?_
      refine readyIn (o := _) rfl rfl (fun K hK => ?_) AllReadyIn.nil
      refine wpIn_append_at _ _ _ 22 rfl w.heap.size 27 fmI (.agg #[.string ⟨#[]⟩, .int .i64 0, .int .i64 0, .slice none 0 0]) 4 56 fms_under fmI_info fmI_zero fmI_size fmI_bytes rfl (by decide) v G.length (G.flatMap fvC) rfl (HOwn.out _ (HB1.out.alloc HB1.out.size _)) ⟨w1.heap.size, 0, none⟩ 1 1 [.string fn, .int .i64 fl, .int .i64 fm, .slice pu fw.size cu] rfl rfl (fun j u hj => cells_new w1 _ _ j u hj) (by simp [Value.oneCell']) (by unfold maxLen; omega) (by omega) (by have := HB1.out.size; simp at this ⊢; omega) ?_
      intro v' wa hown' hgrow hwhere
      obtain ⟨g', cap', rfl⟩ := ownsRow_succ hown'
      have HOX := hide hown'
      have HGX := hide hgrow
      have HFin := hide (frow_fin (m := W0.heap.size) (x := ⟨fn, fl, fm, fw⟩) (Nat.le_refl _) HV.out HRow.out HWt.out HG.out ((Below.refl _ X).drew.trans (HB1.out.mono (Nat.le_refl _))) HU.out HOX.out HGX.out hwhere HBX.out)
      have hvb : Boxed wa w.heap.size 22 v := HBxd.out _ _ HB1.out HGX.out
      have q0 := hvb.cell
      have qf := hvb.frozen
      clear hown' hgrow hwhere hvb
      refine hK _ _ ?_
      clear hK K
      refine wpAnyIn_ready (rs := [5]) (by kernel_rfl) (by simp) ?_
      refine readyIn (o := _) rfl rfl (fun K hK => ?_) AllReadyIn.nil
      go_simp
      refine hK _ _ ?_
      clear hK K
      refine wpAnyIn_done (by kernel_rfl) ?_ _
      exact HFin.out
    · go_simp
      refine hK _ _ ?_
      clear hK K
      refine wpAnyIn_ready (rs := [0, 2]) (by kernel_rfl) (by simp) ?_
      refine readyIn (o := _) rfl rfl (fun K hK => ?_) (readyIn (o := _) rfl rfl (fun K hK => ?_) AllReadyIn.nil)
      · go_simp
        refine hK _ _ ?_
        clear hK K
        refine wpAnyIn_ready (rs := [2]) (by kernel_rfl) (by simp) ?_
        refine readyIn (o := _) rfl rfl (fun K hK => ?_) AllReadyIn.nil
        go_simp
        gi_wp2_with (refine ⟨trivial, rfl, ?_⟩; gi_at_call 11; refine (CallsIn.inRound l (HFm.out _)).mono ?_; rintro e w1 ⟨u, rfl, ho1, hb1⟩; have HB1 := hide hb1; have HU := hide ((WtB.of ho1).mono (n₁ := w.heap.size) (by first | omega | (simp; omega))); obtain ⟨pu, cu, rfl, _⟩ := WtB.of ho1; have cB1 := (hb1.cell (p := ⟨w.heap.size, 0, none⟩) hX).trans cB0; have cB2 := ((hb1.alloc hb1.size (.cells #[.string fn, .int .i64 fl, .int .i64 fm, .slice pu fw.size cu] 27)).cell (p := ⟨w.heap.size, 0, none⟩) hX).trans cB0; clear ho1 hb1)
        refine wpAnyIn_ready (rs := [3]) (by kernel_rfl) (by simp) ?_
        refine readyIn (o := _) rfl rfl (fun K hK => ?_) AllReadyIn.nil
        go_simp
        refine hK _ _ ?_
        clear hK K
        refine wpAnyIn_ready (rs := [4]) (by kernel_rfl) (by simp) ?_
        refine readyIn (o := _) rfl rfl (fun K hK => ?_) AllReadyIn.nil
        refine wpIn_append_at _ _ _ 22 rfl w.heap.size 27 fmI (.agg #[.string ⟨#[]⟩, .int .i64 0, .int .i64 0, .slice none 0 0]) 4 56 fms_under fmI_info fmI_zero fmI_size fmI_bytes rfl (by decide) v G.length (G.flatMap fvC) rfl (HOwn.out _ (HB1.out.alloc HB1.out.size _)) ⟨w1.heap.size, 0, none⟩ 1 1 [.string fn, .int .i64 fl, .int .i64 fm, .slice pu fw.size cu] rfl rfl (fun j u hj => cells_new w1 _ _ j u hj) (by simp [Value.oneCell']) (by unfold maxLen; omega) (by omega) (by have := HB1.out.size; simp at this ⊢; omega) ?_
        intro v' wa hown' hgrow hwhere
        obtain ⟨g', cap', rfl⟩ := ownsRow_succ hown'
        have HOX := hide hown'
        have HGX := hide hgrow
        have HFin := hide (frow_fin (m := W0.heap.size) (x := ⟨fn, fl, fm, fw⟩) (Nat.le_refl _) HV.out HRow.out HWt.out HG.out ((Below.refl _ X).drew.trans (HB1.out.mono (Nat.le_refl _))) HU.out HOX.out HGX.out hwhere HBX.out)
        have hvb : Boxed wa w.heap.size 22 v := HBxd.out _ _ HB1.out HGX.out
        have q0 := hvb.cell
        have qf := hvb.frozen
        clear hown' hgrow hwhere hvb
        refine hK _ _ ?_
        clear hK K
        refine wpAnyIn_ready (rs := [5]) (by kernel_rfl) (by simp) ?_
        refine readyIn (o := _) rfl rfl (fun K hK => ?_) AllReadyIn.nil
        go_simp
        refine hK _ _ ?_
        clear hK K
        refine wpAnyIn_done (by kernel_rfl) ?_ _
        exact HFin.out
      · go_simp
        gi_wp2_with (refine ⟨trivial, rfl, ?_⟩; gi_at_call 11; refine (CallsIn.inRound l (HFm.out _)).mono ?_; rintro e w1 ⟨u, rfl, ho1, hb1⟩; have HB1 := hide hb1; have HU := hide ((WtB.of ho1).mono (n₁ := w.heap.size) (by first | omega | (simp; omega))); obtain ⟨pu, cu, rfl, _⟩ := WtB.of ho1; have cB1 := (hb1.cell (p := ⟨w.heap.size, 0, none⟩) hX).trans cB0; have cB2 := ((hb1.alloc hb1.size (.cells #[.string fn, .int .i64 fl, .int .i64 fm, .slice pu fw.size cu] 27)).cell (p := ⟨w.heap.size, 0, none⟩) hX).trans cB0; clear ho1 hb1)
        refine wpAnyIn_ready (rs := [0, 3]) (by kernel_rfl) (by simp) ?_
        refine readyIn (o := _) rfl rfl (fun K hK => ?_) (readyIn (o := _) rfl rfl (fun K hK => ?_) AllReadyIn.nil)
        · go_simp
          refine hK _ _ ?_
          clear hK K
          refine wpAnyIn_ready (rs := [3]) (by kernel_rfl) (by simp) ?_
          refine readyIn (o := _) rfl rfl (fun K hK => ?_) AllReadyIn.nil
          go_simp
          refine hK _ _ ?_
          clear hK K
          refine wpAnyIn_ready (rs := [4]) (by kernel_rfl) (by simp) ?_
          refine readyIn (o := _) rfl rfl (fun K hK => ?_) AllReadyIn.nil
          refine wpIn_append_at _ _ _ 22 rfl w.heap.size 27 fmI (.agg #[.string ⟨#[]⟩, .int .i64 0, .int .i64 0, .slice none 0 0]) 4 56 fms_under fmI_info fmI_zero fmI_size fmI_bytes rfl (by decide) v G.length (G.flatMap fvC) rfl (HOwn.out _ (HB1.out.alloc HB1.out.size _)) ⟨w1.heap.size, 0, none⟩ 1 1 [.string fn, .int .i64 fl, .int .i64 fm, .slice pu fw.size cu] rfl rfl (fun j u hj => cells_new w1 _ _ j u hj) (by simp [Value.oneCell']) (by unfold maxLen; omega) (by omega) (by have := HB1.out.size; simp at this ⊢; omega) ?_
          intro v' wa hown' hgrow hwhere
          obtain ⟨g', cap', rfl⟩ := ownsRow_succ hown'
          have HOX := hide hown'
          have HGX := hide hgrow
          have HFin := hide (frow_fin (m := W0.heap.size) (x := ⟨fn, fl, fm, fw⟩) (Nat.le_refl _) HV.out HRow.out HWt.out HG.out ((Below.refl _ X).drew.trans (HB1.out.mono (Nat.le_refl _))) HU.out HOX.out HGX.out hwhere HBX.out)
          have hvb : Boxed wa w.heap.size 22 v := HBxd.out _ _ HB1.out HGX.out
          have q0 := hvb.cell
          have qf := hvb.frozen
          clear hown' hgrow hwhere hvb
          refine hK _ _ ?_
          clear hK K
          refine wpAnyIn_ready (rs := [5]) (by kernel_rfl) (by simp) ?_
          refine readyIn (o := _) rfl rfl (fun K hK => ?_) AllReadyIn.nil
          go_simp
          refine hK _ _ ?_
          clear hK K
          refine wpAnyIn_done (by kernel_rfl) ?_ _
          exact HFin.out
        · go_simp
          refine hK _ _ ?_
          clear hK K
          refine wpAnyIn_ready (rs := [0]) (by kernel_rfl) (by simp) ?_
          refine readyIn (o := _) rfl rfl (fun K hK => ?_) AllReadyIn.nil
          go_simp
          refine hK _ _ ?_
          clear hK K
          refine wpAnyIn_ready (rs := [4]) (by kernel_rfl) (by simp) ?_
          refine readyIn (o := _) rfl rfl (fun K hK => ?_) AllReadyIn.nil
          refine wpIn_append_at _ _ _ 22 rfl w.heap.size 27 fmI (.agg #[.string ⟨#[]⟩, .int .i64 0, .int .i64 0, .slice none 0 0]) 4 56 fms_under fmI_info fmI_zero fmI_size fmI_bytes rfl (by decide) v G.length (G.flatMap fvC) rfl (HOwn.out _ (HB1.out.alloc HB1.out.size _)) ⟨w1.heap.size, 0, none⟩ 1 1 [.string fn, .int .i64 fl, .int .i64 fm, .slice pu fw.size cu] rfl rfl (fun j u hj => cells_new w1 _ _ j u hj) (by simp [Value.oneCell']) (by unfold maxLen; omega) (by omega) (by have := HB1.out.size; simp at this ⊢; omega) ?_
          intro v' wa hown' hgrow hwhere
          obtain ⟨g', cap', rfl⟩ := ownsRow_succ hown'
          have HOX := hide hown'
          have HGX := hide hgrow
          have HFin := hide (frow_fin (m := W0.heap.size) (x := ⟨fn, fl, fm, fw⟩) (Nat.le_refl _) HV.out HRow.out HWt.out HG.out ((Below.refl _ X).drew.trans (HB1.out.mono (Nat.le_refl _))) HU.out HOX.out HGX.out hwhere HBX.out)
          have hvb : Boxed wa w.heap.size 22 v := HBxd.out _ _ HB1.out HGX.out
          have q0 := hvb.cell
          have qf := hvb.frozen
          clear hown' hgrow hwhere hvb
          refine hK _ _ ?_
          clear hK K
          refine wpAnyIn_ready (rs := [5]) (by kernel_rfl) (by simp) ?_
          refine readyIn (o := _) rfl rfl (fun K hK => ?_) AllReadyIn.nil
          go_simp
          refine hK _ _ ?_
          clear hK K
          refine wpAnyIn_done (by kernel_rfl) ?_ _
          exact HFin.out
  case done =>
    rintro D xs X hD rfl ⟨⟨v, G, hG, hv, hrow, hwt⟩, hbX⟩ hd
    have hGl : G.length = 86 := by rw [← fns_len, ← hG, List.length_map]
    obtain ⟨g, cap, cur, rfl, hn0, hgb, hc1, hc2, _⟩ : ∃ g cap cur, v = .slice (some ⟨g, 0, none⟩) G.length cap ∧ w.heap.size ≤ g ∧ X.heap[g]? = some (.cells cur 27 (0, 0)) ∧ G.length ≤ cap ∧ cap ≤ maxLen ∧ True := by
      rcases hrow.2 with ⟨_, hn⟩ | ⟨g, cap, cur, e, h1, h2, h3, h4, _⟩
      · omega
      · exact ⟨g, cap, cur, e, h1, h2, h3, h4, trivial⟩
    have hgX : g < X.heap.size := (Array.getElem?_eq_some_iff.1 hgb).1
    have hgB : g ≠ w.heap.size := fun e => by
      subst e
      rw [show X.heap[w.heap.size]? = _ from hv] at hgb
      simp at hgb
    have hgD : g ≠ D := fun e => by
      subst e
      rw [hd] at hgb
      cases hgb
    have HSo := hide (sortBy_any G (fun x hx => (hwt x hx).one) g cap X hgX (by omega) (holds_owns hrow))
    have c0 := hv.cell
    have HV := hide hv
    have HWt := hide hwt
    have HBX := hide hbX
    have HG := hide hG
    have HD := hide hd
    have HGB := hide hgb
    have HGl := hide hGl
    clear hv hrow hwt hbX hG hd hgb hGl
    gi_wp2_with (refine ⟨trivial, rfl, ?_⟩; gi_at_call 12; refine (callsIn_wide.2 HSo.out).mono ?_; rintro e w2 ⟨rfl, d, hp, hs, hh, hgr⟩; have c2 := hgr.cell c0 (by simp; omega); have HP := hide hp; have HS := hide hs; have HH := hide hh; have HGR := hide hgr; clear hp hs hh hgr)
    have hd2 : w2.heap[D]? = some (.deferred (some [])) := (HGR.out.block D (Array.getElem?_eq_some_iff.1 HD.out).1 (fun e => by cases e; exact hgD rfl)).trans HD.out
    have hdl : d.toList.length = G.length := by have := HP.out.length_eq; simpa using this
    refine leave_one hd2 ⟨_, all_ret rfl, g, cap, d.toList.map (fun i => G.getD i zfv), by show Ending.returned (Value.slice _ G.length cap) = _; rw [HGl.out], by have := HGl.out; omega, hc2, ?_, ?_, ?_, hn0, ?_, ?_⟩
    · rw [List.map_map]
      refine (HP.out.map _).trans ?_
      rw [← HG.out, range_map]
    · intro i j x y hij hx hy
      have hj : j < d.toList.length := by simpa using (List.getElem?_eq_some_iff.1 hy).1
      have hi : i < d.toList.length := by omega
      rw [List.getElem?_map, List.getElem?_eq_getElem hi] at hx
      rw [List.getElem?_map, List.getElem?_eq_getElem hj] at hy
      obtain rfl := Option.some.inj hx
      obtain rfl := Option.some.inj hy
      have := HS.out i j hij (by rw [← hdl]; exact hj)
      simp only [Array.length_toList] at hi hj
      rw [getElem!_pos d j hj, getElem!_pos d i hi] at this
      simpa [nmF] using this
    · refine ⟨fun i x hx j hj => ?_, fun x hx => ?_⟩
      · have hi : i < d.toList.length := by simpa using (List.getElem?_eq_some_iff.1 hx).1
        rw [List.getElem?_map, List.getElem?_eq_getElem hi] at hx
        obtain rfl := Option.some.inj hx
        simp only [Array.length_toList] at hi
        have hc := (HH.out.cell hi (c := j) hj).1
        rw [World.cell?_of_block (w := w2) (a := ⟨g, i * 4 + j, none⟩) (World.putObj_heap_other hgD)]
        rw [Nat.zero_add, getElem!_pos d i hi] at hc
        rw [hc]
        unfold encF
        have h4 : j < (fvC (G.getD d[i] zfv)).length := by simp [fvC]; omega
        show _ = (fvC (G.getD d.toList[i] zfv))[j]?
        rw [Array.getElem_toList, List.getElem?_eq_getElem h4, getElem!_pos _ j h4]
      · obtain ⟨i, hi, rfl⟩ := List.mem_map.1 hx
        have hi2 : i < G.length := by simpa using HP.out.subset hi
        have hm : G.getD i zfv ∈ G := by
          rw [List.getD_eq_getElem?_getD, List.getElem?_eq_getElem hi2]
          exact List.getElem_mem hi2
        refine ((HWt.out _ hm).kept (fun b cs hc => HGR.out.block b (Array.getElem?_eq_some_iff.1 hc).1 (fun e => ?_))).kept (fun b cs hc => World.putObj_heap_other (fun e => ?_))
        · cases e
          rw [HGB.out] at hc
          simp at hc
        · subst e
          rw [hd2] at hc
          cases hc
    · have := HGR.out.size
      simp
      omega
    · exact put_below (HBX.out.grown HGR.out HBX.out.size (fun k e => by cases e; exact hn0)) (by omega)
  case stop =>
    rintro D c pre X _ _ h _
    exact h.elim
end Go.Proofs.YtklldmidcmfbdaaGreatDoor
