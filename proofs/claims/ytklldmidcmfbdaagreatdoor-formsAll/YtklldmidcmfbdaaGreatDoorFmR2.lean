/-
  The law of FmR once more: a round is told that what it is handed goes on with what is to come (made by seqsgen.py).
-/
import Derived.Test.YtklldmidcmfbdaaGreatDoorFmR
namespace Go.Proofs.YtklldmidcmfbdaaGreatDoor
open Go.RowKit Go.Shelf

/-- An iterator's contract: it turns cells of its own (X) alone; what it asks of the world where it begins: It; Kp, and all that is no cells and lies behind its beginning: what a round keeps. -/
def SeqS {α : Type} (n₀ B : Nat) (X : Nat → Prop) (P : Program) (g : Nat) (lb : Array Value) (encs : α → Array Value) (S Sp : List α → Prop) (N : Nat) (It : World → Prop) : Prop :=
  ∀ (l : Nat) (J Jx : List α → World → Prop) (W : World), It W → Ab B X W.heap.size J → Ab B X W.heap.size Jx →
    (∀ pre x W1, J pre W1 → pre.length < N ∧ Sp (pre ++ [x]) → YieldAt Fence.wide 0 P l (encs x) W1 fun e W' =>
      (e = .returned (.bool true) ∧ J (pre ++ [x]) W' ∧ KpR n₀ B W1 W' ∧ KeepsFrom W.heap.size W1 W') ∨ (e = .returned (.bool false) ∧ Jx (pre ++ [x]) W' ∧ KeepsFrom W.heap.size W1 W')) →
    J [] W →
    CallsIn Fence.wide 0 P g (#[.func (.yield l) #[] #[]] ++ lb) W fun e W' => (∃ v, e = .returned v) ∧ ((∃ xs, S xs ∧ J xs W') ∨ (∃ pre, Sp pre ∧ Jx pre W'))
/-- The law of the statement. -/
theorem rangeS {α : Type} {P : Program} {g : Operand} {ps : Array Tmp} {assign body : Code} {Q : Exit → Act → World → Prop} {a : Act} {w : World} {gf : Nat} {lb : Array Value}
    (hg : a.eval g = .func (.func gf) #[] lb) (eg : ∀ args w, (callFunc gf args).run P w = .ok (.enter gf args) w)
    {encs : α → Array Value} {S Sp : List α → Prop} {N n₀ B : Nat} {X : Nat → Prop} {It : World → Prop} (hseq : SeqS n₀ B X P gf lb encs S Sp N It) (hIt : ∀ W, Below w.heap.size w W → It W) (hps : ∀ x, (encs x).size = ps.size)
    (hn : n₀ ≤ w.heap.size) (hB : B < w.heap.size) (hX : ∀ r, X r → r < w.heap.size)
    (I : List α → World → Prop) (Ix : Code → List α → World → Prop) (hI : Ab B X w.heap.size I) (hIx : ∀ c, Ab B X w.heap.size (Ix c)) (h0 : I [] w)
    (Ax : α → Act → World → Prop) (hAx : ∀ x a', OwnFrom w.heap.size (fun (_ : Unit) W => Ax x a' W))
    (hassign : ∀ (l : Nat) (pre : List α) (x : α) (W : World) (K : Act → World → Prop), I pre W → (∀ a' W', KeepsFrom w.heap.size W W' → KpR n₀ B W W' → I pre W' → Ax x a' W' → K a' W') →
      assign.wpIn (Fence.wide.inRound l) 0 P (Exit.then K (fun _ _ _ => False)) { tmps := (ps.zip (encs x)).foldl (fun t (p, v) => t.setIfInBounds p v) a.tmps, defers := [] } W)
    (hbody : ∀ (l : Nat) (pre : List α) (x : α) (a' : Act) (W : World), w.heap.size ≤ l → (∃ r, W.heap[l]? = some (.loop r)) → I pre W → Ax x a' W → pre.length < N ∧ Sp (pre ++ [x]) → body.wpIn (Fence.wide.inRound l) 0 P (postR n₀ B w.heap.size I Ix (pre ++ [x]) W) a' W)
    (hdone : ∀ (D : Nat) (xs : List α) (W : World), w.heap.size ≤ D → S xs → I xs W → W.heap[D]? = some (.deferred (some [])) → Q .normal { a with defers := { target := .collected D, args := #[] } :: a.defers } W)
    (hstop : ∀ (D : Nat) (c : Code) (pre : List α) (W : World), w.heap.size ≤ D → Sp pre → Ix c pre W → W.heap[D]? = some (.deferred (some [])) → c.wpIn Fence.wide 0 P Q { a with defers := { target := .collected D, args := #[] } :: a.defers } W) :
    (Code.rangeFunc g ps assign body).wpIn Fence.wide 0 P Q a w := by
  refine wpIn_rangeFunc fun fn hfn => ?_
  -- the record, by its state and its pending jump
  obtain ⟨rc, hrc⟩ : ∃ rc : LoopState → Option Code → Loop, ∀ s p, rc s p = { state := s, pending := p, fn := fn, tmps := a.tmps, params := ps, assign := assign, body := body, defers := w.heap.size } := ⟨fun s p => _, fun _ _ => rfl⟩
  have hbusy : { rc .ready none with state := .busy } = rc .busy none := by rw [hrc, hrc]
  have hend : ∀ j : Option Code, { rc .busy none with state := if j.isNone then .ready else .done, pending := j } = rc (if j.isNone then .ready else .done) j := fun j => by rw [hrc, hrc]
  generalize hW1 : (w.alloc (.deferred (some []))).alloc (.loop (rc .ready none)) = W1
  have z1 : W1.heap.size = w.heap.size + 2 := by rw [← hW1]; simp
  have r1 : W1.heap[w.heap.size + 1]? = some (.loop (rc .ready none)) := by
    rw [← hW1, show w.heap.size + 1 = (w.alloc (.deferred (some []))).heap.size by simp]
    exact World.alloc_heap_new _ _
  have d1 : W1.heap[w.heap.size]? = some (.deferred (some [])) := by
    rw [← hW1, Below.heap_alloc _ _ _ (by simp)]
    exact World.alloc_heap_new w _
  have i1 : I [] W1 := by rw [← hW1]; exact hI.alloc _ (hI.alloc _ h0)
  have b1 : Below w.heap.size w W1 := by rw [← hW1]; exact ((Below.refl _ w).alloc (Nat.le_refl _) _).alloc (by simp) _
  -- what holds between two rounds, and behind a round that has left
  have abJ : ∀ {K : List α → World → Prop} (st : LoopState) (pe : Option Code), Ab B X w.heap.size K → Ab B X W1.heap.size (fun pre W => K pre W ∧ W.heap[w.heap.size + 1]? = some (.loop (rc st pe)) ∧ W.heap[w.heap.size]? = some (.deferred (some []))) := by
    intro K st pe hK s U U' row hs hgr hr
    have hne : ∀ k, w.heap.size ≤ k → k < W1.heap.size → some k ≠ row := fun k h1 h2 e => by
      rcases (hr k e.symm).1 with h | h
      · have := hX k h; omega
      · omega
    refine ⟨hK s U U' row hs.1 hgr (fun r e => ⟨(hr r e).1.imp id (fun h => by omega), (hr r e).2⟩), ?_, ?_⟩
    · exact (hgr.block _ (Array.getElem?_eq_some_iff.1 hs.2.1).1 (hne _ (by omega) (by omega))).trans hs.2.1
    · exact (hgr.block _ (Array.getElem?_eq_some_iff.1 hs.2.2).1 (hne _ (by omega) (by omega))).trans hs.2.2
  refine ⟨w.heap.size + 1, [{ target := .collected w.heap.size, args := #[] }], W1, { target := .fn (.func gf) lb, args := #[.func (.yield (w.heap.size + 1)) #[] #[]] }, W1, gf, #[.func (.yield (w.heap.size + 1)) #[] #[]] ++ lb, W1, ?_, ?_, fun _ _ => trivial, ?_, (fun h => (by cases h)), ?_⟩
  · rw [← hW1, hrc]; exact run_enterLoop_outer _ _ _ _ _
  · simp only [resolve, hg]; simp [go_sem]
  · simp [invoke, go_sem, eg]
  refine (hseq (w.heap.size + 1) _ (fun pre W => ∃ c, Ix c pre W ∧ W.heap[w.heap.size + 1]? = some (.loop (rc .done (some c))) ∧ W.heap[w.heap.size]? = some (.deferred (some []))) W1 (hIt W1 b1) (abJ .ready none hI)
    (fun s U U' row hs hgr hr => by obtain ⟨c, hs⟩ := hs; exact ⟨c, abJ .done (some c) (hIx c) s U U' row hs hgr hr⟩) ?_ ⟨i1, r1, d1⟩).mono ?_
  · -- a round
    rintro pre x W ⟨hi, hr, hd⟩ hlen
    have hy := run_yield (P := P) (args := encs x) hr (by rw [hrc]; exact hps x)
    rw [show (rc .ready none).fn = fn by rw [hrc], show (rc .ready none).tmps = a.tmps by rw [hrc], show (rc .ready none).params = ps by rw [hrc], show (rc .ready none).assign = assign by rw [hrc], show (rc .ready none).body = body by rw [hrc]] at hy
    refine ⟨_, _, _, _, hy, ?_⟩
    refine roundIn_of_wpIn hfn (hassign _ pre x W _ hi ?_)
    clear hy
    intro a' Wa ka kpa ia ax
    have ra := ka.same _ _ (by omega) hr rfl
    have da := ka.same _ _ (by omega) hd rfl
    have hlt := (Array.getElem?_eq_some_iff.1 ra).1
    have hst : (rc .ready none).state = .ready := by rw [hrc]
    refine ⟨_, run_beginRound ra hst, ?_⟩
    rw [hbusy]
    generalize hWb : Wa.putObj (w.heap.size + 1) (.loop (rc .busy none)) = Wb
    have rb : Wb.heap[w.heap.size + 1]? = some (.loop (rc .busy none)) := by rw [← hWb]; exact World.putObj_heap_same hlt
    have db : Wb.heap[w.heap.size]? = some (.deferred (some [])) := by rw [← hWb, World.putObj_heap_other (by omega)]; exact da
    have ib : I pre Wb := by rw [← hWb]; exact hI.putObj _ ia (by omega) ra rfl
    have xb : Ax x a' Wb := by rw [← hWb]; exact (hAx x a').putObj (s := ()) _ ax (by omega) ra rfl
    have kpb : KpR n₀ B W Wb := kpa.trans (by rw [← hWb]; exact KpR.put Wa _ _ _ (by omega) (by omega) ra rfl)
    have kb : KeepsFrom W1.heap.size W Wb := ⟨by rw [← hWb]; simpa using ka.size, fun k o hk h1 h2 => by rw [← hWb, World.putObj_heap_other (by omega)]; exact ka.same k o (by omega) h1 h2⟩
    refine wpIn_mono (hbody _ pre x a' Wb (by omega) ⟨_, rb⟩ ib xb hlen) ?_
    have fin : ∀ (j : Option Code) (Wc : World), KeepsFrom w.heap.size Wb Wc →
        (Instr.endRound (w.heap.size + 1) j).run P Wc = .ok (.bool j.isNone) (Wc.putObj (w.heap.size + 1) (.loop (rc (if j.isNone then .ready else .done) j))) ∧
        Wc.heap[w.heap.size + 1]? = some (.loop (rc .busy none)) ∧
        (Wc.putObj (w.heap.size + 1) (.loop (rc (if j.isNone then .ready else .done) j))).heap[w.heap.size + 1]? = some (.loop (rc (if j.isNone then .ready else .done) j)) ∧
        (Wc.putObj (w.heap.size + 1) (.loop (rc (if j.isNone then .ready else .done) j))).heap[w.heap.size]? = some (.deferred (some [])) ∧
        KeepsFrom W1.heap.size W (Wc.putObj (w.heap.size + 1) (.loop (rc (if j.isNone then .ready else .done) j))) := by
      intro j Wc hc
      have rC := hc.same _ _ (by omega) rb rfl
      have dC := hc.same _ _ (by omega) db rfl
      have he := run_endRound (P := P) j rC
      rw [hend] at he
      refine ⟨he, rC, World.putObj_heap_same (Array.getElem?_eq_some_iff.1 rC).1, (World.putObj_heap_other (by omega)).trans dC, ⟨?_, fun k o hk h1 h2 => ?_⟩⟩
      · have := kb.size; have := hc.size; simp; omega
      · rw [World.putObj_heap_other (by omega)]; exact hc.same k o (by omega) (kb.same k o hk h1 h2) h2
    rintro e a3 Wc hp
    cases e with
    | normal =>
      obtain ⟨hc, kpc, ic⟩ := hp
      obtain ⟨he, rC, rD, dD, kD⟩ := fin none Wc hc
      exact ⟨_, _, he, .inl ⟨rfl, ⟨hI.putObj _ ic (by omega) rC rfl, rD, dD⟩, (kpb.trans kpc).trans (KpR.put Wc _ _ _ (by omega) (by omega) rC rfl), kD⟩⟩
    | ret =>
      obtain ⟨hc, ic⟩ := hp
      obtain ⟨he, rC, rD, dD, kD⟩ := fin (some .ret) Wc hc
      exact ⟨_, _, he, .inr ⟨rfl, ⟨_, (hIx _).putObj _ ic (by omega) rC rfl, rD, dD⟩, kD⟩⟩
    | exit id =>
      obtain ⟨hc, ic⟩ := hp
      obtain ⟨he, rC, rD, dD, kD⟩ := fin (some (.exit id)) Wc hc
      exact ⟨_, _, he, .inr ⟨rfl, ⟨_, (hIx _).putObj _ ic (by omega) rC rfl, rD, dD⟩, kD⟩⟩
    | goto t =>
      obtain ⟨hc, ic⟩ := hp
      obtain ⟨he, rC, rD, dD, kD⟩ := fin (some (.goto t)) Wc hc
      exact ⟨_, _, he, .inr ⟨rfl, ⟨_, (hIx _).putObj _ ic (by omega) rC rfl, rD, dD⟩, kD⟩⟩
    | panic ch => exact hp.elim
    | outgrown => exact hp.elim
  · -- behind the iterator
    rintro e W2 ⟨⟨v, rfl⟩, (⟨xs, hS, hi, hr, hd⟩ | ⟨pre, hSp, c, hi, hr, hd⟩)⟩
    · have he := run_endLoop (P := P) hr (by rw [hrc]; simp)
      rw [show (rc .ready none).pending = none by rw [hrc]] at he
      exact ⟨none, _, he, hdone w.heap.size xs _ (Nat.le_refl _) hS (hI.putObj _ hi (by omega) hr rfl) ((World.putObj_heap_other (by omega)).trans hd)⟩
    · have he := run_endLoop (P := P) hr (by rw [hrc]; simp)
      rw [show (rc .done (some c)).pending = some c by rw [hrc]] at he
      exact ⟨some c, _, he, hstop w.heap.size c pre _ (Nat.le_refl _) hSp ((hIx c).putObj _ hi (by omega) hr rfl) ((World.putObj_heap_other (by omega)).trans hd)⟩
end Go.Proofs.YtklldmidcmfbdaaGreatDoor
