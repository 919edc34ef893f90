/-
  A round of a range over a function whose body may panic, at any of its regions; and a law of the statement for such loops.
-/
import Derived.Test.YthooimaadgabiabDoorCdR
namespace Go.Proofs.YthooimaadgabiabDoor
open Go.RowKit

/-- How a piece of a round's body is left; where it panics, the activation stands at a region. -/
def ArrQ (P : Program) (m : Machine) (b : Frame) (k : List Item) (cs : List Frame) : Exit → Act → World → Prop
  | .normal, a, w => Steps P m (lone (b.atR a k) cs w)
  | .exit id, a, w => ∀ k', exitTo id k = some k' → Steps P m (lone (b.atR a k') cs w)
  | .panic chain, a, w => ∃ ops l k', Steps P m (lone { b.atR a (.inRegion ops l :: k') with mode := .panicking chain } cs w)
  | _, _, _ => False
theorem ArrQ.of_steps {P : Program} {m m₁ : Machine} {b : Frame} {k : List Item} {cs : List Frame} {e : Exit} {a : Act} {w : World} (h : Steps P m m₁) (h' : ArrQ P m₁ b k cs e a w) : ArrQ P m b k cs e a w := by
  cases e with
  | normal => exact Steps.trans h h'
  | exit id => exact fun k' hk => Steps.trans h (h' k' hk)
  | panic chain => obtain ⟨o, l, k', h'⟩ := h'; exact ⟨o, l, k', Steps.trans h h'⟩
  | goto l => exact h'
  | ret => exact h'
  | outgrown => exact h'
theorem ArrQ.pass {P : Program} {m : Machine} {b : Frame} {x : Item} {k : List Item} {cs : List Frame} {e : Exit} {a : Act} {w : World} (hx : x.plain = true) (hn : e ≠ .normal) (h : ArrQ P m b (x :: k) cs e a w) : ArrQ P m b k cs e a w := by
  cases e with
  | normal => exact absurd rfl hn
  | exit id => exact fun k' hk => h k' (by rw [exitTo_plain hx]; exact hk)
  | panic chain => exact h
  | goto l => exact h
  | ret => exact h
  | outgrown => exact h
def _root_.Go.Code.wpQ (c : Code) (l : Nat) (P : Program) (Q : Exit → Act → World → Prop) (a : Act) (w : World) : Prop :=
  ∀ (b : Frame) (k : List Item) (cs : List Frame), b.roundOf = some l → ∃ e a' w', Q e a' w' ∧ ArrQ P (lone (b.atR a (.code c :: k)) cs w) b k cs e a' w'
section
variable {P : Program} {l : Nat} {Q : Exit → Act → World → Prop} {a : Act} {w : World}
theorem wpQ_mono {c : Code} {Q' : Exit → Act → World → Prop} (h : c.wpQ l P Q a w) (hq : ∀ e a w, Q e a w → Q' e a w) : c.wpQ l P Q' a w :=
  fun b k cs hb => let ⟨e, a', w', q, r⟩ := h b k cs hb; ⟨e, a', w', hq _ _ _ q, r⟩
theorem wpQ_skip (h : Q .normal a w) : Code.skip.wpQ l P Q a w := fun _ _ _ _ => ⟨.normal, a, w, h, .one stepR_skip⟩
theorem wpQ_exit {id : Nat} (h : Q (.exit id) a w) : (Code.exit id).wpQ l P Q a w := fun _ _ _ _ => ⟨.exit id, a, w, h, fun _ hk => .one (stepR_exit hk)⟩
theorem wpQ_cond {c : Operand} {x y : Code} {t : Bool} (hc : a.eval c = .bool t) (h : (if t then x else y).wpQ l P Q a w) : (Code.cond c x y).wpQ l P Q a w :=
  fun b k cs hb => let ⟨e, a', w', q, r⟩ := h b k cs hb; ⟨e, a', w', q, .of_steps (.one (stepR_cond hc)) r⟩
theorem wpQ_seq {x y : Code} (h : x.wpQ l P (Exit.then (y.wpQ l P Q) Q) a w) : (Code.seq x y).wpQ l P Q a w := by
  intro b k cs hb
  obtain ⟨e, a₁, w₁, hq, harr⟩ := h b (.code y :: k) cs hb
  by_cases he : e = .normal
  · subst he
    obtain ⟨e₂, a₂, w₂, hq₂, harr₂⟩ := hq b k cs hb
    exact ⟨e₂, a₂, w₂, hq₂, .of_steps (Steps.trans (.one stepR_seq) harr) harr₂⟩
  · refine ⟨e, a₁, w₁, ?_, .of_steps (.one stepR_seq) (.pass (x := .code y) rfl he harr)⟩
    cases e <;> first | exact hq | exact absurd rfl he
theorem wpQ_block {id : Nat} {c : Code} (h : c.wpQ l P (fun e a w => match e with | .exit id' => if id' = id then Q .normal a w else Q e a w | _ => Q e a w) a w) : (Code.block id c).wpQ l P Q a w := by
  intro b k cs hb
  obtain ⟨e, a₁, w₁, hq, harr⟩ := h b (.inBlock id :: k) cs hb
  cases e with
  | normal => exact ⟨.normal, a₁, w₁, hq, Steps.trans (.one stepR_block) (Steps.trans harr (.one stepR_inBlock))⟩
  | exit id' =>
    by_cases hid : id' = id
    · subst hid
      simp only [if_true] at hq
      exact ⟨.normal, a₁, w₁, hq, Steps.trans (.one stepR_block) (harr k (by simp [exitTo]))⟩
    · simp only [if_neg hid] at hq
      exact ⟨.exit id', a₁, w₁, hq, fun k' hk => Steps.trans (.one stepR_block) (harr k' (by simp [exitTo, Ne.symm hid]; exact hk))⟩
  | panic ch => exact ⟨.panic ch, a₁, w₁, hq, .of_steps (.one stepR_block) harr⟩
  | goto t => exact harr.elim
  | ret => exact harr.elim
  | outgrown => exact harr.elim
theorem wpQ_region {id : Nat} {ol : List Oper} (hnd : ∀ (i : Nat) (o : Oper), ol.toArray[i]? = some o → ∀ c, o.op ≠ .defer c) (h : wpList P ol.toArray (onlyNP Q) ol a w) : (Code.region id ol.toArray false).wpQ l P Q a w := by
  intro b k cs hb
  have h' : wpOps P ol.toArray (onlyNP Q) (List.range ol.toArray.size) a w := by
    rw [List.range_eq_range', List.size_toArray, wpOps_eq_wpList ol 0 (by simp)]; exact h
  obtain ⟨e, a', w', hq, harr⟩ := wp_opsO hnd _ a w h' b k cs
  cases e with
  | normal => exact ⟨.normal, a', w', hq, Steps.trans (.one stepR_region) harr⟩
  | panic ch => obtain ⟨l', harr⟩ := harr; exact ⟨.panic ch, a', w', hq, _, _, _, Steps.trans (.one stepR_region) harr⟩
  | exit id => exact hq.elim
  | goto t => exact hq.elim
  | ret => exact hq.elim
  | outgrown => exact hq.elim
end
/-- What is asked where the body is left: the round is over, or it panicked. -/
def postC (P : Program) (l bid : Nat) (R : Ending → World → Prop) : Exit → Act → World → Prop
  | .normal, _, w => ∃ v w2, (Instr.endRound l none).run P w = .ok v w2 ∧ R (.returned v) w2
  | .exit id, _, w => id = bid ∧ ∃ v w2, (Instr.endRound l none).run P w = .ok v w2 ∧ R (.returned v) w2
  | .panic chain, a, w => a.defers = [] ∧ R (.panicked chain) w
  | _, _, _ => False
theorem round_body {P : Program} {l bid : Nat} {f : FuncId} {tmps : Array Value} {assign C : Code} {w : World} {R : Ending → World → Prop}
    (h : assign.wpIn (Fence.wide.inRound l) 0 P (Exit.then (fun a₁ w₁ => ∃ w₂, (Instr.beginRound l).run P w₁ = .ok () w₂ ∧ C.wpQ l P (postC P l bid R) a₁ w₂) (fun _ _ _ => False)) { tmps := tmps, defers := [] } w) :
    RoundIn Fence.wide 0 P l f tmps assign (Code.block bid C) w R := by
  refine ⟨trivial, fun c cs _ => ?_⟩
  let b : Frame := { (default : Frame) with fn := f, kind := .normal, roundOf := some l }
  have hb0 : Frame.round l f tmps assign (Code.block bid C) .normal = b.atR { tmps := tmps, defers := [] } [.code assign, .beginRound, .code (Code.block bid C)] := by
    simp [Frame.round, Frame.atR, b]
  rw [hb0]
  obtain ⟨e, a₁, w₁, hq, harr⟩ := h b [.beginRound, .code (Code.block bid C)] (c :: cs) rfl trivial (room_wide _)
  cases e with
  | normal =>
    obtain ⟨w₂, hbr, hbody⟩ := hq
    have s0 : Steps P _ _ := stepsIn_wide.1 harr
    have s1 : Steps P (lone (b.atR a₁ [.beginRound, .code (Code.block bid C)]) (c :: cs) w₁) (lone (b.atR a₁ [.code (Code.block bid C)]) (c :: cs) w₂) := .one (stepR_beginRound rfl hbr)
    have s2 : Steps P (lone (b.atR a₁ [.code (Code.block bid C)]) (c :: cs) w₂) (lone (b.atR a₁ [.code C, .inBlock bid]) (c :: cs) w₂) := .one stepR_block
    obtain ⟨e₂, a₂, w₃, hq₂, harr₂⟩ := hbody b [.inBlock bid] (c :: cs) rfl
    have s012 := Steps.trans s0 (Steps.trans s1 s2)
    cases e₂ with
    | normal =>
      obtain ⟨v, w5, hend, hR⟩ := hq₂
      have s3 : Steps P _ _ := harr₂
      exact ⟨.returned v, w5, hR, stepsIn_wide.2 (Steps.trans s012 (Steps.trans s3 (Steps.trans (.one stepR_inBlock) (.one (stepR_round_end rfl rfl hend)))))⟩
    | exit id =>
      obtain ⟨rfl, v, w5, hend, hR⟩ := hq₂
      have s3 : Steps P _ _ := harr₂ [] (by simp [exitTo])
      exact ⟨.returned v, w5, hR, stepsIn_wide.2 (Steps.trans s012 (Steps.trans s3 (.one (stepR_round_end rfl rfl hend))))⟩
    | panic chain =>
      obtain ⟨hd, hR⟩ := hq₂
      obtain ⟨o, l', k', s3⟩ := harr₂
      exact ⟨.panicked chain, w₃, hR, stepsIn_wide.2 (Steps.trans s012 (Steps.trans s3 (.one (step_region_panicked rfl hd rfl))))⟩
    | goto t => exact hq₂.elim
    | ret => exact hq₂.elim
    | outgrown => exact hq₂.elim
  | exit id => exact hq.elim
  | goto t => exact hq.elim
  | ret => exact hq.elim
  | panic c => exact hq.elim
  | outgrown => exact hq.elim
/-- How a round's body is left. -/
def postD {α : Type} (m bid : Nat) (ch : List PanicEntry) (I : List α → World → Prop) (Ip : World → Prop) (xs : List α) (W : World) : Exit → Act → World → Prop
  | .normal, _, W' => KeepsFrom m W W' ∧ I xs W'
  | .exit id, _, W' => id = bid ∧ KeepsFrom m W W' ∧ I xs W'
  | .panic c, a', W' => a'.defers = [] ∧ c = ch ∧ KeepsFrom m W W' ∧ Ip W'
  | _, _, _ => False
/-- The law of the statement, where a round may panic. -/
theorem rangeQ {α : Type} {P : Program} {g : Operand} {ps : Array Tmp} {assign C : Code} {bid : Nat} {Q : Exit → Act → World → Prop} {a : Act} {w : World} {gf : Nat} {lb : Array Value}
    (hg : a.eval g = .func (.func gf) #[] lb) (eg : ∀ args w, (callFunc gf args).run P w = .ok (.enter gf args) w)
    {encs : α → Array Value} {Good : List α → α → Prop} {Done Dead : List α → Prop} {ch : List PanicEntry} {It E : World → Prop} (hseq : SeqP P gf lb encs Good Done Dead ch It E) (hIt : ∀ W, Below w.heap.size w W → It W) (hps : ∀ x, (encs x).size = ps.size)
    (I : List α → World → Prop) (Ip : World → Prop) (hIE : ∀ pre W, I pre W → E W) (hIb : ∀ pre W W', I pre W → Below W.heap.size W W' → I pre W')
    (hIo : ∀ pre (W : World) (l : Nat) (o o' : Obj), I pre W → w.heap.size ≤ l → W.heap[l]? = some o → o.isCells = false → I pre (W.putObj l o')) (h0 : I [] w)
    (Ax : α → Act → World → Prop) (hAx : ∀ x a' (W : World) (l : Nat) (o o' : Obj), Ax x a' W → w.heap.size ≤ l → W.heap[l]? = some o → o.isCells = false → Ax x a' (W.putObj l o'))
    (hassign : ∀ (l : Nat) (pre : List α) (x : α) (W : World) (K : Act → World → Prop), I pre W → (∀ a' W', Below W.heap.size W W' → Ax x a' W' → K a' W') →
      assign.wpIn (Fence.wide.inRound l) 0 P (Exit.then K (fun _ _ _ => False)) { tmps := (ps.zip (encs x)).foldl (fun t (p, v) => t.setIfInBounds p v) a.tmps, defers := [] } W)
    (hbody : ∀ (l : Nat) (pre : List α) (x : α) (a' : Act) (W : World), Good pre x → I pre W → Ax x a' W → C.wpQ l P (postD w.heap.size bid ch I Ip (pre ++ [x]) W) a' W)
    (hdead : ∀ pre W, Dead pre → I pre W → Ip W)
    (hdone : ∀ (D : Nat) (xs : List α) (W : World), w.heap.size ≤ D → Done xs → I xs W → W.heap[D]? = some (.deferred (some [])) → Q .normal { a with defers := { target := .collected D, args := #[] } :: a.defers } W)
    (hpan : ∀ (D : Nat) (W : World), w.heap.size ≤ D → Ip W → W.heap[D]? = some (.deferred (some [])) → Q (.panic ch) { a with defers := { target := .collected D, args := #[] } :: a.defers } W) :
    (Code.rangeFunc g ps assign (Code.block bid C)).wpIn Fence.wide 0 P Q a w := by
  refine wpIn_rangeFunc fun fn hfn => ?_
  obtain ⟨rc, hrc⟩ : ∃ rc : LoopState → Option Code → Loop, ∀ s p, rc s p = { state := s, pending := p, fn := fn, tmps := a.tmps, params := ps, assign := assign, body := Code.block bid C, defers := w.heap.size } := ⟨fun s p => _, fun _ _ => rfl⟩
  have hbusy : { rc .ready none with state := .busy } = rc .busy none := by rw [hrc, hrc]
  have hend : { rc .busy none with state := .ready, pending := none } = rc .ready none := by rw [hrc, hrc]
  generalize hW1 : (w.alloc (.deferred (some []))).alloc (.loop (rc .ready none)) = W1
  have z1 : W1.heap.size = w.heap.size + 2 := by rw [← hW1]; simp
  have r1 : W1.heap[w.heap.size + 1]? = some (.loop (rc .ready none)) := by
    rw [← hW1, show w.heap.size + 1 = (w.alloc (.deferred (some []))).heap.size by simp]
    exact World.alloc_heap_new _ _
  have d1 : W1.heap[w.heap.size]? = some (.deferred (some [])) := by
    rw [← hW1, Below.heap_alloc _ _ _ (by simp)]
    exact World.alloc_heap_new w _
  have b1 : Below w.heap.size w W1 := by rw [← hW1]; exact ((Below.refl _ w).alloc (Nat.le_refl _) _).alloc (by simp) _
  have i1 : I [] W1 := hIb [] w W1 h0 b1
  refine ⟨w.heap.size + 1, [{ target := .collected w.heap.size, args := #[] }], W1, { target := .fn (.func gf) lb, args := #[.func (.yield (w.heap.size + 1)) #[] #[]] }, W1, gf, #[.func (.yield (w.heap.size + 1)) #[] #[]] ++ lb, W1, ?_, ?_, fun _ _ => trivial, ?_, (fun h => (by cases h)), ?_⟩
  · rw [← hW1, hrc]; exact run_enterLoop_outer _ _ _ _ _
  · simp only [resolve, hg]; simp [go_sem]
  · simp [invoke, go_sem, eg]
  refine (hseq (w.heap.size + 1) (fun pre W => I pre W ∧ W.heap[w.heap.size + 1]? = some (.loop (rc .ready none)) ∧ W.heap[w.heap.size]? = some (.deferred (some [])))
    (fun W => Ip W ∧ W.heap[w.heap.size]? = some (.deferred (some []))) W1 (hIt W1 b1) (fun pre W h => hIE pre W h.1) ?_ ?_ ?_ ⟨i1, r1, d1⟩).mono ?_
  · rintro pre W W' ⟨h1, h2, h3⟩ hb
    exact ⟨hIb pre W W' h1 hb, (hb.block _ (Array.getElem?_eq_some_iff.1 h2).1).trans h2, (hb.block _ (Array.getElem?_eq_some_iff.1 h3).1).trans h3⟩
  · -- a round
    rintro pre x W hgood ⟨hi, hr, hd⟩
    have hy := run_yield (P := P) (args := encs x) hr (by rw [hrc]; exact hps x)
    rw [show (rc .ready none).fn = fn by rw [hrc], show (rc .ready none).tmps = a.tmps by rw [hrc], show (rc .ready none).params = ps by rw [hrc], show (rc .ready none).assign = assign by rw [hrc], show (rc .ready none).body = Code.block bid C by rw [hrc]] at hy
    refine ⟨_, _, _, _, hy, ?_⟩
    refine round_body (hassign _ pre x W _ hi ?_)
    clear hy
    intro a' Wa ka ax
    have ra := (ka.block _ (Array.getElem?_eq_some_iff.1 hr).1).trans hr
    have da := (ka.block _ (Array.getElem?_eq_some_iff.1 hd).1).trans hd
    have ia := hIb pre W Wa hi ka
    have hlt := (Array.getElem?_eq_some_iff.1 ra).1
    have hst : (rc .ready none).state = .ready := by rw [hrc]
    refine ⟨_, run_beginRound ra hst, ?_⟩
    rw [hbusy]
    generalize hWb : Wa.putObj (w.heap.size + 1) (.loop (rc .busy none)) = Wb
    have rb : Wb.heap[w.heap.size + 1]? = some (.loop (rc .busy none)) := by rw [← hWb]; exact World.putObj_heap_same hlt
    have db : Wb.heap[w.heap.size]? = some (.deferred (some [])) := by rw [← hWb, World.putObj_heap_other (by omega)]; exact da
    have ib : I pre Wb := by rw [← hWb]; exact hIo pre Wa _ _ _ ia (by omega) ra rfl
    have xb : Ax x a' Wb := by rw [← hWb]; exact hAx x a' Wa _ _ _ ax (by omega) ra rfl
    have fin : ∀ (Wc : World), KeepsFrom w.heap.size Wb Wc → I (pre ++ [x]) Wc → ∃ v w2, (Instr.endRound (w.heap.size + 1) none).run P Wc = .ok v w2 ∧ ((Ending.returned v = Ending.returned (.bool true) ∧ I (pre ++ [x]) w2 ∧ w2.heap[w.heap.size + 1]? = some (.loop (rc .ready none)) ∧ w2.heap[w.heap.size]? = some (.deferred (some []))) ∨ (Ending.returned v = Ending.panicked ch ∧ Ip w2 ∧ w2.heap[w.heap.size]? = some (.deferred (some [])))) := by
      intro Wc hc hi
      have rC := hc.same _ _ (by omega) rb rfl
      have dC := hc.same _ _ (by omega) db rfl
      have he := run_endRound (P := P) none rC
      simp only [Option.isNone_none, if_true] at he
      rw [hend] at he
      exact ⟨_, _, he, .inl ⟨rfl, hIo _ Wc _ _ _ hi (by omega) rC rfl, World.putObj_heap_same (Array.getElem?_eq_some_iff.1 rC).1, (World.putObj_heap_other (by omega)).trans dC⟩⟩
    refine wpQ_mono (hbody _ pre x a' Wb hgood ib xb) ?_
    rintro e a3 Wc hp
    cases e with
    | normal => exact fin Wc hp.1 hp.2
    | exit id =>
      obtain ⟨rfl, h1, h2⟩ := hp
      exact ⟨rfl, fin Wc h1 h2⟩
    | panic c =>
      obtain ⟨h1, rfl, h3, h4⟩ := hp
      exact ⟨h1, .inr ⟨rfl, h4, h3.same _ _ (by omega) db rfl⟩⟩
    | goto t => exact hp.elim
    | ret => exact hp.elim
    | outgrown => exact hp.elim
  · rintro pre W hd ⟨h1, _, h3⟩
    exact ⟨hdead pre W hd h1, h3⟩
  · -- behind the iterator
    rintro e W2 (⟨⟨v, rfl⟩, xs, hS, hi, hr, hd⟩ | ⟨rfl, hp, hd⟩)
    · have he := run_endLoop (P := P) hr (by rw [hrc]; simp)
      rw [show (rc .ready none).pending = none by rw [hrc]] at he
      exact ⟨none, _, he, hdone w.heap.size xs _ (Nat.le_refl _) hS (hIo xs W2 _ _ _ hi (by omega) hr rfl) ((World.putObj_heap_other (by omega)).trans hd)⟩
    · exact hpan w.heap.size W2 (Nat.le_refl _) hp hd
end Go.Proofs.YthooimaadgabiabDoor
