/-
  A round of a range over a function whose body may panic: its last statement alone, which is a region that draws its order; and a law of the statement for such loops.
-/
import Derived.Test.YtnhaapcpklfkpaaGreatDoorFmR
import Derived.Orders
namespace Go.Proofs.YtnhaapcpklfkpaaGreatDoor
open Go.RowKit

/-- How a region's operations come to their end, in whatever activation, a round's, too; where they panic, the activation stands at the region. -/
def ArrO (P : Program) (m : Machine) (b : Frame) (ops : Array Oper) (k : List Item) (cs : List Frame) : Exit → Act → World → Prop
  | .normal, a, w => Steps P m (lone (b.atR a k) cs w)
  | .panic chain, a, w => ∃ l, Steps P m (lone { b.atR a (.inRegion ops l :: k) with mode := .panicking chain } cs w)
  | _, _, _ => False
theorem ArrO.of_steps {P : Program} {m m₁ : Machine} {b : Frame} {ops : Array Oper} {k : List Item} {cs : List Frame} {e : Exit} {a : Act} {w : World} (h : Steps P m m₁) (h' : ArrO P m₁ b ops k cs e a w) : ArrO P m b ops k cs e a w := by
  cases e with
  | normal => exact Steps.trans h h'
  | panic chain => obtain ⟨l, h'⟩ := h'; exact ⟨l, Steps.trans h h'⟩
  | exit id => exact h'
  | goto l => exact h'
  | ret => exact h'
  | outgrown => exact h'
def onlyNP (Q : Exit → Act → World → Prop) : Exit → Act → World → Prop
  | .normal, a, w => Q .normal a w
  | .panic chain, a, w => Q (.panic chain) a w
  | _, _, _ => False
theorem wp_opsO {P : Program} {ops : Array Oper} {Q : Exit → Act → World → Prop} (hnd : ∀ (i : Nat) (o : Oper), ops[i]? = some o → ∀ c, o.op ≠ .defer c) (l : List Nat) :
    ∀ (a : Act) (w : World), wpOps P ops (onlyNP Q) l a w → ∀ (b : Frame) (k : List Item) (cs : List Frame),
      ∃ e a' w', onlyNP Q e a' w' ∧ ArrO P (lone (b.atR a (.inRegion ops l :: k)) cs w) b ops k cs e a' w' := by
  induction l with
  | nil => exact fun a w h b k cs => ⟨.normal, a, w, h, .one stepR_region_end⟩
  | cons i rest ih =>
    intro a w h b k cs
    simp only [wpOps] at h
    cases ho : ops[i]? with
    | none =>
      simp only [ho] at h
      obtain ⟨e, a', w', hq, harr⟩ := ih a w h b k cs
      have hs := stepR_op_skip (P := P) (b := b) (a := a) (k := k) (cs := cs) (w := w) (ops := ops) (i := i) (rest := rest) (by simp [ho])
      simp only [ho, Option.bind_none, Act.put] at hs
      exact ⟨e, a', w', hq, .of_steps (.one hs) harr⟩
    | some o =>
      simp only [ho] at h
      by_cases hw : Region.wanted o (yielded ops a.tmps) = true
      · simp only [hw, if_true] at h
        rcases h with h | ⟨_, a₀, w₀, hlo⟩
        case inr => exact hlo.elim
        unfold Oper.wp at h
        have hg := stepGR_op (P := P) (b := b) (k := k) (cs := cs) (w := w) (rest := rest) ho hw
        rw [Oper.semAt_eq _ _ _ (hnd i o ho)] at hg
        have hfin : ∀ v, (b.atR a (.inRegion ops (i :: rest) :: k)).finish v = b.atR (a.put o.dst v) (.inRegion ops rest :: k) := by
          intro v; rw [Frame.finish_atR, ho]; rfl
        simp only [Oper.upon] at h
        split at h
        · rename_i v w' hr'
          obtain ⟨e, a', w'', hq, harr⟩ := ih _ _ h b k cs
          refine ⟨e, a', w'', hq, .of_steps (.one (step_lone_go ?_)) harr⟩
          rw [hg, ← hfin]; simp [stepG.apply, hr']
        · rename_i w' hr'
          obtain ⟨e, a', w'', hq, harr⟩ := ih _ _ h b k cs
          refine ⟨e, a', w'', hq, .of_steps (.one (step_lone_go ?_)) harr⟩
          rw [hg, ← hfin]; simp [stepG.apply, hr']
        · rename_i d w' hr'
          obtain ⟨e, a', w'', hq, harr⟩ := ih _ _ h b k cs
          refine ⟨e, a', w'', hq, .of_steps (.one (step_lone_go ?_)) harr⟩
          have : ({ b.atR a (.inRegion ops (i :: rest) :: k) with defers := d :: a.defers } : Frame).finish undef =
              b.atR ({ a with defers := d :: a.defers }.put o.dst undef) (.inRegion ops rest :: k) := by
            have := Frame.finish_atR b { a with defers := d :: a.defers } ops i rest k undef
            rw [ho] at this; exact this
          rw [hg]; simp only [stepG.apply, Sem.runT_eq, hr', GStep.bare_after]
          exact congrArg (fun fr => GStep.go { frame := fr, callers := cs, status := .running, dying := none } w') this
        · rename_i f args w' hr'
          obtain ⟨e, w'', fr, hR, hsteps, hfn, hleave⟩ := h (b.atR a (.inRegion ops (i :: rest) :: k) :: cs)
          have henter : step P (lone (b.atR a (.inRegion ops (i :: rest) :: k)) cs w) =
              .next (lone (Frame.enter P f args .normal) (b.atR a (.inRegion ops (i :: rest) :: k) :: cs) w') :=
            step_lone_go (by rw [hg]; simp [stepG.apply, hr', Frame.atR])
          cases e with
          | returned v =>
            obtain ⟨e, a', w₃, hq, harr⟩ := ih _ _ hR b k cs
            refine ⟨e, a', w₃, hq, .of_steps (Steps.trans (.one henter) (Steps.trans hsteps (.one ?_))) harr⟩
            rw [← hfin]; exact step_leave_returned hleave
          | panicked chain =>
            refine ⟨.panic chain, a, w'', hR, i :: rest, Steps.trans (.one henter) (Steps.trans hsteps (.one ?_))⟩
            rw [← Frame.raise_atR]; exact step_leave_panicked hleave
          | outgrown =>
            obtain ⟨a₀, w₀, hq⟩ := hR
            exact hq.elim
        · rename_i row args w' hr'
          obtain ⟨v, w'', hR, hsteps⟩ := h (b.atR a (.inRegion ops (i :: rest) :: k)) cs
          have henter : step P (lone (b.atR a (.inRegion ops (i :: rest) :: k)) cs w) =
              .next (lone (Frame.ofRow P row args .normal) (b.atR a (.inRegion ops (i :: rest) :: k) :: cs) w') :=
            step_lone_go (by rw [hg]; simp [stepG.apply, hr', Frame.atR])
          obtain ⟨e, a', w₃, hq, harr⟩ := ih _ _ hR b k cs
          refine ⟨e, a', w₃, hq, .of_steps (Steps.trans (.one henter) ?_) harr⟩
          rw [← hfin]; exact hsteps
        · rename_i v w' hr'
          refine ⟨_, a, w', h, i :: rest, .one (step_lone_go ?_)⟩
          rw [hg, ← Frame.raise_atR]; simp [stepG.apply, hr']
        · exact h.elim
      · simp only [hw, if_false, Bool.false_eq_true] at h
        obtain ⟨e, a', w', hq, harr⟩ := ih _ _ h b k cs
        have hs := stepR_op_skip (P := P) (b := b) (a := a) (k := k) (cs := cs) (w := w) (ops := ops) (i := i) (rest := rest)
          (by simp [ho]; simpa using hw)
        simp only [ho, Option.bind_some] at hs
        exact ⟨e, a', w', hq, .of_steps (.one hs) harr⟩
/-- A frame that stands at a region, panicking, passes the panic up. -/
theorem step_region_panicked {P : Program} {fr c : Frame} {cs : List Frame} {w : World} {chain : List PanicEntry} {ops : Array Oper} {l : List Nat} {k : List Item}
    (hm : fr.mode = .panicking chain) (hd : fr.defers = []) (ht : fr.todo = .inRegion ops l :: k) : step P (lone fr (c :: cs) w) = .next (lone (c.raise chain) cs w) := by
  refine step_lone_go ?_
  have hc : fr.catches P = false := by
    unfold Frame.catches
    rw [ht]
    cases P.funcs[fr.fn]? <;> rfl
  simp [stepG, unwind, hm, hd, hc]
/-- What is asked where the body's head is left: its last region goes on; or the round is over. -/
def postA (P : Program) (l bid : Nat) (ops : Array Oper) (R : Ending → World → Prop) : Exit → Act → World → Prop
  | .normal, a, w => ∀ t, wpOps P ops (onlyNP fun
      | .normal, _, w' => ∃ v w2, (Instr.endRound l none).run P w' = .ok v w2 ∧ R (.returned v) w2
      | .panic chain, a', w' => a'.defers = [] ∧ R (.panicked chain) w'
      | _, _, _ => False) (Region.schedule (P.follows .mixedOrders) ops t) a { w with drawn := w.drawn + 1 }
  | .exit id, _, w => id = bid ∧ ∃ v w2, (Instr.endRound l none).run P w = .ok v w2 ∧ R (.returned v) w2
  | _, _, _ => False
/-- A round whose body is a block of some head and a last region. -/
theorem round_block {P : Program} {l bid rid : Nat} {f : FuncId} {tmps : Array Value} {assign A : Code} {ops : Array Oper} {w : World} {R : Ending → World → Prop} (hnd : ∀ (i : Nat) (o : Oper), ops[i]? = some o → ∀ c, o.op ≠ .defer c)
    (h : assign.wpIn (Fence.wide.inRound l) 0 P (Exit.then (fun a₁ w₁ => ∃ w₂, (Instr.beginRound l).run P w₁ = .ok () w₂ ∧ A.wpIn (Fence.wide.inRound l) 0 P (postA P l bid ops R) a₁ w₂) (fun _ _ _ => False)) { tmps := tmps, defers := [] } w) :
    RoundIn Fence.wide 0 P l f tmps assign (Code.block bid (Code.seq A (Code.region rid ops true))) w R := by
  refine ⟨trivial, fun c cs _ => ?_⟩
  let b : Frame := { (default : Frame) with fn := f, kind := .normal, roundOf := some l }
  have hb0 : Frame.round l f tmps assign (Code.block bid (Code.seq A (Code.region rid ops true))) .normal = b.atR { tmps := tmps, defers := [] } [.code assign, .beginRound, .code (Code.block bid (Code.seq A (Code.region rid ops true)))] := by
    simp [Frame.round, Frame.atR, b]
  rw [hb0]
  obtain ⟨e, a₁, w₁, hq, harr⟩ := h b [.beginRound, .code (Code.block bid (Code.seq A (Code.region rid ops true)))] (c :: cs) rfl trivial (room_wide _)
  cases e with
  | normal =>
    obtain ⟨w₂, hbr, hbody⟩ := hq
    have s0 : Steps P _ _ := stepsIn_wide.1 harr
    have s1 : Steps P (lone (b.atR a₁ [.beginRound, .code (Code.block bid (Code.seq A (Code.region rid ops true)))]) (c :: cs) w₁) (lone (b.atR a₁ [.code (Code.block bid (Code.seq A (Code.region rid ops true)))]) (c :: cs) w₂) := .one (stepR_beginRound rfl hbr)
    have s2 : Steps P (lone (b.atR a₁ [.code (Code.block bid (Code.seq A (Code.region rid ops true)))]) (c :: cs) w₂) (lone (b.atR a₁ [.code A, .code (Code.region rid ops true), .inBlock bid]) (c :: cs) w₂) := Steps.trans (.one stepR_block) (.one stepR_seq)
    obtain ⟨e₂, a₂, w₃, hq₂, harr₂⟩ := hbody b [.code (Code.region rid ops true), .inBlock bid] (c :: cs) rfl trivial (room_wide _)
    have s012 := Steps.trans s0 (Steps.trans s1 s2)
    cases e₂ with
    | normal =>
      have s3 : Steps P _ _ := stepsIn_wide.1 harr₂
      obtain ⟨e₃, a₃, w₄, hq₃, harr₃⟩ := wp_opsO hnd _ a₂ _ (hq₂ _) b [.inBlock bid] (c :: cs)
      have s4 := Steps.trans s012 (Steps.trans s3 (.one stepR_region_draw))
      cases e₃ with
      | normal =>
        obtain ⟨v, w5, hend, hR⟩ := hq₃
        have s5 : Steps P _ _ := harr₃
        exact ⟨.returned v, w5, hR, stepsIn_wide.2 (Steps.trans s4 (Steps.trans s5 (Steps.trans (.one stepR_inBlock) (.one (stepR_round_end rfl rfl hend)))))⟩
      | panic chain =>
        obtain ⟨hd, hR⟩ := hq₃
        obtain ⟨l', s5⟩ := harr₃
        exact ⟨.panicked chain, w₄, hR, stepsIn_wide.2 (Steps.trans s4 (Steps.trans s5 (.one (step_region_panicked rfl hd rfl))))⟩
      | exit id => exact hq₃.elim
      | goto t => exact hq₃.elim
      | ret => exact hq₃.elim
      | outgrown => exact hq₃.elim
    | exit id =>
      obtain ⟨rfl, v, w5, hend, hR⟩ := hq₂
      have s3 : Steps P _ _ := stepsIn_wide.1 (harr₂.1 [] (by simp [exitTo]))
      exact ⟨.returned v, w5, hR, stepsIn_wide.2 (Steps.trans s012 (Steps.trans s3 (.one (stepR_round_end rfl rfl hend))))⟩
    | goto t => exact hq₂.elim
    | ret => exact hq₂.elim
    | panic chain => exact hq₂.elim
    | outgrown => exact hq₂.elim
  | exit id => exact hq.elim
  | goto t => exact hq.elim
  | ret => exact hq.elim
  | panic chain => exact hq.elim
  | outgrown => exact hq.elim
/-- An iterator's contract, where it may panic, and its rounds may: it turns nothing that lay. -/
def SeqP {α : Type} (P : Program) (gf : Nat) (lb : Array Value) (encs : α → Array Value) (Good : List α → α → Prop) (Done Dead : List α → Prop) (ch : List PanicEntry) (It E : World → Prop) : Prop :=
  ∀ (l : Nat) (J : List α → World → Prop) (Jp : World → Prop) (W : World), It W → (∀ pre W, J pre W → E W) → (∀ pre W W', J pre W → Below W.heap.size W W' → J pre W') →
    (∀ pre x W1, Good pre x → J pre W1 → YieldAt Fence.wide 0 P l (encs x) W1 fun e W' => (e = .returned (.bool true) ∧ J (pre ++ [x]) W') ∨ (e = .panicked ch ∧ Jp W')) →
    (∀ pre W', Dead pre → J pre W' → Jp W') → J [] W →
    CallsIn Fence.wide 0 P gf (#[.func (.yield l) #[] #[]] ++ lb) W fun e W' => ((∃ v, e = .returned v) ∧ ∃ xs, Done xs ∧ J xs W') ∨ (e = .panicked ch ∧ Jp W')
/-- How the head of a round's body is left. -/
def postB {α : Type} (P : Program) (m bid : Nat) (ops : Array Oper) (ch : List PanicEntry) (I : List α → World → Prop) (Ip : World → Prop) (xs : List α) (W : World) : Exit → Act → World → Prop
  | .normal, a, W2 => ∀ t, wpOps P ops (onlyNP fun
      | .normal, _, W' => KeepsFrom m W W' ∧ I xs W'
      | .panic c, a', W' => a'.defers = [] ∧ c = ch ∧ KeepsFrom m W W' ∧ Ip W'
      | _, _, _ => False) (Region.schedule (P.follows .mixedOrders) ops t) a { W2 with drawn := W2.drawn + 1 }
  | .exit id, _, W' => id = bid ∧ KeepsFrom m W W' ∧ I xs W'
  | _, _, _ => False
theorem wpOps_mono {P : Program} {ops : Array Oper} {Q Q' : Exit → Act → World → Prop} (hq : ∀ e a w, Q e a w → Q' e a w) : ∀ (l : List Nat) (a : Act) (w : World), wpOps P ops Q l a w → wpOps P ops Q' l a w
  | [], a, w, h => hq _ _ _ h
  | i :: rest, a, w, h => by
    have ih := wpOps_mono (P := P) (ops := ops) hq rest
    simp only [wpOps] at h ⊢
    cases ho : ops[i]? with
    | none => simp only [ho] at h ⊢; exact ih a w h
    | some o =>
      simp only [ho] at h ⊢
      split
      · rename_i hw
        simp only [hw, if_true] at h
        have hl : LetsOut Q → LetsOut Q' := fun ⟨a₀, w₀, h⟩ => ⟨a₀, w₀, hq _ _ _ h⟩
        rcases h with h | ⟨h1, h2⟩
        · refine .inl ?_
          unfold Oper.wp at h ⊢
          generalize (execOp a.eval o).run P w = res at *
          rcases res with ⟨nx, w'⟩ | ⟨hh, w'⟩
          · cases nx <;> simp only [Oper.upon] at h ⊢ <;> first
              | exact ih _ _ h
              | (refine h.mono fun e w'' he => ?_; cases e with
                  | returned v => exact ih _ _ he
                  | panicked c => exact hq _ _ _ he
                  | outgrown => exact hl he)
              | exact h.mono fun v w'' he => ih _ _ he
              | exact h
          · cases hh <;> simp only [Oper.upon] at h ⊢ <;> first
              | exact hq _ _ _ h
              | exact h
        · exact .inr ⟨h1, hl h2⟩
      · rename_i hw
        simp only [hw, Bool.false_eq_true, if_false] at h
        exact ih _ _ h
/-- The law of the statement, where a round may panic. -/
theorem rangeP {α : Type} {P : Program} {g : Operand} {ps : Array Tmp} {assign A : Code} {ops : Array Oper} {bid rid : Nat} {Q : Exit → Act → World → Prop} {a : Act} {w : World} {gf : Nat} {lb : Array Value}
    (hnd : ∀ (i : Nat) (o : Oper), ops[i]? = some o → ∀ c, o.op ≠ .defer c) (hg : a.eval g = .func (.func gf) #[] lb) (eg : ∀ args w, (callFunc gf args).run P w = .ok (.enter gf args) w)
    {encs : α → Array Value} {Good : List α → α → Prop} {Done Dead : List α → Prop} {ch : List PanicEntry} {It E : World → Prop} (hseq : SeqP P gf lb encs Good Done Dead ch It E) (hIt : ∀ W, Below w.heap.size w W → It W) (hps : ∀ x, (encs x).size = ps.size)
    (I : List α → World → Prop) (Ip : World → Prop) (hIE : ∀ pre W, I pre W → E W) (hIb : ∀ pre W W', I pre W → Below W.heap.size W W' → I pre W')
    (hIo : ∀ pre (W : World) (l : Nat) (o o' : Obj), I pre W → w.heap.size ≤ l → W.heap[l]? = some o → o.isCells = false → I pre (W.putObj l o')) (h0 : I [] w)
    (Ax : α → Act → World → Prop) (hAx : ∀ x a' (W : World) (l : Nat) (o o' : Obj), Ax x a' W → w.heap.size ≤ l → W.heap[l]? = some o → o.isCells = false → Ax x a' (W.putObj l o'))
    (hassign : ∀ (l : Nat) (pre : List α) (x : α) (W : World) (K : Act → World → Prop), I pre W → (∀ a' W', Below W.heap.size W W' → Ax x a' W' → K a' W') →
      assign.wpIn (Fence.wide.inRound l) 0 P (Exit.then K (fun _ _ _ => False)) { tmps := (ps.zip (encs x)).foldl (fun t (p, v) => t.setIfInBounds p v) a.tmps, defers := [] } W)
    (hbody : ∀ (l : Nat) (pre : List α) (x : α) (a' : Act) (W : World), Good pre x → I pre W → Ax x a' W → A.wpIn (Fence.wide.inRound l) 0 P (postB P w.heap.size bid ops ch I Ip (pre ++ [x]) W) a' W)
    (hdead : ∀ pre W, Dead pre → I pre W → Ip W)
    (hdone : ∀ (D : Nat) (xs : List α) (W : World), w.heap.size ≤ D → Done xs → I xs W → W.heap[D]? = some (.deferred (some [])) → Q .normal { a with defers := { target := .collected D, args := #[] } :: a.defers } W)
    (hpan : ∀ (D : Nat) (W : World), w.heap.size ≤ D → Ip W → W.heap[D]? = some (.deferred (some [])) → Q (.panic ch) { a with defers := { target := .collected D, args := #[] } :: a.defers } W) :
    (Code.rangeFunc g ps assign (Code.block bid (Code.seq A (Code.region rid ops true)))).wpIn Fence.wide 0 P Q a w := by
  refine wpIn_rangeFunc fun fn hfn => ?_
  obtain ⟨rc, hrc⟩ : ∃ rc : LoopState → Option Code → Loop, ∀ s p, rc s p = { state := s, pending := p, fn := fn, tmps := a.tmps, params := ps, assign := assign, body := Code.block bid (Code.seq A (Code.region rid ops true)), defers := w.heap.size } := ⟨fun s p => _, fun _ _ => rfl⟩
  have hbusy : { rc .ready none with state := .busy } = rc .busy none := by rw [hrc, hrc]
  have hend : { rc .busy none with state := .ready, pending := none } = rc .ready none := by rw [hrc, hrc]
  generalize hW1 : (w.alloc (.deferred (some []))).alloc (.loop (rc .ready none)) = W1
  have z1 : W1.heap.size = w.heap.size + 2 := by rw [← hW1]; simp
  have r1 : W1.heap[w.heap.size + 1]? = some (.loop (rc .ready none)) := by
    rw [← hW1, show w.heap.size + 1 = (w.alloc (.deferred (some []))).heap.size by simp]
    exact World.alloc_heap_new _ _
  have d1 : W1.heap[w.heap.size]? = some (.deferred (some [])) := by
    rw [← hW1, Below.heap_alloc _ _ _ (by simp)]
    exact World.alloc_heap_new w _
  have b1 : Below w.heap.size w W1 := by rw [← hW1]; exact ((Below.refl _ w).alloc (Nat.le_refl _) _).alloc (by simp) _
  have i1 : I [] W1 := hIb [] w W1 h0 b1
  refine ⟨w.heap.size + 1, [{ target := .collected w.heap.size, args := #[] }], W1, { target := .fn (.func gf) lb, args := #[.func (.yield (w.heap.size + 1)) #[] #[]] }, W1, gf, #[.func (.yield (w.heap.size + 1)) #[] #[]] ++ lb, W1, ?_, ?_, fun _ _ => trivial, ?_, (fun h => (by cases h)), ?_⟩
  · rw [← hW1, hrc]; exact run_enterLoop_outer _ _ _ _ _
  · simp only [resolve, hg]; simp [go_sem]
  · simp [invoke, go_sem, eg]
  refine (hseq (w.heap.size + 1) (fun pre W => I pre W ∧ W.heap[w.heap.size + 1]? = some (.loop (rc .ready none)) ∧ W.heap[w.heap.size]? = some (.deferred (some [])))
    (fun W => Ip W ∧ W.heap[w.heap.size]? = some (.deferred (some []))) W1 (hIt W1 b1) (fun pre W h => hIE pre W h.1) ?_ ?_ ?_ ⟨i1, r1, d1⟩).mono ?_
  · rintro pre W W' ⟨h1, h2, h3⟩ hb
    exact ⟨hIb pre W W' h1 hb, (hb.block _ (Array.getElem?_eq_some_iff.1 h2).1).trans h2, (hb.block _ (Array.getElem?_eq_some_iff.1 h3).1).trans h3⟩
  · -- a round
    rintro pre x W hgood ⟨hi, hr, hd⟩
    have hy := run_yield (P := P) (args := encs x) hr (by rw [hrc]; exact hps x)
    rw [show (rc .ready none).fn = fn by rw [hrc], show (rc .ready none).tmps = a.tmps by rw [hrc], show (rc .ready none).params = ps by rw [hrc], show (rc .ready none).assign = assign by rw [hrc], show (rc .ready none).body = Code.block bid (Code.seq A (Code.region rid ops true)) by rw [hrc]] at hy
    refine ⟨_, _, _, _, hy, ?_⟩
    refine round_block hnd (hassign _ pre x W _ hi ?_)
    clear hy
    intro a' Wa ka ax
    have ra := (ka.block _ (Array.getElem?_eq_some_iff.1 hr).1).trans hr
    have da := (ka.block _ (Array.getElem?_eq_some_iff.1 hd).1).trans hd
    have ia := hIb pre W Wa hi ka
    have hlt := (Array.getElem?_eq_some_iff.1 ra).1
    have hst : (rc .ready none).state = .ready := by rw [hrc]
    refine ⟨_, run_beginRound ra hst, ?_⟩
    rw [hbusy]
    generalize hWb : Wa.putObj (w.heap.size + 1) (.loop (rc .busy none)) = Wb
    have rb : Wb.heap[w.heap.size + 1]? = some (.loop (rc .busy none)) := by rw [← hWb]; exact World.putObj_heap_same hlt
    have db : Wb.heap[w.heap.size]? = some (.deferred (some [])) := by rw [← hWb, World.putObj_heap_other (by omega)]; exact da
    have ib : I pre Wb := by rw [← hWb]; exact hIo pre Wa _ _ _ ia (by omega) ra rfl
    have xb : Ax x a' Wb := by rw [← hWb]; exact hAx x a' Wa _ _ _ ax (by omega) ra rfl
    have fin : ∀ (Wc : World), KeepsFrom w.heap.size Wb Wc → I (pre ++ [x]) Wc → ∃ v w2, (Instr.endRound (w.heap.size + 1) none).run P Wc = .ok v w2 ∧ ((Ending.returned v = Ending.returned (.bool true) ∧ I (pre ++ [x]) w2 ∧ w2.heap[w.heap.size + 1]? = some (.loop (rc .ready none)) ∧ w2.heap[w.heap.size]? = some (.deferred (some []))) ∨ (Ending.returned v = Ending.panicked ch ∧ Ip w2 ∧ w2.heap[w.heap.size]? = some (.deferred (some [])))) := by
      intro Wc hc hi
      have rC := hc.same _ _ (by omega) rb rfl
      have dC := hc.same _ _ (by omega) db rfl
      have he := run_endRound (P := P) none rC
      simp only [Option.isNone_none, if_true] at he
      rw [hend] at he
      exact ⟨_, _, he, .inl ⟨rfl, hIo _ Wc _ _ _ hi (by omega) rC rfl, World.putObj_heap_same (Array.getElem?_eq_some_iff.1 rC).1, (World.putObj_heap_other (by omega)).trans dC⟩⟩
    refine wpIn_mono (hbody _ pre x a' Wb hgood ib xb) ?_
    rintro e a3 Wc hp
    cases e with
    | normal =>
      intro t
      refine wpOps_mono ?_ _ _ _ (hp t)
      intro e a4 Wd hq
      cases e with
      | normal => exact fin Wd hq.1 hq.2
      | panic c =>
        obtain ⟨h1, rfl, h3, h4⟩ := hq
        exact ⟨h1, .inr ⟨rfl, h4, h3.same _ _ (by omega) db rfl⟩⟩
      | exit id => exact hq.elim
      | goto t => exact hq.elim
      | ret => exact hq.elim
      | outgrown => exact hq.elim
    | exit id =>
      obtain ⟨rfl, h1, h2⟩ := hp
      exact ⟨rfl, fin Wc h1 h2⟩
    | goto t => exact hp.elim
    | ret => exact hp.elim
    | panic c => exact hp.elim
    | outgrown => exact hp.elim
  · rintro pre W hd ⟨h1, _, h3⟩
    exact ⟨hdead pre W hd h1, h3⟩
  · -- behind the iterator
    rintro e W2 (⟨⟨v, rfl⟩, xs, hS, hi, hr, hd⟩ | ⟨rfl, hp, hd⟩)
    · have he := run_endLoop (P := P) hr (by rw [hrc]; simp)
      rw [show (rc .ready none).pending = none by rw [hrc]] at he
      exact ⟨none, _, he, hdone w.heap.size xs _ (Nat.le_refl _) hS (hIo xs W2 _ _ _ hi (by omega) hr rfl) ((World.putObj_heap_other (by omega)).trans hd)⟩
    · exact hpan w.heap.size W2 (Nat.le_refl _) hp hd
end Go.Proofs.YtnhaapcpklfkpaaGreatDoor
