/-
  A range over a function whose iterator keeps cells of its own, and ranges over iterators itself: what an iterator and its rounds owe each other, and a law of the statement for such iterators.
-/
import Derived.RangeFuncNested
import Derived.RangeFuncBound
import Derived.RangeFuncCalls
import Derived.RangeFuncLeaves
import Derived.RangeFuncBox
import Derived.Shelf.Abstract
import Derived.Shelf.RegionOpen
import Derived.WalkKit
import Derived.OwnWalkIn
import Derived.TacticsInMore
import Derived.LoopNIn
import Derived.LoopIn
import Derived.Maps.AppendAt
namespace Go.Proofs.YtnhaapcpklfkpaaGreatDoor
open Go.RowKit Go.Shelf

/-- The block of the row that lies in a box. -/
def rowAt (W : World) (B : Nat) : Option Nat := (W.cell? ⟨B, 0, none⟩).bind Value.ownBlock
theorem rowAt_block {W W' : World} {B : Nat} (h : W'.heap[B]? = W.heap[B]?) : rowAt W' B = rowAt W B := by
  unfold rowAt; rw [World.cell?_of_block (a := ⟨B, 0, none⟩) h]
/-- What a round keeps: all below n₀; all cells but the box B and its row; the row is where it was, or new. -/
structure KpR (n₀ B : Nat) (A C : World) : Prop where
  below : Below n₀ A C
  keep : ∀ (b : Nat) (o : Obj), A.heap[b]? = some o → o.isCells = true → b ≠ B → rowAt A B ≠ some b → C.heap[b]? = some o
  row : ∀ g, rowAt C B = some g → rowAt A B = some g ∨ (A.heap.size ≤ g ∧ g < C.heap.size)
theorem KpR.refl (n₀ B : Nat) (A : World) : KpR n₀ B A A := ⟨Below.refl _ _, fun _ _ h _ _ _ => h, fun _ h => .inl h⟩
theorem KpR.trans {n₀ B : Nat} {A C D : World} (h : KpR n₀ B A C) (k : KpR n₀ B C D) : KpR n₀ B A D := by
  refine ⟨h.below.trans k.below, fun b o hb hc hne hr => ?_, fun g hg => ?_⟩
  · refine k.keep b o (h.keep b o hb hc hne hr) hc hne (fun e => ?_)
    rcases h.row b e with e' | ⟨e', _⟩
    · exact hr e'
    · have := (Array.getElem?_eq_some_iff.1 hb).1; omega
  · rcases k.row g hg with e | ⟨e1, e2⟩
    · rcases h.row g e with e' | ⟨e1, e2⟩
      · exact .inl e'
      · exact .inr ⟨e1, Nat.lt_of_lt_of_le e2 k.below.size⟩
    · exact .inr ⟨Nat.le_trans h.below.size e1, e2⟩
theorem KpR.put {n₀ B : Nat} (W : World) (l : Nat) (o o' : Obj) (hl : n₀ ≤ l) (hB : B ≠ l) (h : W.heap[l]? = some o) (hc : o.isCells = false) : KpR n₀ B W (W.putObj l o') := by
  refine ⟨(Below.refl n₀ W).grown (grownBy_putObj' W l o') (by have := (Array.getElem?_eq_some_iff.1 h).1; omega) (fun k e => by cases e; omega), fun b o2 hb hc2 _ _ => ?_, fun g hg => .inl ?_⟩
  · rw [World.putObj_heap_other (fun e => by subst e; rw [h] at hb; cases hb; rw [hc] at hc2; cases hc2)]
    exact hb
  · rw [rowAt_block (World.putObj_heap_other hB)] at hg
    exact hg
theorem KpR.alloc {n₀ B : Nat} (W : World) (o : Obj) (hn : n₀ ≤ W.heap.size) (hB : B < W.heap.size) : KpR n₀ B W (W.alloc o) :=
  ⟨(Below.refl _ _).alloc hn o, fun b _ hb _ _ _ => (Below.heap_alloc W o b (Array.getElem?_eq_some_iff.1 hb).1).trans hb, fun g hg => .inl (by rw [rowAt_block (Below.heap_alloc W o B hB)] at hg; exact hg)⟩
/-- A call that turns nothing that lay. -/
theorem KpR.of {n₀ B : Nat} {W W' : World} (h : Below W.heap.size W W') (hn : n₀ ≤ W.heap.size) (hB : B < W.heap.size) : KpR n₀ B W W' :=
  ⟨h.mono hn, fun b _ hb _ _ _ => (h.block b (Array.getElem?_eq_some_iff.1 hb).1).trans hb, fun g hg => .inl (by rw [rowAt_block (h.block B hB)] at hg; exact hg)⟩
theorem keeps_of {B : Nat} {W W' : World} (h : Below W.heap.size W W') : KeepsFrom B W W' :=
  ⟨h.size, fun k _ _ hk _ => (h.block k (Array.getElem?_eq_some_iff.1 hk).1).trans hk⟩
theorem keeps_mono {B B' : Nat} {W W' : World} (h : KeepsFrom B W W') (hB : B ≤ B') : KeepsFrom B' W W' := ⟨h.size, fun k o hk h1 h2 => h.same k o (by omega) h1 h2⟩

/-- What is said abides new blocks, and the turn of a block of the iterator's: one of X, or one that lies at or behind m; no cells, or a text's, not the row of the box. -/
def Ab {β : Type} (B : Nat) (X : Nat → Prop) (m : Nat) (J : β → World → Prop) : Prop :=
  ∀ s W W' row, J s W → W.grownBy W' row → (∀ r, row = some r → (X r ∨ m ≤ r) ∧ ((∃ o : Obj, W.heap[r]? = some o ∧ o.isCells = false) ∨ (rowAt W B ≠ some r ∧ ∃ cs fz, W.heap[r]? = some (.cells cs 9 fz)))) → J s W'
theorem Ab.putObj {β : Type} {B m : Nat} {X : Nat → Prop} {J : β → World → Prop} (h : Ab B X m J) {s : β} {W : World} {l : Nat} {o : Obj} (o' : Obj) (hs : J s W) (hm : m ≤ l) (hl : W.heap[l]? = some o) (ho : o.isCells = false) : J s (W.putObj l o') :=
  h s W _ (some l) hs (grownBy_putObj' W l o') (fun r e => by cases e; exact ⟨.inr hm, .inl ⟨o, hl, ho⟩⟩)
theorem Ab.alloc {β : Type} {B m : Nat} {X : Nat → Prop} {J : β → World → Prop} (h : Ab B X m J) {s : β} {W : World} (o : Obj) (hs : J s W) : J s (W.alloc o) :=
  h s W _ none hs (World.grownBy_alloc W o none) (fun r e => by cases e)
theorem Ab.and {β : Type} {B m : Nat} {X : Nat → Prop} {J J' : β → World → Prop} (h : Ab B X m J) (h' : Ab B X m J') : Ab B X m (fun s W => J s W ∧ J' s W) :=
  fun s W W' row hs hg hr => ⟨h s W W' row hs.1 hg hr, h' s W W' row hs.2 hg hr⟩
theorem Ab.below {β : Type} {B m : Nat} {X : Nat → Prop} {J : β → World → Prop} (h : Ab B X m J) {s : β} {W W' : World} (hs : J s W) (hb : Below W.heap.size W W') : J s W' :=
  h s W W' none hs ⟨hb.os, hb.tape, hb.output, hb.size, fun i hi _ => hb.block i hi⟩ (fun r e => by cases e)
/-- A store into a box of the iterator's. -/
theorem Ab.set {β : Type} {B m : Nat} {X : Nat → Prop} {J : β → World → Prop} (h : Ab B X m J) {s : β} {W : World} {b : Nat} (v : Value) (hs : J s W) (hb : X b ∨ m ≤ b) (hr : rowAt W B ≠ some b) (ht : ∃ cs fz, W.heap[b]? = some (.cells cs 9 fz)) : J s (W.setCell ⟨b, 0, none⟩ v) :=
  h s W _ (some b) hs (grownBy_setCell' W b v) (fun r e => by cases e; exact ⟨hb, .inr ⟨hr, ht⟩⟩)
theorem ab_pure {β : Type} (B m : Nat) (X : Nat → Prop) (p : β → Prop) : Ab B X m (fun s (_ : World) => p s) := fun _ _ _ _ hs _ _ => hs
theorem ab_below {β : Type} {B m n₀ : Nat} {X : Nat → Prop} {w₀ : World} (hn : n₀ ≤ w₀.heap.size) (hm : n₀ ≤ m) (hX : ∀ r, X r → n₀ ≤ r) : Ab B X m (fun (_ : β) W => Below n₀ w₀ W) :=
  fun _ _ _ _ hs hg hr => hs.grown hg (Nat.le_trans hn hs.size) (fun k e => by rcases (hr k e).1 with h | h; exact hX k h; exact Nat.le_trans hm h)
/-- A box that is not the iterator's. -/
theorem ab_boxed {β : Type} {B m b : Nat} {X : Nat → Prop} (t : TypeId) (f : β → Value) (hb : b < m) (hX : ¬ X b) : Ab B X m (fun s W => Boxed W b t (f s)) :=
  fun _ _ _ _ hs hg hr => hs.kept hg (fun e => by rcases (hr b e.symm).1 with h | h; exact hX h; omega)

/-- A block of cells that no round turns. -/
structure Sf (B : Nat) (W : World) (b : Nat) (cs : Array Value) (t : TypeId) : Prop where
  at_ : W.heap[b]? = some (.cells cs t (0, 0))
  ne : b ≠ B
  row : rowAt W B ≠ some b
  lb : B < W.heap.size
theorem Sf.lt {B : Nat} {W : World} {b : Nat} {cs : Array Value} {t : TypeId} (h : Sf B W b cs t) : b < W.heap.size := (Array.getElem?_eq_some_iff.1 h.at_).1
theorem Sf.kept {B n₀ : Nat} {W W' : World} {b : Nat} {cs : Array Value} {t : TypeId} (h : Sf B W b cs t) (k : KpR n₀ B W W') : Sf B W' b cs t :=
  ⟨k.keep b _ h.at_ rfl h.ne h.row, h.ne, fun e => by
    rcases k.row b e with e' | ⟨e', _⟩
    · exact h.row e'
    · have := h.lt; omega, Nat.lt_of_lt_of_le h.lb k.below.size⟩
theorem Sf.below {B : Nat} {W W' : World} {b : Nat} {cs : Array Value} {t : TypeId} (h : Sf B W b cs t) (k : Below W.heap.size W W') : Sf B W' b cs t :=
  ⟨(k.block b h.lt).trans h.at_, h.ne, by rw [rowAt_block (k.block B h.lb)]; exact h.row, Nat.lt_of_lt_of_le h.lb k.size⟩
theorem Sf.cell {B : Nat} {W : World} {b : Nat} {cs : Array Value} {t : TypeId} (h : Sf B W b cs t) (i : Nat) : W.cell? ⟨b, i, none⟩ = cs[i]? := by simp [World.cell?, h.at_]
theorem Sf.frozen {B : Nat} {W : World} {b : Nat} {v : Value} {t : TypeId} (h : Sf B W b #[v] t) : W.frozen? ⟨b, 0, none⟩ = false := Boxed.frozen (t := t) (v := v) h.at_
/-- A store into such a box; into another one. -/
theorem Sf.set {B : Nat} {W : World} {b : Nat} {v : Value} {t : TypeId} (h : Sf B W b #[v] t) (u : Value) : Sf B (W.setCell ⟨b, 0, none⟩ u) b #[u] t :=
  ⟨Boxed.set (v := v) u h.at_, h.ne, by rw [rowAt_block (Below.heap_setCell W ⟨b, 0, none⟩ u B (fun e => h.ne e.symm))]; exact h.row, Nat.lt_of_lt_of_le h.lb (grownBy_setCell' W b u).size⟩
theorem Sf.other {B : Nat} {W : World} {b c : Nat} {cs : Array Value} {t : TypeId} (h : Sf B W b cs t) (hc : b ≠ c) (hB : c ≠ B) (u : Value) : Sf B (W.setCell ⟨c, 0, none⟩ u) b cs t :=
  ⟨(Below.heap_setCell W ⟨c, 0, none⟩ u b hc).trans h.at_, h.ne, by rw [rowAt_block (Below.heap_setCell W ⟨c, 0, none⟩ u B (fun e => hB e.symm))]; exact h.row, Nat.lt_of_lt_of_le h.lb (grownBy_setCell' W c u).size⟩
/-- A new block. -/
theorem Sf.new {B : Nat} (W : World) (cs : Array Value) (t : TypeId) (hB : B < W.heap.size) (hr : ∀ g, rowAt W B = some g → g < W.heap.size) : Sf B (W.alloc (.cells cs t)) W.heap.size cs t :=
  ⟨World.alloc_heap_new W _, by omega, by rw [rowAt_block (Below.heap_alloc W _ B hB)]; exact fun e => by have := hr _ e; omega, by simp; omega⟩
theorem Sf.alloc {B : Nat} {W : World} {b : Nat} {cs : Array Value} {t : TypeId} (h : Sf B W b cs t) (o : Obj) : Sf B (W.alloc o) b cs t := h.below ((Below.refl _ W).alloc (Nat.le_refl _) o)
/-- It abides what an iterator of others does. -/
theorem ab_sf {β : Type} {B m b : Nat} {X : Nat → Prop} (f : β → Array Value) (t : TypeId) (hb : b < m) (hX : ¬ X b) (hB : B < m) (hXB : ¬ X B) : Ab B X m (fun s W => Sf B W b (f s) t) :=
  fun s W W' row hs hg hr => by
    have hne : ∀ c, c < m → ¬ X c → some c ≠ row := fun c h1 h2 e => by rcases (hr c e.symm).1 with h | h; exact h2 h; omega
    exact ⟨(hg.block b hs.lt (hne b hb hX)).trans hs.at_, hs.ne, by rw [rowAt_block (hg.block B hs.lb (hne B hB hXB))]; exact hs.row, Nat.lt_of_lt_of_le hs.lb hg.size⟩
/-- The row of the box lies below the heap's end. -/
def RowIn (B : Nat) (W : World) : Prop := B < W.heap.size ∧ ∀ g, rowAt W B = some g → g < W.heap.size
theorem RowIn.kept {B n₀ : Nat} {W W' : World} (h : RowIn B W) (k : KpR n₀ B W W') : RowIn B W' :=
  ⟨Nat.lt_of_lt_of_le h.1 k.below.size, fun g hg => by rcases k.row g hg with e | e; exact Nat.lt_of_lt_of_le (h.2 g e) k.below.size; exact e.2⟩
theorem RowIn.below {B : Nat} {W W' : World} (h : RowIn B W) (k : Below W.heap.size W W') : RowIn B W' :=
  ⟨Nat.lt_of_lt_of_le h.1 k.size, fun g hg => by rw [rowAt_block (k.block B h.1)] at hg; exact Nat.lt_of_lt_of_le (h.2 g hg) k.size⟩
theorem RowIn.set {B : Nat} {W : World} (h : RowIn B W) {b : Nat} (hb : b ≠ B) (u : Value) : RowIn B (W.setCell ⟨b, 0, none⟩ u) :=
  ⟨Nat.lt_of_lt_of_le h.1 (grownBy_setCell' W b u).size, fun g hg => by rw [rowAt_block (Below.heap_setCell W ⟨b, 0, none⟩ u B (fun e => hb e.symm))] at hg; exact Nat.lt_of_lt_of_le (h.2 g hg) (grownBy_setCell' W b u).size⟩
theorem ab_rowIn {β : Type} {B m : Nat} {X : Nat → Prop} (hB : B < m) (hXB : ¬ X B) : Ab B X m (fun (_ : β) W => RowIn B W) :=
  fun s W W' row hs hg hr => by
    have hne : some B ≠ row := fun e => by rcases (hr B e.symm).1 with h | h; exact hXB h; omega
    exact ⟨Nat.lt_of_lt_of_le hs.1 hg.size, fun g e => by rw [rowAt_block (hg.block B hs.1 hne)] at e; exact Nat.lt_of_lt_of_le (hs.2 g e) hg.size⟩
/-- It abides less. -/
theorem Ab.mono {β : Type} {B m m' : Nat} {X X' : Nat → Prop} {J : β → World → Prop} (h : Ab B X m J) (hm : ∀ r, X' r ∨ m' ≤ r → X r ∨ m ≤ r) : Ab B X' m' J :=
  fun s W W' row hs hg hr => h s W W' row hs hg (fun r e => ⟨hm r (hr r e).1, (hr r e).2⟩)
theorem Ab.comp {β γ : Type} {B m : Nat} {X : Nat → Prop} {J : β → World → Prop} (h : Ab B X m J) (f : γ → β) : Ab B X m (fun s W => J (f s) W) := fun s W W' row hs hg hr => h (f s) W W' row hs hg hr
/-- The marks of the ranges that a call has gone through: their blocks hold no deferred call. -/
def mkD (D : Nat) : Deferred := { target := .collected D, args := #[] }
structure Mk (m M : Nat) (Ds : List Nat) (W : World) : Prop where
  nodup : Ds.Nodup
  at_ : ∀ D ∈ Ds, m ≤ D ∧ D < M ∧ W.heap[D]? = some (.deferred (some []))
theorem Mk.nil (m M : Nat) (W : World) : Mk m M [] W := ⟨List.nodup_nil, fun _ h => by cases h⟩
theorem Mk.cons {m M M' D : Nat} {Ds : List Nat} {W : World} (h : Mk m M Ds W) (hm : m ≤ D) (h1 : M ≤ D) (h2 : D < M') (hd : W.heap[D]? = some (.deferred (some []))) : Mk m M' (D :: Ds) W :=
  ⟨List.nodup_cons.2 ⟨fun hD => by have := (h.at_ D hD).2.1; omega, h.nodup⟩, fun E hE => by
    rcases List.mem_cons.1 hE with rfl | hE
    · exact ⟨hm, h2, hd⟩
    · obtain ⟨a, b, c⟩ := h.at_ E hE; exact ⟨a, by omega, c⟩⟩
theorem Mk.keeps {m M k : Nat} {Ds : List Nat} {W W' : World} (h : Mk m M Ds W) (hk : KeepsFrom k W W') (hm : k ≤ m) : Mk m M Ds W' :=
  ⟨h.nodup, fun D hD => by obtain ⟨a, b, c⟩ := h.at_ D hD; exact ⟨a, b, hk.same D _ (by omega) c rfl⟩⟩
theorem Mk.below {m M : Nat} {Ds : List Nat} {W W' : World} (h : Mk m M Ds W) (hk : Below W.heap.size W W') : Mk m M Ds W' := h.keeps (k := 0) (keeps_of hk) (Nat.zero_le _)
theorem ab_mk {β : Type} {B m M k : Nat} {X : Nat → Prop} (Ds : List Nat) (hM : M ≤ k) (hX : ∀ r, X r → M ≤ r) : Ab B X k (fun (_ : β) W => Mk m M Ds W) :=
  fun s W W' row hs hg hr => ⟨hs.nodup, fun D hD => by
    obtain ⟨a, b, c⟩ := hs.at_ D hD
    refine ⟨a, b, (hg.block D (Array.getElem?_eq_some_iff.1 c).1 (fun e => ?_)).trans c⟩
    rcases (hr D e.symm).1 with h | h
    · have := hX D h; omega
    · omega⟩
theorem Mk.rest {m M D : Nat} {Ds : List Nat} {W : World} (h : Mk m M (D :: Ds) W) : Mk m M Ds (W.putObj D (.deferred none)) := by
  have hn := List.nodup_cons.1 h.nodup
  refine ⟨hn.2, fun E hE => ?_⟩
  obtain ⟨a', b', c'⟩ := h.at_ E (List.mem_cons_of_mem _ hE)
  exact ⟨a', b', (World.putObj_heap_other (k := E) (r := D) (fun e => hn.1 (by rw [← e]; exact hE))).trans c'⟩
/-- The blocks of the marks are shut, one behind the other. -/
def shut (Ds : List Nat) (W : World) : World := Ds.foldl (fun X D => X.putObj D (.deferred none)) W
theorem shut_ab {β : Type} {B k m M : Nat} {X : Nat → Prop} {J : β → World → Prop} (hJ : Ab B X k J) (hk : k ≤ m) {s : β} : ∀ (Ds : List Nat) (W : World), Mk m M Ds W → J s W → J s (shut Ds W)
  | [], _, _, hs => hs
  | D :: Ds, W, h, hs => by
    obtain ⟨a, b, c⟩ := h.at_ D (List.mem_cons_self ..)
    exact shut_ab hJ hk Ds (W.putObj D (.deferred none)) h.rest (hJ.putObj _ hs (by omega) c rfl)
/-- A call's way out, behind ranges over functions. -/
theorem leaves_marks {P : Program} {fn : Func} {tmps : Array Value} {R : Ending → World → Prop} {m M : Nat} : ∀ (Ds : List Nat) (W : World), Mk m M Ds W → (∃ v, (results fn tmps).run P (shut Ds W) = .ok v (shut Ds W) ∧ R (.returned v) (shut Ds W)) → LeavesInM Fence.wide 0 P fn tmps R (Ds.map mkD) .returning W
  | [], W, _, hs => hs
  | D :: Ds, W, h, hs => by
    obtain ⟨a, b, c⟩ := h.at_ D (List.mem_cons_self ..)
    exact ⟨by simp, .inl ⟨D, _, rfl, run_takeDeferred c, leaves_marks Ds (W.putObj D (.deferred none)) h.rest hs⟩⟩

/-- An iterator's contract: it turns cells of its own (X) alone; what it asks of the world where it begins: It; Kp, and all that is no cells and lies behind its beginning: what a round keeps. -/
def SeqR {α : Type} (n₀ B : Nat) (X : Nat → Prop) (P : Program) (g : Nat) (lb : Array Value) (encs : α → Array Value) (S Sp : List α → Prop) (N : Nat) (It : World → Prop) : Prop :=
  ∀ (l : Nat) (J Jx : List α → World → Prop) (W : World), It W → Ab B X W.heap.size J → Ab B X W.heap.size Jx →
    (∀ pre x W1, J pre W1 → pre.length < N → YieldAt Fence.wide 0 P l (encs x) W1 fun e W' =>
      (e = .returned (.bool true) ∧ J (pre ++ [x]) W' ∧ KpR n₀ B W1 W' ∧ KeepsFrom W.heap.size W1 W') ∨ (e = .returned (.bool false) ∧ Jx (pre ++ [x]) W' ∧ KeepsFrom W.heap.size W1 W')) →
    J [] W →
    CallsIn Fence.wide 0 P g (#[.func (.yield l) #[] #[]] ++ lb) W fun e W' => (∃ v, e = .returned v) ∧ ((∃ xs, S xs ∧ J xs W') ∨ (∃ pre, Sp pre ∧ Jx pre W'))
/-- How the body of a round may be left. -/
def postR {α : Type} (n₀ B m : Nat) (I : List α → World → Prop) (Ix : Code → List α → World → Prop) (xs : List α) (W : World) : Exit → Act → World → Prop
  | .normal, _, W' => KeepsFrom m W W' ∧ KpR n₀ B W W' ∧ I xs W'
  | .ret, _, W' => KeepsFrom m W W' ∧ Ix .ret xs W'
  | .exit id, _, W' => KeepsFrom m W W' ∧ Ix (.exit id) xs W'
  | .goto t, _, W' => KeepsFrom m W W' ∧ Ix (.goto t) xs W'
  | .panic _, _, _ => False
  | .outgrown, _, _ => False
/-- The law of the statement. -/
theorem rangeR {α : Type} {P : Program} {g : Operand} {ps : Array Tmp} {assign body : Code} {Q : Exit → Act → World → Prop} {a : Act} {w : World} {gf : Nat} {lb : Array Value}
    (hg : a.eval g = .func (.func gf) #[] lb) (eg : ∀ args w, (callFunc gf args).run P w = .ok (.enter gf args) w)
    {encs : α → Array Value} {S Sp : List α → Prop} {N n₀ B : Nat} {X : Nat → Prop} {It : World → Prop} (hseq : SeqR n₀ B X P gf lb encs S Sp N It) (hIt : ∀ W, Below w.heap.size w W → It W) (hps : ∀ x, (encs x).size = ps.size)
    (hn : n₀ ≤ w.heap.size) (hB : B < w.heap.size) (hX : ∀ r, X r → r < w.heap.size)
    (I : List α → World → Prop) (Ix : Code → List α → World → Prop) (hI : Ab B X w.heap.size I) (hIx : ∀ c, Ab B X w.heap.size (Ix c)) (h0 : I [] w)
    (Ax : α → Act → World → Prop) (hAx : ∀ x a', OwnFrom w.heap.size (fun (_ : Unit) W => Ax x a' W))
    (hassign : ∀ (l : Nat) (pre : List α) (x : α) (W : World) (K : Act → World → Prop), I pre W → (∀ a' W', KeepsFrom w.heap.size W W' → KpR n₀ B W W' → I pre W' → Ax x a' W' → K a' W') →
      assign.wpIn (Fence.wide.inRound l) 0 P (Exit.then K (fun _ _ _ => False)) { tmps := (ps.zip (encs x)).foldl (fun t (p, v) => t.setIfInBounds p v) a.tmps, defers := [] } W)
    (hbody : ∀ (l : Nat) (pre : List α) (x : α) (a' : Act) (W : World), w.heap.size ≤ l → (∃ r, W.heap[l]? = some (.loop r)) → I pre W → Ax x a' W → pre.length < N → body.wpIn (Fence.wide.inRound l) 0 P (postR n₀ B w.heap.size I Ix (pre ++ [x]) W) a' W)
    (hdone : ∀ (D : Nat) (xs : List α) (W : World), w.heap.size ≤ D → S xs → I xs W → W.heap[D]? = some (.deferred (some [])) → Q .normal { a with defers := { target := .collected D, args := #[] } :: a.defers } W)
    (hstop : ∀ (D : Nat) (c : Code) (pre : List α) (W : World), w.heap.size ≤ D → Sp pre → Ix c pre W → W.heap[D]? = some (.deferred (some [])) → c.wpIn Fence.wide 0 P Q { a with defers := { target := .collected D, args := #[] } :: a.defers } W) :
    (Code.rangeFunc g ps assign body).wpIn Fence.wide 0 P Q a w := by
  refine wpIn_rangeFunc fun fn hfn => ?_
  -- the record, by its state and its pending jump
  obtain ⟨rc, hrc⟩ : ∃ rc : LoopState → Option Code → Loop, ∀ s p, rc s p = { state := s, pending := p, fn := fn, tmps := a.tmps, params := ps, assign := assign, body := body, defers := w.heap.size } := ⟨fun s p => _, fun _ _ => rfl⟩
  have hbusy : { rc .ready none with state := .busy } = rc .busy none := by rw [hrc, hrc]
  have hend : ∀ j : Option Code, { rc .busy none with state := if j.isNone then .ready else .done, pending := j } = rc (if j.isNone then .ready else .done) j := fun j => by rw [hrc, hrc]
  generalize hW1 : (w.alloc (.deferred (some []))).alloc (.loop (rc .ready none)) = W1
  have z1 : W1.heap.size = w.heap.size + 2 := by rw [← hW1]; simp
  have r1 : W1.heap[w.heap.size + 1]? = some (.loop (rc .ready none)) := by
    rw [← hW1, show w.heap.size + 1 = (w.alloc (.deferred (some []))).heap.size by simp]
    exact World.alloc_heap_new _ _
  have d1 : W1.heap[w.heap.size]? = some (.deferred (some [])) := by
    rw [← hW1, Below.heap_alloc _ _ _ (by simp)]
    exact World.alloc_heap_new w _
  have i1 : I [] W1 := by rw [← hW1]; exact hI.alloc _ (hI.alloc _ h0)
  have b1 : Below w.heap.size w W1 := by rw [← hW1]; exact ((Below.refl _ w).alloc (Nat.le_refl _) _).alloc (by simp) _
  -- what holds between two rounds, and behind a round that has left
  have abJ : ∀ {K : List α → World → Prop} (st : LoopState) (pe : Option Code), Ab B X w.heap.size K → Ab B X W1.heap.size (fun pre W => K pre W ∧ W.heap[w.heap.size + 1]? = some (.loop (rc st pe)) ∧ W.heap[w.heap.size]? = some (.deferred (some []))) := by
    intro K st pe hK s U U' row hs hgr hr
    have hne : ∀ k, w.heap.size ≤ k → k < W1.heap.size → some k ≠ row := fun k h1 h2 e => by
      rcases (hr k e.symm).1 with h | h
      · have := hX k h; omega
      · omega
    refine ⟨hK s U U' row hs.1 hgr (fun r e => ⟨(hr r e).1.imp id (fun h => by omega), (hr r e).2⟩), ?_, ?_⟩
    · exact (hgr.block _ (Array.getElem?_eq_some_iff.1 hs.2.1).1 (hne _ (by omega) (by omega))).trans hs.2.1
    · exact (hgr.block _ (Array.getElem?_eq_some_iff.1 hs.2.2).1 (hne _ (by omega) (by omega))).trans hs.2.2
  refine ⟨w.heap.size + 1, [{ target := .collected w.heap.size, args := #[] }], W1, { target := .fn (.func gf) lb, args := #[.func (.yield (w.heap.size + 1)) #[] #[]] }, W1, gf, #[.func (.yield (w.heap.size + 1)) #[] #[]] ++ lb, W1, ?_, ?_, fun _ _ => trivial, ?_, (fun h => (by cases h)), ?_⟩
  · rw [← hW1, hrc]; exact run_enterLoop_outer _ _ _ _ _
  · simp only [resolve, hg]; simp [go_sem]
  · simp [invoke, go_sem, eg]
  refine (hseq (w.heap.size + 1) _ (fun pre W => ∃ c, Ix c pre W ∧ W.heap[w.heap.size + 1]? = some (.loop (rc .done (some c))) ∧ W.heap[w.heap.size]? = some (.deferred (some []))) W1 (hIt W1 b1) (abJ .ready none hI)
    (fun s U U' row hs hgr hr => by obtain ⟨c, hs⟩ := hs; exact ⟨c, abJ .done (some c) (hIx c) s U U' row hs hgr hr⟩) ?_ ⟨i1, r1, d1⟩).mono ?_
  · -- a round
    rintro pre x W ⟨hi, hr, hd⟩ hlen
    have hy := run_yield (P := P) (args := encs x) hr (by rw [hrc]; exact hps x)
    rw [show (rc .ready none).fn = fn by rw [hrc], show (rc .ready none).tmps = a.tmps by rw [hrc], show (rc .ready none).params = ps by rw [hrc], show (rc .ready none).assign = assign by rw [hrc], show (rc .ready none).body = body by rw [hrc]] at hy
    refine ⟨_, _, _, _, hy, ?_⟩
    refine roundIn_of_wpIn hfn (hassign _ pre x W _ hi ?_)
    clear hy
    intro a' Wa ka kpa ia ax
    have ra := ka.same _ _ (by omega) hr rfl
    have da := ka.same _ _ (by omega) hd rfl
    have hlt := (Array.getElem?_eq_some_iff.1 ra).1
    have hst : (rc .ready none).state = .ready := by rw [hrc]
    refine ⟨_, run_beginRound ra hst, ?_⟩
    rw [hbusy]
    generalize hWb : Wa.putObj (w.heap.size + 1) (.loop (rc .busy none)) = Wb
    have rb : Wb.heap[w.heap.size + 1]? = some (.loop (rc .busy none)) := by rw [← hWb]; exact World.putObj_heap_same hlt
    have db : Wb.heap[w.heap.size]? = some (.deferred (some [])) := by rw [← hWb, World.putObj_heap_other (by omega)]; exact da
    have ib : I pre Wb := by rw [← hWb]; exact hI.putObj _ ia (by omega) ra rfl
    have xb : Ax x a' Wb := by rw [← hWb]; exact (hAx x a').putObj (s := ()) _ ax (by omega) ra rfl
    have kpb : KpR n₀ B W Wb := kpa.trans (by rw [← hWb]; exact KpR.put Wa _ _ _ (by omega) (by omega) ra rfl)
    have kb : KeepsFrom W1.heap.size W Wb := ⟨by rw [← hWb]; simpa using ka.size, fun k o hk h1 h2 => by rw [← hWb, World.putObj_heap_other (by omega)]; exact ka.same k o (by omega) h1 h2⟩
    refine wpIn_mono (hbody _ pre x a' Wb (by omega) ⟨_, rb⟩ ib xb hlen) ?_
    have fin : ∀ (j : Option Code) (Wc : World), KeepsFrom w.heap.size Wb Wc →
        (Instr.endRound (w.heap.size + 1) j).run P Wc = .ok (.bool j.isNone) (Wc.putObj (w.heap.size + 1) (.loop (rc (if j.isNone then .ready else .done) j))) ∧
        Wc.heap[w.heap.size + 1]? = some (.loop (rc .busy none)) ∧
        (Wc.putObj (w.heap.size + 1) (.loop (rc (if j.isNone then .ready else .done) j))).heap[w.heap.size + 1]? = some (.loop (rc (if j.isNone then .ready else .done) j)) ∧
        (Wc.putObj (w.heap.size + 1) (.loop (rc (if j.isNone then .ready else .done) j))).heap[w.heap.size]? = some (.deferred (some [])) ∧
        KeepsFrom W1.heap.size W (Wc.putObj (w.heap.size + 1) (.loop (rc (if j.isNone then .ready else .done) j))) := by
      intro j Wc hc
      have rC := hc.same _ _ (by omega) rb rfl
      have dC := hc.same _ _ (by omega) db rfl
      have he := run_endRound (P := P) j rC
      rw [hend] at he
      refine ⟨he, rC, World.putObj_heap_same (Array.getElem?_eq_some_iff.1 rC).1, (World.putObj_heap_other (by omega)).trans dC, ⟨?_, fun k o hk h1 h2 => ?_⟩⟩
      · have := kb.size; have := hc.size; simp; omega
      · rw [World.putObj_heap_other (by omega)]; exact hc.same k o (by omega) (kb.same k o hk h1 h2) h2
    rintro e a3 Wc hp
    cases e with
    | normal =>
      obtain ⟨hc, kpc, ic⟩ := hp
      obtain ⟨he, rC, rD, dD, kD⟩ := fin none Wc hc
      exact ⟨_, _, he, .inl ⟨rfl, ⟨hI.putObj _ ic (by omega) rC rfl, rD, dD⟩, (kpb.trans kpc).trans (KpR.put Wc _ _ _ (by omega) (by omega) rC rfl), kD⟩⟩
    | ret =>
      obtain ⟨hc, ic⟩ := hp
      obtain ⟨he, rC, rD, dD, kD⟩ := fin (some .ret) Wc hc
      exact ⟨_, _, he, .inr ⟨rfl, ⟨_, (hIx _).putObj _ ic (by omega) rC rfl, rD, dD⟩, kD⟩⟩
    | exit id =>
      obtain ⟨hc, ic⟩ := hp
      obtain ⟨he, rC, rD, dD, kD⟩ := fin (some (.exit id)) Wc hc
      exact ⟨_, _, he, .inr ⟨rfl, ⟨_, (hIx _).putObj _ ic (by omega) rC rfl, rD, dD⟩, kD⟩⟩
    | goto t =>
      obtain ⟨hc, ic⟩ := hp
      obtain ⟨he, rC, rD, dD, kD⟩ := fin (some (.goto t)) Wc hc
      exact ⟨_, _, he, .inr ⟨rfl, ⟨_, (hIx _).putObj _ ic (by omega) rC rfl, rD, dD⟩, kD⟩⟩
    | panic ch => exact hp.elim
    | outgrown => exact hp.elim
  · -- behind the iterator
    rintro e W2 ⟨⟨v, rfl⟩, (⟨xs, hS, hi, hr, hd⟩ | ⟨pre, hSp, c, hi, hr, hd⟩)⟩
    · have he := run_endLoop (P := P) hr (by rw [hrc]; simp)
      rw [show (rc .ready none).pending = none by rw [hrc]] at he
      exact ⟨none, _, he, hdone w.heap.size xs _ (Nat.le_refl _) hS (hI.putObj _ hi (by omega) hr rfl) ((World.putObj_heap_other (by omega)).trans hd)⟩
    · have he := run_endLoop (P := P) hr (by rw [hrc]; simp)
      rw [show (rc .done (some c)).pending = some c by rw [hrc]] at he
      exact ⟨some c, _, he, hstop w.heap.size c pre _ (Nat.le_refl _) hSp ((hIx c).putObj _ hi (by omega) hr rfl) ((World.putObj_heap_other (by omega)).trans hd)⟩
end Go.Proofs.YtnhaapcpklfkpaaGreatDoor
