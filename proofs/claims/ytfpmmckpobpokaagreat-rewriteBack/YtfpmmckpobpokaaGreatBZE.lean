/-
  Out of FmR, FmQ, FmP, FmC, FmC2, FmL, FmX, FmO, FmE0, FmE0b, what is asked for (laid by pack9.py).
-/
import Derived.Test.YtfpmmckpobpokaaGreatBZ9
set_option maxRecDepth 100000
set_option maxHeartbeats 4000000
namespace Go.Proofs.YtfpmmckpobpokaaGreat
section
open Go.RowKit Go.Shelf
def rowAt (W : World) (B : Nat) : Option Nat := (W.cell? ⟨B, 0, none⟩).bind Value.ownBlock
theorem rowAt_block {W W' : World} {B : Nat} (h : W'.heap[B]? = W.heap[B]?) : rowAt W' B = rowAt W B := by
 unfold rowAt; rw [World.cell?_of_block (a := ⟨B, 0, none⟩) h]
structure KpR (n₀ B : Nat) (A C : World) : Prop where
 below : Below n₀ A C
 keep : ∀ (b : Nat) (o : Obj), A.heap[b]? = some o → o.isCells = true → b ≠ B → rowAt A B ≠ some b → C.heap[b]? = some o
 row : ∀ g, rowAt C B = some g → rowAt A B = some g ∨ (A.heap.size ≤ g ∧ g < C.heap.size)
theorem KpR.refl (n₀ B : Nat) (A : World) : KpR n₀ B A A := ⟨Below.refl _ _, fun _ _ h _ _ _ => h, fun _ h => .inl h⟩
theorem KpR.trans {n₀ B : Nat} {A C D : World} (h : KpR n₀ B A C) (k : KpR n₀ B C D) : KpR n₀ B A D := by
 refine ⟨h.below.trans k.below, fun b o hb hc hne hr => ?_, fun g hg => ?_⟩
 ·
  refine k.keep b o (h.keep b o hb hc hne hr) hc hne (fun e => ?_)
  rcases h.row b e with e' | ⟨e', _⟩
  ·
   exact hr e'
  ·
   have := (Array.getElem?_eq_some_iff.1 hb).1; omega
 ·
  rcases k.row g hg with e | ⟨e1, e2⟩
  ·
   rcases h.row g e with e' | ⟨e1, e2⟩
   ·
    exact .inl e'
   ·
    exact .inr ⟨e1, Nat.lt_of_lt_of_le e2 k.below.size⟩
  ·
   exact .inr ⟨Nat.le_trans h.below.size e1, e2⟩
theorem KpR.put {n₀ B : Nat} (W : World) (l : Nat) (o o' : Obj) (hl : n₀ ≤ l) (hB : B ≠ l) (h : W.heap[l]? = some o) (hc : o.isCells = false) : KpR n₀ B W (W.putObj l o') := by
 refine ⟨(Below.refl n₀ W).grown (grownBy_putObj' W l o') (by have := (Array.getElem?_eq_some_iff.1 h).1; omega) (fun k e => by cases e; omega), fun b o2 hb hc2 _ _ => ?_, fun g hg => .inl ?_⟩
 ·
  rw [World.putObj_heap_other (fun e => by subst e; rw [h] at hb; cases hb; rw [hc] at hc2; cases hc2)]
  exact hb
 ·
  rw [rowAt_block (World.putObj_heap_other hB)] at hg
  exact hg
theorem KpR.alloc {n₀ B : Nat} (W : World) (o : Obj) (hn : n₀ ≤ W.heap.size) (hB : B < W.heap.size) : KpR n₀ B W (W.alloc o) :=
 ⟨(Below.refl _ _).alloc hn o, fun b _ hb _ _ _ => (Below.heap_alloc W o b (Array.getElem?_eq_some_iff.1 hb).1).trans hb, fun g hg => .inl (by rw [rowAt_block (Below.heap_alloc W o B hB)] at hg; exact hg)⟩
theorem KpR.of {n₀ B : Nat} {W W' : World} (h : Below W.heap.size W W') (hn : n₀ ≤ W.heap.size) (hB : B < W.heap.size) : KpR n₀ B W W' :=
 ⟨h.mono hn, fun b _ hb _ _ _ => (h.block b (Array.getElem?_eq_some_iff.1 hb).1).trans hb, fun g hg => .inl (by rw [rowAt_block (h.block B hB)] at hg; exact hg)⟩
theorem keeps_of {B : Nat} {W W' : World} (h : Below W.heap.size W W') : KeepsFrom B W W' :=
 ⟨h.size, fun k _ _ hk _ => (h.block k (Array.getElem?_eq_some_iff.1 hk).1).trans hk⟩
theorem keeps_mono {B B' : Nat} {W W' : World} (h : KeepsFrom B W W') (hB : B ≤ B') : KeepsFrom B' W W' := ⟨h.size, fun k o hk h1 h2 => h.same k o (by omega) h1 h2⟩
def Ab {β : Type} (B : Nat) (X : Nat → Prop) (m : Nat) (J : β → World → Prop) : Prop :=
 ∀ s W W' row, J s W → W.grownBy W' row → (∀ r, row = some r → (X r ∨ m ≤ r) ∧ ((∃ o : Obj, W.heap[r]? = some o ∧ o.isCells = false) ∨ (rowAt W B ≠ some r ∧ ∃ cs fz, W.heap[r]? = some (.cells cs 9 fz)))) → J s W'
theorem Ab.putObj {β : Type} {B m : Nat} {X : Nat → Prop} {J : β → World → Prop} (h : Ab B X m J) {s : β} {W : World} {l : Nat} {o : Obj} (o' : Obj) (hs : J s W) (hm : m ≤ l) (hl : W.heap[l]? = some o) (ho : o.isCells = false) : J s (W.putObj l o') :=
 h s W _ (some l) hs (grownBy_putObj' W l o') (fun r e => by cases e; exact ⟨.inr hm, .inl ⟨o, hl, ho⟩⟩)
theorem Ab.alloc {β : Type} {B m : Nat} {X : Nat → Prop} {J : β → World → Prop} (h : Ab B X m J) {s : β} {W : World} (o : Obj) (hs : J s W) : J s (W.alloc o) :=
 h s W _ none hs (World.grownBy_alloc W o none) (fun r e => by cases e)
theorem Ab.and {β : Type} {B m : Nat} {X : Nat → Prop} {J J' : β → World → Prop} (h : Ab B X m J) (h' : Ab B X m J') : Ab B X m (fun s W => J s W ∧ J' s W) :=
 fun s W W' row hs hg hr => ⟨h s W W' row hs.1 hg hr, h' s W W' row hs.2 hg hr⟩
theorem Ab.below {β : Type} {B m : Nat} {X : Nat → Prop} {J : β → World → Prop} (h : Ab B X m J) {s : β} {W W' : World} (hs : J s W) (hb : Below W.heap.size W W') : J s W' :=
 h s W W' none hs ⟨hb.os, hb.tape, hb.output, hb.size, fun i hi _ => hb.block i hi⟩ (fun r e => by cases e)
theorem Ab.set {β : Type} {B m : Nat} {X : Nat → Prop} {J : β → World → Prop} (h : Ab B X m J) {s : β} {W : World} {b : Nat} (v : Value) (hs : J s W) (hb : X b ∨ m ≤ b) (hr : rowAt W B ≠ some b) (ht : ∃ cs fz, W.heap[b]? = some (.cells cs 9 fz)) : J s (W.setCell ⟨b, 0, none⟩ v) :=
 h s W _ (some b) hs (grownBy_setCell' W b v) (fun r e => by cases e; exact ⟨hb, .inr ⟨hr, ht⟩⟩)
theorem ab_pure {β : Type} (B m : Nat) (X : Nat → Prop) (p : β → Prop) : Ab B X m (fun s (_ : World) => p s) := fun _ _ _ _ hs _ _ => hs
theorem ab_below {β : Type} {B m n₀ : Nat} {X : Nat → Prop} {w₀ : World} (hn : n₀ ≤ w₀.heap.size) (hm : n₀ ≤ m) (hX : ∀ r, X r → n₀ ≤ r) : Ab B X m (fun (_ : β) W => Below n₀ w₀ W) :=
 fun _ _ _ _ hs hg hr => hs.grown hg (Nat.le_trans hn hs.size) (fun k e => by rcases (hr k e).1 with h | h; exact hX k h; exact Nat.le_trans hm h)
structure Sf (B : Nat) (W : World) (b : Nat) (cs : Array Value) (t : TypeId) : Prop where
 at_ : W.heap[b]? = some (.cells cs t (0, 0))
 ne : b ≠ B
 row : rowAt W B ≠ some b
 lb : B < W.heap.size
theorem Sf.lt {B : Nat} {W : World} {b : Nat} {cs : Array Value} {t : TypeId} (h : Sf B W b cs t) : b < W.heap.size := (Array.getElem?_eq_some_iff.1 h.at_).1
theorem Sf.kept {B n₀ : Nat} {W W' : World} {b : Nat} {cs : Array Value} {t : TypeId} (h : Sf B W b cs t) (k : KpR n₀ B W W') : Sf B W' b cs t :=
 ⟨k.keep b _ h.at_ rfl h.ne h.row, h.ne, fun e => by
  rcases k.row b e with e' | ⟨e', _⟩
  ·
   exact h.row e'
  ·
   have := h.lt; omega, Nat.lt_of_lt_of_le h.lb k.below.size⟩
theorem Sf.below {B : Nat} {W W' : World} {b : Nat} {cs : Array Value} {t : TypeId} (h : Sf B W b cs t) (k : Below W.heap.size W W') : Sf B W' b cs t :=
 ⟨(k.block b h.lt).trans h.at_, h.ne, by rw [rowAt_block (k.block B h.lb)]; exact h.row, Nat.lt_of_lt_of_le h.lb k.size⟩
theorem Sf.cell {B : Nat} {W : World} {b : Nat} {cs : Array Value} {t : TypeId} (h : Sf B W b cs t) (i : Nat) : W.cell? ⟨b, i, none⟩ = cs[i]? := by simp [World.cell?, h.at_]
theorem Sf.frozen {B : Nat} {W : World} {b : Nat} {v : Value} {t : TypeId} (h : Sf B W b #[v] t) : W.frozen? ⟨b, 0, none⟩ = false := Boxed.frozen (t := t) (v := v) h.at_
theorem Sf.set {B : Nat} {W : World} {b : Nat} {v : Value} {t : TypeId} (h : Sf B W b #[v] t) (u : Value) : Sf B (W.setCell ⟨b, 0, none⟩ u) b #[u] t :=
 ⟨Boxed.set (v := v) u h.at_, h.ne, by rw [rowAt_block (Below.heap_setCell W ⟨b, 0, none⟩ u B (fun e => h.ne e.symm))]; exact h.row, Nat.lt_of_lt_of_le h.lb (grownBy_setCell' W b u).size⟩
theorem Sf.other {B : Nat} {W : World} {b c : Nat} {cs : Array Value} {t : TypeId} (h : Sf B W b cs t) (hc : b ≠ c) (hB : c ≠ B) (u : Value) : Sf B (W.setCell ⟨c, 0, none⟩ u) b cs t :=
 ⟨(Below.heap_setCell W ⟨c, 0, none⟩ u b hc).trans h.at_, h.ne, by rw [rowAt_block (Below.heap_setCell W ⟨c, 0, none⟩ u B (fun e => hB e.symm))]; exact h.row, Nat.lt_of_lt_of_le h.lb (grownBy_setCell' W c u).size⟩
theorem Sf.new {B : Nat} (W : World) (cs : Array Value) (t : TypeId) (hB : B < W.heap.size) (hr : ∀ g, rowAt W B = some g → g < W.heap.size) : Sf B (W.alloc (.cells cs t)) W.heap.size cs t :=
 ⟨World.alloc_heap_new W _, by omega, by rw [rowAt_block (Below.heap_alloc W _ B hB)]; exact fun e => by have := hr _ e; omega, by simp; omega⟩
theorem Sf.alloc {B : Nat} {W : World} {b : Nat} {cs : Array Value} {t : TypeId} (h : Sf B W b cs t) (o : Obj) : Sf B (W.alloc o) b cs t := h.below ((Below.refl _ W).alloc (Nat.le_refl _) o)
theorem ab_sf {β : Type} {B m b : Nat} {X : Nat → Prop} (f : β → Array Value) (t : TypeId) (hb : b < m) (hX : ¬ X b) (hB : B < m) (hXB : ¬ X B) : Ab B X m (fun s W => Sf B W b (f s) t) :=
 fun s W W' row hs hg hr => by
  have hne : ∀ c, c < m → ¬ X c → some c ≠ row := fun c h1 h2 e => by rcases (hr c e.symm).1 with h | h; exact h2 h; omega
  exact ⟨(hg.block b hs.lt (hne b hb hX)).trans hs.at_, hs.ne, by rw [rowAt_block (hg.block B hs.lb (hne B hB hXB))]; exact hs.row, Nat.lt_of_lt_of_le hs.lb hg.size⟩
def RowIn (B : Nat) (W : World) : Prop := B < W.heap.size ∧ ∀ g, rowAt W B = some g → g < W.heap.size
theorem RowIn.kept {B n₀ : Nat} {W W' : World} (h : RowIn B W) (k : KpR n₀ B W W') : RowIn B W' :=
 ⟨Nat.lt_of_lt_of_le h.1 k.below.size, fun g hg => by rcases k.row g hg with e | e; exact Nat.lt_of_lt_of_le (h.2 g e) k.below.size; exact e.2⟩
theorem RowIn.below {B : Nat} {W W' : World} (h : RowIn B W) (k : Below W.heap.size W W') : RowIn B W' :=
 ⟨Nat.lt_of_lt_of_le h.1 k.size, fun g hg => by rw [rowAt_block (k.block B h.1)] at hg; exact Nat.lt_of_lt_of_le (h.2 g hg) k.size⟩
theorem RowIn.set {B : Nat} {W : World} (h : RowIn B W) {b : Nat} (hb : b ≠ B) (u : Value) : RowIn B (W.setCell ⟨b, 0, none⟩ u) :=
 ⟨Nat.lt_of_lt_of_le h.1 (grownBy_setCell' W b u).size, fun g hg => by rw [rowAt_block (Below.heap_setCell W ⟨b, 0, none⟩ u B (fun e => hb e.symm))] at hg; exact Nat.lt_of_lt_of_le (h.2 g hg) (grownBy_setCell' W b u).size⟩
theorem ab_rowIn {β : Type} {B m : Nat} {X : Nat → Prop} (hB : B < m) (hXB : ¬ X B) : Ab B X m (fun (_ : β) W => RowIn B W) :=
 fun s W W' row hs hg hr => by
  have hne : some B ≠ row := fun e => by rcases (hr B e.symm).1 with h | h; exact hXB h; omega
  exact ⟨Nat.lt_of_lt_of_le hs.1 hg.size, fun g e => by rw [rowAt_block (hg.block B hs.1 hne)] at e; exact Nat.lt_of_lt_of_le (hs.2 g e) hg.size⟩
theorem Ab.mono {β : Type} {B m m' : Nat} {X X' : Nat → Prop} {J : β → World → Prop} (h : Ab B X m J) (hm : ∀ r, X' r ∨ m' ≤ r → X r ∨ m ≤ r) : Ab B X' m' J :=
 fun s W W' row hs hg hr => h s W W' row hs hg (fun r e => ⟨hm r (hr r e).1, (hr r e).2⟩)
theorem Ab.comp {β γ : Type} {B m : Nat} {X : Nat → Prop} {J : β → World → Prop} (h : Ab B X m J) (f : γ → β) : Ab B X m (fun s W => J (f s) W) := fun s W W' row hs hg hr => h (f s) W W' row hs hg hr
def mkD (D : Nat) : Deferred := { target := .collected D, args := #[] }
structure Mk (m M : Nat) (Ds : List Nat) (W : World) : Prop where
 nodup : Ds.Nodup
 at_ : ∀ D ∈ Ds, m ≤ D ∧ D < M ∧ W.heap[D]? = some (.deferred (some []))
theorem Mk.nil (m M : Nat) (W : World) : Mk m M [] W := ⟨List.nodup_nil, fun _ h => by cases h⟩
theorem Mk.cons {m M M' D : Nat} {Ds : List Nat} {W : World} (h : Mk m M Ds W) (hm : m ≤ D) (h1 : M ≤ D) (h2 : D < M') (hd : W.heap[D]? = some (.deferred (some []))) : Mk m M' (D :: Ds) W :=
 ⟨List.nodup_cons.2 ⟨fun hD => by have := (h.at_ D hD).2.1; omega, h.nodup⟩, fun E hE => by
  rcases List.mem_cons.1 hE with rfl | hE
  ·
   exact ⟨hm, h2, hd⟩
  ·
   obtain ⟨a, b, c⟩ := h.at_ E hE; exact ⟨a, by omega, c⟩⟩
theorem Mk.keeps {m M k : Nat} {Ds : List Nat} {W W' : World} (h : Mk m M Ds W) (hk : KeepsFrom k W W') (hm : k ≤ m) : Mk m M Ds W' :=
 ⟨h.nodup, fun D hD => by obtain ⟨a, b, c⟩ := h.at_ D hD; exact ⟨a, b, hk.same D _ (by omega) c rfl⟩⟩
theorem Mk.below {m M : Nat} {Ds : List Nat} {W W' : World} (h : Mk m M Ds W) (hk : Below W.heap.size W W') : Mk m M Ds W' := h.keeps (k := 0) (keeps_of hk) (Nat.zero_le _)
theorem ab_mk {β : Type} {B m M k : Nat} {X : Nat → Prop} (Ds : List Nat) (hM : M ≤ k) (hX : ∀ r, X r → M ≤ r) : Ab B X k (fun (_ : β) W => Mk m M Ds W) :=
 fun s W W' row hs hg hr => ⟨hs.nodup, fun D hD => by
  obtain ⟨a, b, c⟩ := hs.at_ D hD
  refine ⟨a, b, (hg.block D (Array.getElem?_eq_some_iff.1 c).1 (fun e => ?_)).trans c⟩
  rcases (hr D e.symm).1 with h | h
  ·
   have := hX D h; omega
  ·
   omega⟩
theorem Mk.rest {m M D : Nat} {Ds : List Nat} {W : World} (h : Mk m M (D :: Ds) W) : Mk m M Ds (W.putObj D (.deferred none)) := by
 have hn := List.nodup_cons.1 h.nodup
 refine ⟨hn.2, fun E hE => ?_⟩
 obtain ⟨a', b', c'⟩ := h.at_ E (List.mem_cons_of_mem _ hE)
 exact ⟨a', b', (World.putObj_heap_other (k := E) (r := D) (fun e => hn.1 (by rw [← e]; exact hE))).trans c'⟩
def shut (Ds : List Nat) (W : World) : World := Ds.foldl (fun X D => X.putObj D (.deferred none)) W
theorem shut_ab {β : Type} {B k m M : Nat} {X : Nat → Prop} {J : β → World → Prop} (hJ : Ab B X k J) (hk : k ≤ m) {s : β} : ∀ (Ds : List Nat) (W : World), Mk m M Ds W → J s W → J s (shut Ds W)
 | [], _, _, hs => hs
 | D :: Ds, W, h, hs => by
  obtain ⟨a, b, c⟩ := h.at_ D (List.mem_cons_self ..)
  exact shut_ab hJ hk Ds (W.putObj D (.deferred none)) h.rest (hJ.putObj _ hs (by omega) c rfl)
theorem leaves_marks {P : Program} {fn : Func} {tmps : Array Value} {R : Ending → World → Prop} {m M : Nat} : ∀ (Ds : List Nat) (W : World), Mk m M Ds W → (∃ v, (results fn tmps).run P (shut Ds W) = .ok v (shut Ds W) ∧ R (.returned v) (shut Ds W)) → LeavesInM Fence.wide 0 P fn tmps R (Ds.map mkD) .returning W
 | [], W, _, hs => hs
 | D :: Ds, W, h, hs => by
  obtain ⟨a, b, c⟩ := h.at_ D (List.mem_cons_self ..)
  exact ⟨by simp, .inl ⟨D, _, rfl, run_takeDeferred c, leaves_marks Ds (W.putObj D (.deferred none)) h.rest hs⟩⟩
def SeqR {α : Type} (n₀ B : Nat) (X : Nat → Prop) (P : Program) (g : Nat) (lb : Array Value) (encs : α → Array Value) (S Sp : List α → Prop) (N : Nat) (It : World → Prop) : Prop :=
 ∀ (l : Nat) (J Jx : List α → World → Prop) (W : World), It W → Ab B X W.heap.size J → Ab B X W.heap.size Jx →
  (∀ pre x W1, J pre W1 → pre.length < N → YieldAt Fence.wide 0 P l (encs x) W1 fun e W' =>
   (e = .returned (.bool true) ∧ J (pre ++ [x]) W' ∧ KpR n₀ B W1 W' ∧ KeepsFrom W.heap.size W1 W') ∨ (e = .returned (.bool false) ∧ Jx (pre ++ [x]) W' ∧ KeepsFrom W.heap.size W1 W')) →
  J [] W →
  CallsIn Fence.wide 0 P g (#[.func (.yield l) #[] #[]] ++ lb) W fun e W' => (∃ v, e = .returned v) ∧ ((∃ xs, S xs ∧ J xs W') ∨ (∃ pre, Sp pre ∧ Jx pre W'))
def postR {α : Type} (n₀ B m : Nat) (I : List α → World → Prop) (Ix : Code → List α → World → Prop) (xs : List α) (W : World) : Exit → Act → World → Prop
 | .normal, _, W' => KeepsFrom m W W' ∧ KpR n₀ B W W' ∧ I xs W'
 | .ret, _, W' => KeepsFrom m W W' ∧ Ix .ret xs W'
 | .exit id, _, W' => KeepsFrom m W W' ∧ Ix (.exit id) xs W'
 | .goto t, _, W' => KeepsFrom m W W' ∧ Ix (.goto t) xs W'
 | .panic _, _, _ => False
 | .outgrown, _, _ => False
theorem rangeR {α : Type} {P : Program} {g : Operand} {ps : Array Tmp} {assign body : Code} {Q : Exit → Act → World → Prop} {a : Act} {w : World} {gf : Nat} {lb : Array Value}
  (hg : a.eval g = .func (.func gf) #[] lb) (eg : ∀ args w, (callFunc gf args).run P w = .ok (.enter gf args) w)
  {encs : α → Array Value} {S Sp : List α → Prop} {N n₀ B : Nat} {X : Nat → Prop} {It : World → Prop} (hseq : SeqR n₀ B X P gf lb encs S Sp N It) (hIt : ∀ W, Below w.heap.size w W → It W) (hps : ∀ x, (encs x).size = ps.size)
  (hn : n₀ ≤ w.heap.size) (hB : B < w.heap.size) (hX : ∀ r, X r → r < w.heap.size)
  (I : List α → World → Prop) (Ix : Code → List α → World → Prop) (hI : Ab B X w.heap.size I) (hIx : ∀ c, Ab B X w.heap.size (Ix c)) (h0 : I [] w)
  (Ax : α → Act → World → Prop) (hAx : ∀ x a', OwnFrom w.heap.size (fun (_ : Unit) W => Ax x a' W))
  (hassign : ∀ (l : Nat) (pre : List α) (x : α) (W : World) (K : Act → World → Prop), I pre W → (∀ a' W', KeepsFrom w.heap.size W W' → KpR n₀ B W W' → I pre W' → Ax x a' W' → K a' W') →
   assign.wpIn (Fence.wide.inRound l) 0 P (Exit.then K (fun _ _ _ => False)) { tmps := (ps.zip (encs x)).foldl (fun t (p, v) => t.setIfInBounds p v) a.tmps, defers := [] } W)
  (hbody : ∀ (l : Nat) (pre : List α) (x : α) (a' : Act) (W : World), w.heap.size ≤ l → (∃ r, W.heap[l]? = some (.loop r)) → I pre W → Ax x a' W → pre.length < N → body.wpIn (Fence.wide.inRound l) 0 P (postR n₀ B w.heap.size I Ix (pre ++ [x]) W) a' W)
  (hdone : ∀ (D : Nat) (xs : List α) (W : World), w.heap.size ≤ D → S xs → I xs W → W.heap[D]? = some (.deferred (some [])) → Q .normal { a with defers := { target := .collected D, args := #[] } :: a.defers } W)
  (hstop : ∀ (D : Nat) (c : Code) (pre : List α) (W : World), w.heap.size ≤ D → Sp pre → Ix c pre W → W.heap[D]? = some (.deferred (some [])) → c.wpIn Fence.wide 0 P Q { a with defers := { target := .collected D, args := #[] } :: a.defers } W) :
  (Code.rangeFunc g ps assign body).wpIn Fence.wide 0 P Q a w := by
 refine wpIn_rangeFunc fun fn hfn => ?_
 -- the record, by its state and its pending jump
 obtain ⟨rc, hrc⟩ : ∃ rc : LoopState → Option Code → Loop, ∀ s p, rc s p = { state := s, pending := p, fn := fn, tmps := a.tmps, params := ps, assign := assign, body := body, defers := w.heap.size } := ⟨fun s p => _, fun _ _ => rfl⟩
 have hbusy : { rc .ready none with state := .busy } = rc .busy none := by rw [hrc, hrc]
 have hend : ∀ j : Option Code, { rc .busy none with state := if j.isNone then .ready else .done, pending := j } = rc (if j.isNone then .ready else .done) j := fun j => by rw [hrc, hrc]
 generalize hW1 : (w.alloc (.deferred (some []))).alloc (.loop (rc .ready none)) = W1
 have z1 : W1.heap.size = w.heap.size + 2 := by rw [← hW1]; simp
 have r1 : W1.heap[w.heap.size + 1]? = some (.loop (rc .ready none)) := by
  rw [← hW1, show w.heap.size + 1 = (w.alloc (.deferred (some []))).heap.size by simp]
  exact World.alloc_heap_new _ _
 have d1 : W1.heap[w.heap.size]? = some (.deferred (some [])) := by
  rw [← hW1, Below.heap_alloc _ _ _ (by simp)]
  exact World.alloc_heap_new w _
 have i1 : I [] W1 := by rw [← hW1]; exact hI.alloc _ (hI.alloc _ h0)
 have b1 : Below w.heap.size w W1 := by rw [← hW1]; exact ((Below.refl _ w).alloc (Nat.le_refl _) _).alloc (by simp) _
 -- what holds between two rounds, and behind a round that has left
 have abJ : ∀ {K : List α → World → Prop} (st : LoopState) (pe : Option Code), Ab B X w.heap.size K → Ab B X W1.heap.size (fun pre W => K pre W ∧ W.heap[w.heap.size + 1]? = some (.loop (rc st pe)) ∧ W.heap[w.heap.size]? = some (.deferred (some []))) := by
  intro K st pe hK s U U' row hs hgr hr
  have hne : ∀ k, w.heap.size ≤ k → k < W1.heap.size → some k ≠ row := fun k h1 h2 e => by
   rcases (hr k e.symm).1 with h | h
   ·
    have := hX k h; omega
   ·
    omega
  refine ⟨hK s U U' row hs.1 hgr (fun r e => ⟨(hr r e).1.imp id (fun h => by omega), (hr r e).2⟩), ?_, ?_⟩
  ·
   exact (hgr.block _ (Array.getElem?_eq_some_iff.1 hs.2.1).1 (hne _ (by omega) (by omega))).trans hs.2.1
  ·
   exact (hgr.block _ (Array.getElem?_eq_some_iff.1 hs.2.2).1 (hne _ (by omega) (by omega))).trans hs.2.2
 refine ⟨w.heap.size + 1, [{ target := .collected w.heap.size, args := #[] }], W1, { target := .fn (.func gf) lb, args := #[.func (.yield (w.heap.size + 1)) #[] #[]] }, W1, gf, #[.func (.yield (w.heap.size + 1)) #[] #[]] ++ lb, W1, ?_, ?_, fun _ _ => trivial, ?_, (fun h => (by cases h)), ?_⟩
 ·
  rw [← hW1, hrc]; exact run_enterLoop_outer _ _ _ _ _
 ·
  simp only [resolve, hg]; simp [go_sem]
 ·
  simp [invoke, go_sem, eg]
 refine (hseq (w.heap.size + 1) _ (fun pre W => ∃ c, Ix c pre W ∧ W.heap[w.heap.size + 1]? = some (.loop (rc .done (some c))) ∧ W.heap[w.heap.size]? = some (.deferred (some []))) W1 (hIt W1 b1) (abJ .ready none hI)
  (fun s U U' row hs hgr hr => by obtain ⟨c, hs⟩ := hs; exact ⟨c, abJ .done (some c) (hIx c) s U U' row hs hgr hr⟩) ?_ ⟨i1, r1, d1⟩).mono ?_
 ·
  -- a round
  rintro pre x W ⟨hi, hr, hd⟩ hlen
  have hy := run_yield (P := P) (args := encs x) hr (by rw [hrc]; exact hps x)
  rw [show (rc .ready none).fn = fn by rw [hrc], show (rc .ready none).tmps = a.tmps by rw [hrc], show (rc .ready none).params = ps by rw [hrc], show (rc .ready none).assign = assign by rw [hrc], show (rc .ready none).body = body by rw [hrc]] at hy
  refine ⟨_, _, _, _, hy, ?_⟩
  refine roundIn_of_wpIn hfn (hassign _ pre x W _ hi ?_)
  clear hy
  intro a' Wa ka kpa ia ax
  have ra := ka.same _ _ (by omega) hr rfl
  have da := ka.same _ _ (by omega) hd rfl
  have hlt := (Array.getElem?_eq_some_iff.1 ra).1
  have hst : (rc .ready none).state = .ready := by rw [hrc]
  refine ⟨_, run_beginRound ra hst, ?_⟩
  rw [hbusy]
  generalize hWb : Wa.putObj (w.heap.size + 1) (.loop (rc .busy none)) = Wb
  have rb : Wb.heap[w.heap.size + 1]? = some (.loop (rc .busy none)) := by rw [← hWb]; exact World.putObj_heap_same hlt
  have db : Wb.heap[w.heap.size]? = some (.deferred (some [])) := by rw [← hWb, World.putObj_heap_other (by omega)]; exact da
  have ib : I pre Wb := by rw [← hWb]; exact hI.putObj _ ia (by omega) ra rfl
  have xb : Ax x a' Wb := by rw [← hWb]; exact (hAx x a').putObj (s := ()) _ ax (by omega) ra rfl
  have kpb : KpR n₀ B W Wb := kpa.trans (by rw [← hWb]; exact KpR.put Wa _ _ _ (by omega) (by omega) ra rfl)
  have kb : KeepsFrom W1.heap.size W Wb := ⟨by rw [← hWb]; simpa using ka.size, fun k o hk h1 h2 => by rw [← hWb, World.putObj_heap_other (by omega)]; exact ka.same k o (by omega) h1 h2⟩
  refine wpIn_mono (hbody _ pre x a' Wb (by omega) ⟨_, rb⟩ ib xb hlen) ?_
  have fin : ∀ (j : Option Code) (Wc : World), KeepsFrom w.heap.size Wb Wc →
    (Instr.endRound (w.heap.size + 1) j).run P Wc = .ok (.bool j.isNone) (Wc.putObj (w.heap.size + 1) (.loop (rc (if j.isNone then .ready else .done) j))) ∧
    Wc.heap[w.heap.size + 1]? = some (.loop (rc .busy none)) ∧
    (Wc.putObj (w.heap.size + 1) (.loop (rc (if j.isNone then .ready else .done) j))).heap[w.heap.size + 1]? = some (.loop (rc (if j.isNone then .ready else .done) j)) ∧
    (Wc.putObj (w.heap.size + 1) (.loop (rc (if j.isNone then .ready else .done) j))).heap[w.heap.size]? = some (.deferred (some [])) ∧
    KeepsFrom W1.heap.size W (Wc.putObj (w.heap.size + 1) (.loop (rc (if j.isNone then .ready else .done) j))) := by
   intro j Wc hc
   have rC := hc.same _ _ (by omega) rb rfl
   have dC := hc.same _ _ (by omega) db rfl
   have he := run_endRound (P := P) j rC
   rw [hend] at he
   refine ⟨he, rC, World.putObj_heap_same (Array.getElem?_eq_some_iff.1 rC).1, (World.putObj_heap_other (by omega)).trans dC, ⟨?_, fun k o hk h1 h2 => ?_⟩⟩
   ·
    have := kb.size; have := hc.size; simp; omega
   ·
    rw [World.putObj_heap_other (by omega)]; exact hc.same k o (by omega) (kb.same k o hk h1 h2) h2
  rintro e a3 Wc hp
  cases e with
  | normal =>
   obtain ⟨hc, kpc, ic⟩ := hp
   obtain ⟨he, rC, rD, dD, kD⟩ := fin none Wc hc
   exact ⟨_, _, he, .inl ⟨rfl, ⟨hI.putObj _ ic (by omega) rC rfl, rD, dD⟩, (kpb.trans kpc).trans (KpR.put Wc _ _ _ (by omega) (by omega) rC rfl), kD⟩⟩
  | ret =>
   obtain ⟨hc, ic⟩ := hp
   obtain ⟨he, rC, rD, dD, kD⟩ := fin (some .ret) Wc hc
   exact ⟨_, _, he, .inr ⟨rfl, ⟨_, (hIx _).putObj _ ic (by omega) rC rfl, rD, dD⟩, kD⟩⟩
  | exit id =>
   obtain ⟨hc, ic⟩ := hp
   obtain ⟨he, rC, rD, dD, kD⟩ := fin (some (.exit id)) Wc hc
   exact ⟨_, _, he, .inr ⟨rfl, ⟨_, (hIx _).putObj _ ic (by omega) rC rfl, rD, dD⟩, kD⟩⟩
  | goto t =>
   obtain ⟨hc, ic⟩ := hp
   obtain ⟨he, rC, rD, dD, kD⟩ := fin (some (.goto t)) Wc hc
   exact ⟨_, _, he, .inr ⟨rfl, ⟨_, (hIx _).putObj _ ic (by omega) rC rfl, rD, dD⟩, kD⟩⟩
  | panic ch => exact hp.elim
  | outgrown => exact hp.elim
 ·
  -- behind the iterator
  rintro e W2 ⟨⟨v, rfl⟩, (⟨xs, hS, hi, hr, hd⟩ | ⟨pre, hSp, c, hi, hr, hd⟩)⟩
  ·
   have he := run_endLoop (P := P) hr (by rw [hrc]; simp)
   rw [show (rc .ready none).pending = none by rw [hrc]] at he
   exact ⟨none, _, he, hdone w.heap.size xs _ (Nat.le_refl _) hS (hI.putObj _ hi (by omega) hr rfl) ((World.putObj_heap_other (by omega)).trans hd)⟩
  ·
   have he := run_endLoop (P := P) hr (by rw [hrc]; simp)
   rw [show (rc .done (some c)).pending = some c by rw [hrc]] at he
   exact ⟨some c, _, he, hstop w.heap.size c pre _ (Nat.le_refl _) hSp ((hIx c).putObj _ hi (by omega) hr rfl) ((World.putObj_heap_other (by omega)).trans hd)⟩
end
section
open Go.RowKit Go.Shelf
theorem leave_one {P : Program} {fn : Func} {tmps : Array Value} {R : Ending → World → Prop} {D : Nat} {Y : World} (hd : Y.heap[D]? = some (.deferred (some []))) (h : ∃ v, (results fn tmps).run P (Y.putObj D (.deferred none)) = .ok v (Y.putObj D (.deferred none)) ∧ R (.returned v) (Y.putObj D (.deferred none))) :
  LeavesInM Fence.wide 0 P fn tmps R [{ target := .collected D, args := #[] }] .returning Y :=
 leaves_marks (m := 0) (M := D + 1) [D] Y ⟨by simp, fun E hE => by rw [List.mem_singleton.1 hE]; exact ⟨Nat.zero_le _, Nat.lt_succ_self _, hd⟩⟩ h
theorem put_below {w Y : World} {D : Nat} {o : Obj} (h : Below w.heap.size w Y) (hD : w.heap.size ≤ D) : Below w.heap.size w (Y.putObj D o) :=
 h.grown (grownBy_putObj' Y D o) h.size (fun k e => by cases e; exact hD)
end
section
open Go.RowKit Go.Shelf
attribute [local go_sem] Oper.semAt_some
def preF : Fo → List (Hd × Fo)
 | .nil => []
 | .cons h k r => (h, k) :: (preF k ++ preF r)
theorem preF_len : ∀ F : Fo, (preF F).length = F.many
 | .nil => rfl
 | .cons h k r => by simp [preF, Fo.many, preF_len k, preF_len r]; omega
def Pt (w₀ : World) (D : Nat → Prop) : Type := { x : (Nat × Nat) × (Hd × Fo) // Row w₀ D (.cons x.2.1 x.2.2 .nil) x.1.1 x.1.2 }
def Pt.enc {w₀ : World} {D : Nat → Prop} (x : Pt w₀ D) : Array Value := #[.pointer (some ⟨x.1.1.1, x.1.1.2, none⟩)]
def Pt.gh {w₀ : World} {D : Nat → Prop} (x : Pt w₀ D) : Hd × Fo := x.1.2
structure Dk (n₀ B : Nat) (D : Nat → Prop) (w₀ W : World) : Prop where
 same : ∀ c, D c → W.heap[c]? = w₀.heap[c]?
 lt : ∀ c, D c → c < W.heap.size
 safe : ∀ c, D c → c < n₀ ∨ ((∃ o : Obj, W.heap[c]? = some o ∧ o.isCells = true) ∧ c ≠ B ∧ rowAt W B ≠ some c)
 lb : B < W.heap.size
theorem Dk.kept {n₀ B : Nat} {D : Nat → Prop} {w₀ W W' : World} (h : Dk n₀ B D w₀ W) (k : KpR n₀ B W W') : Dk n₀ B D w₀ W' := by
 have hs : ∀ c, D c → W'.heap[c]? = W.heap[c]? := fun c hc => by
  rcases h.safe c hc with h1 | ⟨⟨o, ho, hoc⟩, h2, h3⟩
  ·
   exact k.below.block c h1
  ·
   rw [ho]; exact k.keep c o ho hoc h2 h3
 refine ⟨fun c hc => (hs c hc).trans (h.same c hc), fun c hc => Nat.lt_of_lt_of_le (h.lt c hc) k.below.size, fun c hc => ?_, Nat.lt_of_lt_of_le h.lb k.below.size⟩
 rcases h.safe c hc with h1 | ⟨⟨o, ho, hoc⟩, h2, h3⟩
 ·
  exact .inl h1
 ·
  refine .inr ⟨⟨o, (hs c hc).trans ho, hoc⟩, h2, fun e => ?_⟩
  rcases k.row c e with e' | ⟨e', _⟩
  ·
   exact h3 e'
  ·
   have := h.lt c hc; omega
theorem Dk.below {n₀ B : Nat} {D : Nat → Prop} {w₀ W W' : World} (h : Dk n₀ B D w₀ W) (k : Below W.heap.size W W') : Dk n₀ B D w₀ W' := by
 have hs : ∀ c, D c → W'.heap[c]? = W.heap[c]? := fun c hc => k.block c (h.lt c hc)
 refine ⟨fun c hc => (hs c hc).trans (h.same c hc), fun c hc => Nat.lt_of_lt_of_le (h.lt c hc) k.size, fun c hc => ?_, Nat.lt_of_lt_of_le h.lb k.size⟩
 rcases h.safe c hc with h1 | ⟨⟨o, ho, hoc⟩, h2, h3⟩
 ·
  exact .inl h1
 ·
  exact .inr ⟨⟨o, (hs c hc).trans ho, hoc⟩, h2, by rw [rowAt_block (k.block B h.lb)]; exact h3⟩
theorem ab_dk {β : Type} {n₀ B m : Nat} {X D : Nat → Prop} {w₀ : World} (hD : ∀ c, D c → c < m ∧ ¬ X c) (hB : B < m) (hXB : ¬ X B) : Ab B X m (fun (_ : β) W => Dk n₀ B D w₀ W) :=
 fun s W W' row h hg hr => by
  have hne : ∀ c, c < m → ¬ X c → some c ≠ row := fun c h1 h2 e => by rcases (hr c e.symm).1 with h | h; exact h2 h; omega
  have hs : ∀ c, D c → W'.heap[c]? = W.heap[c]? := fun c hc => hg.block c (h.lt c hc) (hne c (hD c hc).1 (hD c hc).2)
  refine ⟨fun c hc => (hs c hc).trans (h.same c hc), fun c hc => Nat.lt_of_lt_of_le (h.lt c hc) hg.size, fun c hc => ?_, Nat.lt_of_lt_of_le h.lb hg.size⟩
  rcases h.safe c hc with h1 | ⟨⟨o, ho, hoc⟩, h2, h3⟩
  ·
   exact .inl h1
  ·
   exact .inr ⟨⟨o, (hs c hc).trans ho, hoc⟩, h2, by rw [rowAt_block (hg.block B h.lb (hne B hB hXB))]; exact h3⟩
theorem Dk.cell {n₀ B : Nat} {D : Nat → Prop} {w₀ W : World} (h : Dk n₀ B D w₀ W) {c : Nat} (hc : D c) (i : Nat) : W.cell? ⟨c, i, none⟩ = w₀.cell? ⟨c, i, none⟩ := World.cell?_of_block (h.same c hc)
theorem parts_any (b o : Nat) (w : World) : Calls Tryz.prog 46 #[.pointer (some ⟨b, o, none⟩)] w fun e w' => e = .returned (.func (.func 76) #[] #[.pointer (some ⟨w.heap.size, 0, none⟩)]) ∧ w' = w.alloc (.cells #[.pointer (some ⟨b, o, none⟩)] 74) := by
 go_enter Tryz.func46, Tryz.ntmps46
 go_wp2
 go_ret
 exact ⟨rfl, rfl⟩
def PartsC (k : Fo) : Prop :=
 ∀ (n₀ B : Nat) (D : Nat → Prop) (w₀ : World) (h : Hd) (b o bx : Nat), Row w₀ D (.cons h k .nil) b o →
  SeqR n₀ B (fun _ => False) Tryz.prog 76 #[.pointer (some ⟨bx, 0, none⟩)] (Pt.enc (w₀ := w₀) (D := D)) (fun xs => xs.map Pt.gh = preF (.cons h k .nil)) (fun pre => pre.map Pt.gh <+: preF (.cons h k .nil)) (preF (.cons h k .nil)).length
   (fun W => Sf B W bx #[.pointer (some ⟨b, o, none⟩)] 74 ∧ Dk n₀ B D w₀ W ∧ RowIn B W ∧ n₀ ≤ W.heap.size)
def PartsA : Fo → Prop
 | .nil => True
 | .cons _ k r => PartsC k ∧ PartsA r
theorem parts_step (k : Fo) (hA : PartsA k) : PartsC k := by
 intro n₀ B D w₀ h b o bx hrow l J Jx W ⟨hSx, hDk, hR, hn⟩ hJ hJx hY h0
 have HY := hide hY
 have HJ := hide hJ
 have HJx := hide hJx
 have HA := hide hA
 have HRow := hide hrow
 obtain ⟨hDb, ⟨v, hcell, a, n, cap, rfl, hnk, hk⟩, _⟩ := hrow
 subst hnk
 have HKi := hide hk
 have HC := hide hcell
 have hBX : Below W.heap.size W (W.alloc (.cells #[.func (.yield l) #[] #[]] 116)) := (Below.refl _ W).alloc (Nat.le_refl _) _
 have f0 := Sf.new (B := B) W #[.func (.yield l) #[] #[]] 116 hR.1 hR.2
 obtain ⟨W1, hW1⟩ : ∃ W1, W.alloc (.cells #[.func (.yield l) #[] #[]] 116) = W1 := ⟨_, rfl⟩
 have f1 := hSx.below hBX
 have d1 := hDk.below hBX
 have r1 := hR.below hBX
 have j1 := hJ.below h0 hBX
 rw [hW1] at f0 f1 d1 r1 j1 hBX
 have z1 : W1.heap.size = W.heap.size + 1 := by rw [← hW1]; simp
 have c0 : W1.cell? ⟨W.heap.size, 0, none⟩ = some (.func (.yield l) #[] #[]) := f0.cell 0
 have c1 : W1.cell? ⟨bx, 0, none⟩ = some (.pointer (some ⟨b, o, none⟩)) := f1.cell 0
 obtain ⟨fn, tmps, assign, body, hy, hRd⟩ := hY [] ⟨((b, o), (h, k)), HRow.out⟩ W1 j1 (by rw [preF_len]; simp [Fo.many])
 have HRd := hide hRd
 simp only [Pt.enc] at hy
 have HF := hide f0
 have HF1 := hide f1
 have HD := hide d1
 have HR := hide r1
 clear hY hJ hJx hA hk hcell hRd f0 f1 d1 r1 j1 hSx hDk hR h0 hBX
 refine callsIn_of_wp_marks Tryz.func76 rfl trivial ?_ rfl
 simp only [Tryz.ntmps76, List.size_toArray, List.length_cons, List.length_nil, Nat.reduceAdd, Nat.reduceSub, Array.replicate_succ, Array.replicate_zero, List.push_toArray, List.append_toArray, List.nil_append, List.cons_append]
 gi_wp2
 refine ⟨rfl, HRd.out.mono ?_⟩
 rintro e W3 (⟨rfl, hJ3, hk3, hkf3⟩ | ⟨rfl, hJ3, hkf3⟩)
 rotate_left
 ·
  gi_wp2
  exact leaves_marks [] W3 (Mk.nil W.heap.size W3.heap.size W3) ⟨.tuple #[], results_none rfl _ _ _, ⟨_, rfl⟩, .inr ⟨_, ⟨preF k ++ preF .nil, rfl⟩, hJ3⟩⟩
 have f0 := HF.out.kept hk3
 have f1 := HF1.out.kept hk3
 have d1 := HD.out.kept hk3
 have r1 := HR.out.kept hk3
 have e1 : W3.cell? ⟨bx, 0, none⟩ = some (.pointer (some ⟨b, o, none⟩)) := f1.cell 0
 have e15 : W3.cell? ⟨b, o + 15, none⟩ = some (.slice a k.len cap) := (d1.cell hDb (o + 15)).trans (HC.out 15 (by omega))
 have z3 : W.heap.size < W3.heap.size := by have := hkf3.size; omega
 clear hy c0 c1 HF HF1 HD HR HRd hkf3 hk3 hW1 z1 W1
 have HJ3 := hide hJ3
 have HF0 := hide f0
 have HF1 := hide f1
 have HD := hide d1
 have HR := hide r1
 clear f0 f1 d1 r1 hJ3
 gi_wp2
 refine wpIn_loop (fun act wr => ∃ (i : Nat) (F : Fo) (pre : List (Pt w₀ D)) (Ds : List Nat) (u3 u4 u15 u16 u17 u18 u19 u20 u21 u22 u23 u24 u25 u26 u27 u28 u29 : Value), i + F.len = k.len ∧ (F = .nil ∨ ∃ b' o', a = some ⟨b', o', none⟩ ∧ k.len ≤ cap ∧ cap ≤ maxLen ∧ Row w₀ D F b' (o' + i * 16)) ∧ PartsA F ∧ preF (.cons h k .nil) = pre.map Pt.gh ++ preF F ∧ W.heap.size < wr.heap.size ∧ Mk W.heap.size wr.heap.size Ds wr ∧ J pre wr ∧ Sf B wr W.heap.size #[.func (.yield l) #[] #[]] 116 ∧ Sf B wr bx #[.pointer (some ⟨b, o, none⟩)] 74 ∧ Dk n₀ B D w₀ wr ∧ RowIn B wr ∧
   act = { tmps := #[.func (.yield l) #[] #[], .pointer (some ⟨bx, 0, none⟩), .pointer (some ⟨W.heap.size, 0, none⟩), u3, u4, .func (.yield l) #[] #[], .pointer (some ⟨b, o, none⟩), .bool true, .bool false, .pointer (some ⟨b, o, none⟩), .pointer (some ⟨b, o, none⟩), .pointer (some ⟨b, o + 15, none⟩), .slice a k.len cap, .int .i64 (k.len : Int), .int .i64 (i : Int), u15, u16, u17, u18, u19, u20, u21, u22, u23, u24, u25, u26, u27, u28, u29], defers := Ds.map mkD })
  (fun act _ => k.len - (intOf (act.tmps.getD 14 undef)).toNat) ?start ?round
 case start =>
  refine ⟨0, k, [⟨((b, o), (h, k)), HRow.out⟩], [], _, _, _, _, _, _, _, _, _, _, _, _, _, _, _, _, _, by omega, ?_, HA.out, by show (h, k) :: (preF k ++ []) = (h, k) :: preF k; rw [List.append_nil], z3, Mk.nil _ _ _, HJ3.out, HF0.out, HF1.out, HD.out, HR.out, rfl⟩
  rcases HKi.out with e | ⟨b', o', q1, q2, q3, q4⟩
  ·
   exact .inl e
  ·
   exact .inr ⟨b', o', q1, q2, q3, by simpa using q4⟩
 case round =>
  rintro _ wr ⟨i, F, pre, Ds, u3, u4, u15, u16, u17, u18, u19, u20, u21, u22, u23, u24, u25, u26, u27, u28, u29, hl, hF, hAF, hx, hz, hM, hJr, sY, sX, dK, rI, rfl⟩
  have HX := hide hx
  have HM := hide hM
  have HJr := hide hJr
  have HSY := hide sY
  have HSX := hide sX
  have HDK := hide dK
  have HRI := hide rI
  have e1 : wr.cell? ⟨bx, 0, none⟩ = some (.pointer (some ⟨b, o, none⟩)) := sX.cell 0
  have e15 : wr.cell? ⟨b, o + 15, none⟩ = some (.slice a k.len cap) := (dK.cell hDb (o + 15)).trans (HC.out 15 (by omega))
  clear hx hM hJr sY sX dK rI HJ3 HF0 HF1 HD HR z3
  match F, hl, hF, hAF, HX with
  | .nil, hl, _, _, HX =>
   have hli : ¬ (i : Int) < (k.len : Int) := by simp [Fo.len] at hl; omega
   gi_wp2
   exact leaves_marks Ds wr HM.out ⟨.tuple #[], results_none rfl _ _ _, ⟨_, rfl⟩, .inl ⟨pre, by rw [HX.out]; simp [preF], shut_ab HJ.out (Nat.le_refl _) Ds wr HM.out HJr.out⟩⟩
  | .cons h1 k1 r1, hl, hF, hAF, HX =>
   have hli : (i : Int) < (k.len : Int) := by simp [Fo.len] at hl; omega
   have hl2 : i + 1 + r1.len = k.len := by simp [Fo.len] at hl; omega
   obtain ⟨b', o', rfl, hcap1, hcap2, hrw⟩ : ∃ b' o', a = some ⟨b', o', none⟩ ∧ k.len ≤ cap ∧ cap ≤ maxLen ∧ Row w₀ D (.cons h1 k1 r1) b' (o' + i * 16) := by
    rcases hF with e | e
    ·
     cases e
    ·
     exact e
   obtain ⟨p1, p2, p3⟩ := hrw
   have HR1 : Hid (Row w₀ D (.cons h1 k1 .nil) b' (o' + i * 16)) := (show Row w₀ D (.cons h1 k1 .nil) b' (o' + i * 16) from ⟨p1, p2, trivial⟩)
   have HR2 : Hid (Row w₀ D r1 b' (o' + (i + 1) * 16)) := by rw [show o' + (i + 1) * 16 = o' + i * 16 + 16 by omega]; exact p3
   have HM2 := hide hcap2
   unfold maxLen at hcap2
   obtain ⟨hA1, hA2⟩ := hAF
   have HA1 := hide hA1
   have HA2 := hide hA2
   have HPa : Hid (∀ X : World, CallsIn Fence.wide 0 Tryz.prog 46 #[.pointer (some ⟨b', o' + i * 16, none⟩)] X fun e w' => e = .returned (.func (.func 76) #[] #[.pointer (some ⟨X.heap.size, 0, none⟩)]) ∧ w' = X.alloc (.cells #[.pointer (some ⟨b', o' + i * 16, none⟩)] 74)) := fun X => callsIn_wide.2 (parts_any b' (o' + i * 16) X)
   clear p1 p2 p3 hF hl hA1 hA2
   gi_wp2_with (refine ⟨trivial, rfl, ?_⟩; gi_at_call 46; refine (HPa.out _).mono ?_; rintro e wz ⟨rfl, hz2⟩; subst wz)
   have f3 := Sf.new (B := B) wr #[.pointer (some ⟨b', o' + i * 16, none⟩)] 74 HRI.out.1 HRI.out.2
   have bB : Below wr.heap.size wr (wr.alloc (.cells #[.pointer (some ⟨b', o' + i * 16, none⟩)] 74)) := (Below.refl _ _).alloc (Nat.le_refl _) _
   obtain ⟨wd, hwd⟩ : ∃ wd, wr.alloc (.cells #[.pointer (some ⟨b', o' + i * 16, none⟩)] 74) = wd := ⟨_, rfl⟩
   rw [hwd] at f3 bB ⊢
   have zd : wd.heap.size = wr.heap.size + 1 := by rw [← hwd]; simp
   have HB := hide bB
   have hBlt : B < wr.heap.size := HRI.out.1
   have hDlt : ∀ c, D c → c < wr.heap.size := HDK.out.lt
   have hbx : bx < wr.heap.size := HSX.out.lt
   have hX1 : (preF (.cons h k .nil)).length = pre.length + (k1.many + 1) + (preF r1).length := by rw [HX.out]; simp [preF, preF_len]; omega
   clear hwd HPa bB
   refine rangeR (α := Pt w₀ D) (B := B) (n₀ := n₀) (X := fun _ => False) rfl (enters_of Tryz.func76 (by kernel_rfl) rfl) (HA1.out n₀ B D w₀ h1 b' (o' + i * 16) wr.heap.size HR1.out)
    (fun X hX => ⟨f3.below hX, (HDK.out.below HB.out).below hX, (HRI.out.below HB.out).below hX, by have := hX.size; omega⟩) (fun _ => rfl) (by omega) (by omega) (fun _ h => h.elim)
    (fun pre' X => J (pre ++ pre') X ∧ Sf B X W.heap.size #[.func (.yield l) #[] #[]] 116 ∧ Sf B X bx #[.pointer (some ⟨b, o, none⟩)] 74 ∧ Dk n₀ B D w₀ X ∧ RowIn B X ∧ Mk W.heap.size wr.heap.size Ds X ∧ wd.heap.size ≤ X.heap.size)
    (fun c pre' X => c = .ret ∧ Jx (pre ++ pre') X ∧ Mk W.heap.size wr.heap.size Ds X)
    ?hI ?hIx ?h0 (fun x a' _ => a' = { tmps := #[.func (.yield l) #[] #[], .pointer (some ⟨bx, 0, none⟩), .pointer (some ⟨W.heap.size, 0, none⟩), .int .i64 (i : Int), .pointer (some ⟨x.1.1.1, x.1.1.2, none⟩), .func (.yield l) #[] #[], .pointer (some ⟨b, o, none⟩), .bool true, .bool false, .pointer (some ⟨b, o, none⟩), .pointer (some ⟨b, o, none⟩), .pointer (some ⟨b, o + 15, none⟩), .slice (some ⟨b', o', none⟩) k.len cap, .int .i64 (k.len : Int), .int .i64 (i : Int), .bool true, .int .i64 (i : Int), .pointer (some ⟨b, o, none⟩), .pointer (some ⟨b, o, none⟩), .pointer (some ⟨b, o + 15, none⟩), .slice (some ⟨b', o', none⟩) k.len cap, .int .i64 (i : Int), .pointer (some ⟨b', o' + i * 16, none⟩), .func (.func 76) #[] #[.pointer (some ⟨wr.heap.size, 0, none⟩)], .pointer (some ⟨x.1.1.1, x.1.1.2, none⟩), u25, u26, u27, u28, u29], defers := [] })
    (fun _ _ => fun _ _ _ _ h _ _ => h) ?assign ?body ?done ?stop
   case hI =>
    exact ((HJ.out.comp _).mono (by rintro r (h | h); exact h.elim; right; omega)).and ((ab_sf _ _ (by omega) (fun h => h) (by omega) (fun h => h)).and ((ab_sf _ _ (by omega) (fun h => h) (by omega) (fun h => h)).and ((ab_dk (fun c hc => ⟨by have := hDlt c hc; omega, fun h => h⟩) (by omega) (fun h => h)).and ((ab_rowIn (by omega) (fun h => h)).and ((ab_mk Ds (by omega) (fun _ h => h.elim)).and (fun _ _ _ _ h hg _ => Nat.le_trans h hg.size))))))
   case hIx =>
    intro c
    exact (ab_pure _ _ _ (fun _ => c = .ret)).and (((HJx.out.comp _).mono (by rintro r (h | h); exact h.elim; right; omega)).and (ab_mk Ds (by omega) (fun _ h => h.elim)))
   case h0 => exact ⟨by simpa using HJ.out.below HJr.out HB.out, HSY.out.below HB.out, HSX.out.below HB.out, HDK.out.below HB.out, HRI.out.below HB.out, HM.out.below HB.out, Nat.le_refl _⟩
   case assign =>
    rintro l' pre' x X K hI' hK
    simp only [Pt.enc]
    gi_wp2
    exact hK _ _ (KeepsFrom.refl _ _) (KpR.refl _ _ _) hI' rfl
   case body =>
    rintro l' pre' x _ X hl' _ ⟨hJX, sY, sX, dX, rX, mX, zX⟩ rfl hlen
    have c1 : X.cell? ⟨W.heap.size, 0, none⟩ = some (.func (.yield l) #[] #[]) := sY.cell 0
    obtain ⟨fn, tmps, assign, body, hy, hR⟩ := HY.out (pre ++ pre') x X hJX (by rw [hX1]; rw [preF_len] at hlen; simp [Fo.many] at hlen ⊢; omega)
    have HR := hide hR
    simp only [Pt.enc] at hy
    clear hR
    gi_wp2
    refine ⟨rfl, HR.out.mono ?_⟩
    rintro e X' (⟨rfl, hJ', hk', hkf⟩ | ⟨rfl, hJ', hkf⟩)
    ·
     gi_wp2
     refine ⟨keeps_mono hkf (by omega), hk', ?_, sY.kept hk', sX.kept hk', dX.kept hk', rX.kept hk', mX.keeps hkf (Nat.le_refl _), Nat.le_trans zX hkf.size⟩
     simpa using hJ'
    ·
     gi_wp2
     refine ⟨keeps_mono hkf (by omega), rfl, ?_, mX.keeps hkf (Nat.le_refl _)⟩
     simpa using hJ'
   case done =>
    rintro D' xs X hD' hS ⟨hJX, sY, sX, dX, rX, mX, zX⟩ hd
    have hDX : D' < X.heap.size := (Array.getElem?_eq_some_iff.1 hd).1
    gi_wp2
    refine ⟨⟨i + 1, r1, pre ++ xs, D' :: Ds, _, _, _, _, _, _, _, _, _, _, _, _, _, _, _, _, _, by omega, .inr ⟨b', o', rfl, hcap1, HM2.out, HR2.out⟩, HA2.out, ?_, by omega, mX.cons (by omega) (by omega) hDX hd, hJX, sY, sX, dX, rX, rfl⟩, ?_⟩
    ·
     rw [HX.out, List.map_append, hS]
     simp [preF]
    ·
     simp [intOf]
     omega
   case stop =>
    rintro D' c pre' X hD' hpre ⟨rfl, hJX, mX⟩ hd
    have hDX : D' < X.heap.size := (Array.getElem?_eq_some_iff.1 hd).1
    have hm := mX.cons (M' := X.heap.size) (D := D') (by omega) (by omega) hDX hd
    gi_wp2
    refine leaves_marks (D' :: Ds) X hm ⟨.tuple #[], results_none rfl _ _ _, ⟨_, rfl⟩, .inr ⟨_, ?_, shut_ab HJx.out (Nat.le_refl _) _ X hm hJX⟩⟩
    rw [HX.out, List.map_append]
    obtain ⟨q, hq⟩ := hpre
    exact ⟨q ++ preF r1, by rw [List.append_assoc, ← List.append_assoc _ q, hq]; simp [preF]⟩
theorem parts_all : ∀ (F : Fo), PartsA F
 | .nil => trivial
 | .cons _ k r => ⟨parts_step k (parts_all k), parts_all r⟩
end
section
open Go.RowKit Go.Shelf
def rangeB (h : Hd) : Bool := decide (h.kind = 3) || decide (h.kind = 2)
theorem isRange_any (h : Hd) (b o : Nat) (w : World) (hc : w.cell? ⟨b, o, none⟩ = some (.int .i64 h.kind)) :
  Calls Tryz.prog 77 #[.pointer (some ⟨b, o, none⟩)] w fun e w' => e = .returned (.bool (rangeB h)) ∧ w' = w := by
 unfold rangeB
 generalize h.kind = q at *
 by_cases h3 : q = 3
 ·
  subst h3
  go_enter Tryz.func77, Tryz.ntmps77
  go_wp2
  go_ret
  exact ⟨by simp, rfl⟩
 ·
  have e3 : (q == 3) = false := by simpa using h3
  by_cases h2 : q = 2
  ·
   subst h2
   go_enter Tryz.func77, Tryz.ntmps77
   go_wp2
   go_ret
   exact ⟨by simp, rfl⟩
  ·
   have e2 : (q == 2) = false := by simpa using h2
   go_enter Tryz.func77, Tryz.ntmps77
   go_wp2
   go_ret
   exact ⟨by simp [h3, h2], rfl⟩
end
section
open Go.RowKit Go.Shelf
theorem bcells_new (w : World) (cs : Array Value) (t : TypeId) (i : Nat) : (w.alloc (.cells cs t)).cell? ⟨w.heap.size, i, none⟩ = cs[i]? := by
 exact cell_of_row _ _ _ _ _ _ (World.alloc_heap_new w _)
end
section
open Go.RowKit
def mkPt {w₀ : World} {D : Nat → Prop} (b o : Nat) (h : Hd) (k : Fo) (hx : Row w₀ D (.cons h k .nil) b o) : Pt w₀ D := ⟨((b, o), (h, k)), hx⟩
theorem gh_snoc {w₀ : World} {D : Nat → Prop} (q : List (Pt w₀ D)) (x : Pt w₀ D) : (q ++ [x]).map Pt.gh = q.map Pt.gh ++ [x.1.2] := by simp [Pt.gh]
theorem node_loop {D : Nat → Prop} {h : Hd} {k : Fo} {v : Value} {w W0 : World} {R B : Nat} (hD : ∀ c, D c → c < w.heap.size) (hk : Kv w D v k) (hb : Below w.heap.size w W0) (hR : W0.heap[R]? = some (.cells (hdC h v).toArray 33 (0, 0))) (hB : B < W0.heap.size) (hne : R ≠ B) (hrow : rowAt W0 B ≠ some R) :
  Dk w.heap.size B (fun c => D c ∨ c = R) W0 W0 ∧ Row W0 (fun c => D c ∨ c = R) (.cons h k .nil) R 0 := by
 have hRl := (Array.getElem?_eq_some_iff.1 hR).1
 refine ⟨⟨fun _ _ => rfl, fun c hc => ?_, fun c hc => ?_, hB⟩, ?_⟩
 ·
  rcases hc with hc | rfl
  ·
   exact Nat.lt_of_lt_of_le (hD c hc) hb.size
  ·
   exact hRl
 ·
  rcases hc with hc | rfl
  ·
   exact .inl (hD c hc)
  ·
   exact .inr ⟨⟨_, hR, rfl⟩, hne, hrow⟩
 ·
  exact node_at (pre := []) (rest := []) (by simpa using hR) rfl (.inr rfl) (kv_to hk (fun c hc => ⟨.inl hc, hb.block c (hD c hc)⟩)) trivial
theorem Dk.row {n₀ B : Nat} {D : Nat → Prop} {w₀ W : World} (h : Dk n₀ B D w₀ W) {F : Fo} {b o : Nat} (hr : Row w₀ D F b o) : Row W D F b o := row_to (fun c hc => ⟨hc, h.same c hc⟩) _ _ _ hr
end
section
open Go.RowKit Go.Shelf
def ofH (h : Hd) : Int × Int × Int × Int × Int := if h.kind = 2 then Pla.ofR h.row h.col h.row h.col else Pla.ofR h.row h.col h.row2 h.col2
def rcC (r : Int × Int × Int × Int) : List Value := [.int .i64 r.1, .int .i64 r.2.1, .int .i64 r.2.2.1, .int .i64 r.2.2.2]
def rectH (h : Hd) : (Int × Int × Int × Int) × Bool := if rangeB h = true then (((ofH h).1, (ofH h).2.1, (ofH h).2.2.1, (ofH h).2.2.2.1), decide ((ofH h).2.2.2.2 = 0)) else ((0, 0, 0, 0), false)
theorem rectOf_any (h : Hd) (v : Value) (b o : Nat) (w : World) (hb : b < w.heap.size) (hc : ∀ j, j < 16 → w.cell? ⟨b, o + j, none⟩ = (hdC h v)[j]?) :
  Calls Tryz.prog 47 #[.pointer (some ⟨b, o, none⟩)] w fun e w' => e = .returned (.tuple #[.agg (rcC (rectH h).1).toArray, .bool (rectH h).2]) ∧ Below w.heap.size w w' := by
 have c0 : w.cell? ⟨b, o, none⟩ = some (.int .i64 h.kind) := hc 0 (by omega)
 have c6 : w.cell? ⟨b, o + 6, none⟩ = some (.int .i64 h.row) := hc 6 (by omega)
 have c7 : w.cell? ⟨b, o + 6 + 1, none⟩ = some (.int .i64 h.col) := hc 7 (by omega)
 have c8 : w.cell? ⟨b, o + 6 + 2, none⟩ = some (.bool h.fr) := hc 8 (by omega)
 have c9 : w.cell? ⟨b, o + 6 + 3, none⟩ = some (.bool h.fc) := hc 9 (by omega)
 have c10 : w.cell? ⟨b, o + 10, none⟩ = some (.int .i64 h.row2) := hc 10 (by omega)
 have c11 : w.cell? ⟨b, o + 10 + 1, none⟩ = some (.int .i64 h.col2) := hc 11 (by omega)
 have c12 : w.cell? ⟨b, o + 10 + 2, none⟩ = some (.bool h.fr2) := hc 12 (by omega)
 have c13 : w.cell? ⟨b, o + 10 + 3, none⟩ = some (.bool h.fc2) := hc 13 (by omega)
 have HIR : Hid (∀ W : World, Below w.heap.size w W → Calls Tryz.prog 77 #[.pointer (some ⟨b, o, none⟩)] W fun e w' => e = .returned (.bool (rangeB h)) ∧ w' = W) := fun W hW => isRange_any h b o W ((hW.cell (p := ⟨b, o, none⟩) hb).trans c0)
 have bw : Below w.heap.size w (w.alloc (.cells #[.int .i64 0, .int .i64 0, .int .i64 0, .int .i64 0] 62)) := (Below.refl _ _).alloc (Nat.le_refl _) _
 have HBW := hide bw
 have hrb : rangeB h = (decide (h.kind = 3) || decide (h.kind = 2)) := rfl
 have HOf : Hid (∀ (x y : Int) (W : World), Calls Tryz.prog 40 #[.agg #[.int .i64 h.row, .int .i64 h.col], .agg #[.int .i64 x, .int .i64 y]] W fun e w' => e = .returned (.tuple #[.agg #[.int .i64 (Pla.ofR h.row h.col x y).1, .int .i64 (Pla.ofR h.row h.col x y).2.1, .int .i64 (Pla.ofR h.row h.col x y).2.2.1, .int .i64 (Pla.ofR h.row h.col x y).2.2.2.1], .int .i64 (Pla.ofR h.row h.col x y).2.2.2.2]) ∧ Below W.heap.size W w') := fun x y W => Pla.of_any h.row h.col x y W
 unfold rectH ofH
 clear hc bw
 generalize h.kind = q at *
 generalize h.row = x1 at *
 generalize h.col = y1 at *
 generalize h.row2 = x2 at *
 generalize h.col2 = y2 at *
 generalize h.fr = f1 at *
 generalize h.fc = f2 at *
 generalize h.fr2 = f3 at *
 generalize h.fc2 = f4 at *
 generalize rangeB h = rb at *
 by_cases h3 : q = 3
 ·
  subst h3
  obtain rfl : rb = true := by rw [hrb]; rfl
  rw [if_pos rfl, if_neg (by decide)]
  have HO := hide (HOf.out x2 y2)
  generalize Pla.ofR x1 y1 x2 y2 = R at *
  obtain ⟨r1, r2, r3, r4, r5⟩ := R
  simp only [rcC] at HO ⊢
  clear hrb HOf
  go_enter Tryz.func47, Tryz.ntmps47
  go_wp2_with (first | (go_at_call 77; refine (HIR.out _ HBW.out).mono ?_; rintro e wz ⟨rfl, hz⟩; subst wz))
  obtain ⟨W0, hW0⟩ : ∃ W0, ((w.alloc (.cells #[.int .i64 0, .int .i64 0, .int .i64 0, .int .i64 0] 62)).alloc (.cells #[.int .i64 x2, .int .i64 y2, .bool f3, .bool f4] 30)) = W0 := ⟨_, rfl⟩
  have z0 : W0.heap.size = w.heap.size + 1 + 1 := by rw [← hW0]; simp
  have bW : Below w.heap.size w W0 := by rw [← hW0]; exact ((Below.refl _ _).alloc (Nat.le_refl _) _).alloc (by simp) _
  have kT : ∀ j, W0.cell? ⟨w.heap.size + 1, j, none⟩ = (#[.int .i64 x2, .int .i64 y2, .bool f3, .bool f4] : Array Value)[j]? := fun j => by rw [← hW0]; have := bcells_new (w.alloc (.cells #[.int .i64 0, .int .i64 0, .int .i64 0, .int .i64 0] 62)) #[.int .i64 x2, .int .i64 y2, .bool f3, .bool f4] 30 j; rwa [World.size_alloc] at this
  have hR0 : W0.heap[w.heap.size]? = some (.cells #[.int .i64 0, .int .i64 0, .int .i64 0, .int .i64 0] 62 (0, 0)) := by rw [← hW0]; exact (Below.heap_alloc _ _ _ (by simp)).trans (World.alloc_heap_new w _)
  rw [hW0]
  have HS1 : Hid (∀ W : World, Below W0.heap.size W0 W → W.cell? ⟨b, o + 6, none⟩ = some (.int .i64 x1) ∧ W.cell? ⟨b, o + 6 + 1, none⟩ = some (.int .i64 y1) ∧ W.cell? ⟨w.heap.size + 1, 0, none⟩ = some (.int .i64 x2) ∧ W.cell? ⟨w.heap.size + 1, 1, none⟩ = some (.int .i64 y2) ∧ Below W0.heap.size W0 W) := fun W hW => by
   have hw := bW.trans (hW.mono bW.size)
   exact ⟨(hw.cell (p := ⟨b, o + 6, none⟩) hb).trans c6, (hw.cell (p := ⟨b, o + 6 + 1, none⟩) hb).trans c7, (hW.cell (p := ⟨w.heap.size + 1, 0, none⟩) (by simp; omega)).trans (kT 0), (hW.cell (p := ⟨w.heap.size + 1, 1, none⟩) (by simp; omega)).trans (kT 1), hW⟩
  have HR1 : Hid (∀ W : World, Below W0.heap.size W0 W → W.heap[w.heap.size]? = some (.cells #[.int .i64 0, .int .i64 0, .int .i64 0, .int .i64 0] 62 (0, 0))) := fun W hW => (hW.block _ (by omega)).trans hR0
  have hs0 := HS1.out W0 (Below.refl _ _)
  have HbW := hide bW
  have kR : ∀ j, W0.cell? ⟨w.heap.size, j, none⟩ = (#[.int .i64 0, .int .i64 0, .int .i64 0, .int .i64 0] : Array Value)[j]? := fun j => by simp [World.cell?, hR0]
  have pR : ∀ j, W0.frozen? ⟨w.heap.size, j, none⟩ = false := fun j => by simp [World.frozen?, hR0]
  have l1 : w.heap.size < W0.heap.size := by omega
  have l2 : w.heap.size + 1 < W0.heap.size := by omega
  have l4 : w.heap.size < W0.heap.size + 1 := by omega
  have l5 : w.heap.size ≠ W0.heap.size := by omega
  clear hW0 kT hR0 bW c0 c6 c7 c8 c9 c10 c11 c12 c13
  go_region_held3 (fun w' => w'.cell? ⟨b, o + 6, none⟩ = some (.int .i64 x1) ∧ w'.cell? ⟨b, o + 6 + 1, none⟩ = some (.int .i64 y1) ∧ w'.cell? ⟨w.heap.size + 1, 0, none⟩ = some (.int .i64 x2) ∧ w'.cell? ⟨w.heap.size + 1, 1, none⟩ = some (.int .i64 y2) ∧ Below W0.heap.size W0 w') (first | assumption | (refine HS1.out _ ?_; repeat' (first | with_reducible exact And.right (And.right (And.right (And.right (by assumption)))) | with_reducible refine Below.setCell ?_ ?_ _ | with_reducible refine Below.alloc ?_ ?_ _ | with_reducible refine Below.drew ?_ | exact Nat.le_refl _ | assumption | exact Below.size (And.right (And.right (And.right (And.right (by assumption))))) | (simp; omega)))) (first | (go_at_call 40; refine (HO.out _).mono ?_; rintro e w2 ⟨rfl, hb2⟩; have hs2 := HS1.out w2 (Below.trans (And.right (And.right (And.right (And.right (by assumption))))) (hb2.mono (Below.size (And.right (And.right (And.right (And.right (by assumption)))))))); have HB2 := hide (And.right (And.right (And.right (And.right hs2)))); have hr2 := HR1.out w2 HB2.out; have k3 : ∀ j, w2.cell? ⟨w.heap.size, j, none⟩ = (#[.int .i64 0, .int .i64 0, .int .i64 0, .int .i64 0] : Array Value)[j]? := (fun j => by simp [World.cell?, hr2]); have p3 : ∀ j, w2.frozen? ⟨w.heap.size, j, none⟩ = false := (fun j => by simp [World.frozen?, hr2]); obtain ⟨k2, p2⟩ := bcell hb2; have z2 := hb2.size; have l3 : w.heap.size < w2.heap.size := (by have := HB2.out.size; omega); clear hb2 hr2))
  all_goals go_wp2
  all_goals refine bodyPost_ret (v := .tuple #[.agg #[.int .i64 r1, .int .i64 r2, .int .i64 r3, .int .i64 r4], .bool (r5 == 0)]) (by simp [results, Tryz.results47, go_sem, k3, l3]) rfl ⟨rfl, ?_⟩
  all_goals (have bW := HbW.out; have b2 := HB2.out; have b3 : Below w.heap.size w w2 := bW.trans (b2.mono bW.size))
  all_goals (clear b2 bW)
  all_goals (repeat' (first | with_reducible (first | exact Below.refl _ _ | refine Below.setCell ?_ ?_ _ | refine Below.alloc ?_ ?_ _ | refine below_drewN ?_ _ | refine Below.drew ?_ | refine Below.trans ?_ (Below.mono (by assumption) ?_) | exact Nat.le_refl _ | refine Nat.le_trans ?_ (Below.size (by assumption)) | refine zzA ?_ | refine zzB ?_ | refine zzC ?_ | refine zzD ?_) | (simp; done) | (simp; omega) | omega))
 ·
  have e3 : (q == 3) = false := by simpa using h3
  by_cases h2 : q = 2
  ·
   subst h2
   obtain rfl : rb = true := by rw [hrb]; rfl
   rw [if_pos rfl, if_pos rfl]
   have HO := hide (HOf.out x1 y1)
   generalize Pla.ofR x1 y1 x1 y1 = R at *
   obtain ⟨r1, r2, r3, r4, r5⟩ := R
   simp only [rcC] at HO ⊢
   clear hrb HOf
   go_enter Tryz.func47, Tryz.ntmps47
   go_wp2_with (first | (go_at_call 77; refine (HIR.out _ HBW.out).mono ?_; rintro e wz ⟨rfl, hz⟩; subst wz))
   obtain ⟨W0, hW0⟩ : ∃ W0, ((w.alloc (.cells #[.int .i64 0, .int .i64 0, .int .i64 0, .int .i64 0] 62)).alloc (.cells #[.int .i64 x1, .int .i64 y1, .bool f1, .bool f2] 30)) = W0 := ⟨_, rfl⟩
   have z0 : W0.heap.size = w.heap.size + 1 + 1 := by rw [← hW0]; simp
   have bW : Below w.heap.size w W0 := by rw [← hW0]; exact ((Below.refl _ _).alloc (Nat.le_refl _) _).alloc (by simp) _
   have kT : ∀ j, W0.cell? ⟨w.heap.size + 1, j, none⟩ = (#[.int .i64 x1, .int .i64 y1, .bool f1, .bool f2] : Array Value)[j]? := fun j => by rw [← hW0]; have := bcells_new (w.alloc (.cells #[.int .i64 0, .int .i64 0, .int .i64 0, .int .i64 0] 62)) #[.int .i64 x1, .int .i64 y1, .bool f1, .bool f2] 30 j; rwa [World.size_alloc] at this
   have hR0 : W0.heap[w.heap.size]? = some (.cells #[.int .i64 0, .int .i64 0, .int .i64 0, .int .i64 0] 62 (0, 0)) := by rw [← hW0]; exact (Below.heap_alloc _ _ _ (by simp)).trans (World.alloc_heap_new w _)
   rw [hW0]
   have HS1 : Hid (∀ W : World, Below W0.heap.size W0 W → W.cell? ⟨b, o + 6, none⟩ = some (.int .i64 x1) ∧ W.cell? ⟨b, o + 6 + 1, none⟩ = some (.int .i64 y1) ∧ W.cell? ⟨w.heap.size + 1, 0, none⟩ = some (.int .i64 x1) ∧ W.cell? ⟨w.heap.size + 1, 1, none⟩ = some (.int .i64 y1) ∧ Below W0.heap.size W0 W) := fun W hW => by
    have hw := bW.trans (hW.mono bW.size)
    exact ⟨(hw.cell (p := ⟨b, o + 6, none⟩) hb).trans c6, (hw.cell (p := ⟨b, o + 6 + 1, none⟩) hb).trans c7, (hW.cell (p := ⟨w.heap.size + 1, 0, none⟩) (by simp; omega)).trans (kT 0), (hW.cell (p := ⟨w.heap.size + 1, 1, none⟩) (by simp; omega)).trans (kT 1), hW⟩
   have HR1 : Hid (∀ W : World, Below W0.heap.size W0 W → W.heap[w.heap.size]? = some (.cells #[.int .i64 0, .int .i64 0, .int .i64 0, .int .i64 0] 62 (0, 0))) := fun W hW => (hW.block _ (by omega)).trans hR0
   have hs0 := HS1.out W0 (Below.refl _ _)
   have HbW := hide bW
   have kR : ∀ j, W0.cell? ⟨w.heap.size, j, none⟩ = (#[.int .i64 0, .int .i64 0, .int .i64 0, .int .i64 0] : Array Value)[j]? := fun j => by simp [World.cell?, hR0]
   have pR : ∀ j, W0.frozen? ⟨w.heap.size, j, none⟩ = false := fun j => by simp [World.frozen?, hR0]
   have l1 : w.heap.size < W0.heap.size := by omega
   have l2 : w.heap.size + 1 < W0.heap.size := by omega
   have l4 : w.heap.size < W0.heap.size + 1 := by omega
   have l5 : w.heap.size ≠ W0.heap.size := by omega
   clear hW0 kT hR0 bW c0 c6 c7 c8 c9 c10 c11 c12 c13
   go_region_held3 (fun w' => w'.cell? ⟨b, o + 6, none⟩ = some (.int .i64 x1) ∧ w'.cell? ⟨b, o + 6 + 1, none⟩ = some (.int .i64 y1) ∧ w'.cell? ⟨w.heap.size + 1, 0, none⟩ = some (.int .i64 x1) ∧ w'.cell? ⟨w.heap.size + 1, 1, none⟩ = some (.int .i64 y1) ∧ Below W0.heap.size W0 w') (first | assumption | (refine HS1.out _ ?_; repeat' (first | with_reducible exact And.right (And.right (And.right (And.right (by assumption)))) | with_reducible refine Below.setCell ?_ ?_ _ | with_reducible refine Below.alloc ?_ ?_ _ | with_reducible refine Below.drew ?_ | exact Nat.le_refl _ | assumption | exact Below.size (And.right (And.right (And.right (And.right (by assumption))))) | (simp; omega)))) (first | (go_at_call 40; refine (HO.out _).mono ?_; rintro e w2 ⟨rfl, hb2⟩; have hs2 := HS1.out w2 (Below.trans (And.right (And.right (And.right (And.right (by assumption))))) (hb2.mono (Below.size (And.right (And.right (And.right (And.right (by assumption)))))))); have HB2 := hide (And.right (And.right (And.right (And.right hs2)))); have hr2 := HR1.out w2 HB2.out; have k3 : ∀ j, w2.cell? ⟨w.heap.size, j, none⟩ = (#[.int .i64 0, .int .i64 0, .int .i64 0, .int .i64 0] : Array Value)[j]? := (fun j => by simp [World.cell?, hr2]); have p3 : ∀ j, w2.frozen? ⟨w.heap.size, j, none⟩ = false := (fun j => by simp [World.frozen?, hr2]); obtain ⟨k2, p2⟩ := bcell hb2; have z2 := hb2.size; have l3 : w.heap.size < w2.heap.size := (by have := HB2.out.size; omega); clear hb2 hr2))
   all_goals go_wp2
   all_goals refine bodyPost_ret (v := .tuple #[.agg #[.int .i64 r1, .int .i64 r2, .int .i64 r3, .int .i64 r4], .bool (r5 == 0)]) (by simp [results, Tryz.results47, go_sem, k3, l3]) rfl ⟨rfl, ?_⟩
   all_goals (have bW := HbW.out; have b2 := HB2.out; have b3 : Below w.heap.size w w2 := bW.trans (b2.mono bW.size))
   all_goals (clear b2 bW)
   all_goals (repeat' (first | with_reducible (first | exact Below.refl _ _ | refine Below.setCell ?_ ?_ _ | refine Below.alloc ?_ ?_ _ | refine below_drewN ?_ _ | refine Below.drew ?_ | refine Below.trans ?_ (Below.mono (by assumption) ?_) | exact Nat.le_refl _ | refine Nat.le_trans ?_ (Below.size (by assumption)) | refine zzA ?_ | refine zzB ?_ | refine zzC ?_ | refine zzD ?_) | (simp; done) | (simp; omega) | omega))
  ·
   have e2 : (q == 2) = false := by simpa using h2
   obtain rfl : rb = false := by rw [hrb]; simp [h3, h2]
   rw [if_neg (by decide)]
   simp only [rcC]
   clear hrb HOf
   go_enter Tryz.func47, Tryz.ntmps47
   go_wp2_with (first | (go_at_call 77; refine (HIR.out _ HBW.out).mono ?_; rintro e wz ⟨rfl, hz⟩; subst wz))
   refine bodyPost_ret (v := .tuple #[.agg #[.int .i64 0, .int .i64 0, .int .i64 0, .int .i64 0], .bool false]) (by simp [results, Tryz.results47, go_sem]) rfl ⟨rfl, ?_⟩
   repeat' (first | with_reducible (first | exact Below.refl _ _ | refine Below.setCell ?_ ?_ _ | refine Below.alloc ?_ ?_ _ | refine below_drewN ?_ _ | refine Below.drew ?_ | refine Below.trans ?_ (Below.mono (by assumption) ?_) | exact Nat.le_refl _ | refine Nat.le_trans ?_ (Below.size (by assumption)) | refine zzA ?_ | refine zzB ?_ | refine zzC ?_ | refine zzD ?_) | (simp; done) | (simp; omega) | omega)
end
section
open Go.RowKit Go.Shelf
theorem wpl_newN {ops : Array Oper} {rest : List Oper} {o : Oper} {a : Act} {W w : World} {Q : Exit → Act → World → Prop} (hgd : o.guard = none) (x y : Operand) (ho : o.op = .store 33 x y)
  (hW : W = w.alloc (.cells (hdC zh (.slice none 0 0)).toArray 33)) (hx : a.eval x = .pointer (some ⟨w.heap.size, 0, none⟩)) {h : Hd} {pp : Option Addr} {n cap : Nat} (hy : a.eval y = .agg (hdC h (.slice pp n cap)).toArray)
  (hk : wpList Tryz.prog ops Q rest (a.put o.dst undef) (w.alloc (.cells (hdC h (.slice pp n cap)).toArray 33))) : wpList Tryz.prog ops Q (o :: rest) a W := by
 subst hW
 refine wpl_store hgd x y ho w.heap.size hx hy (Box.new w _) rfl ?_
 rw [World.setRow_alloc_new]
 exact hk
end
section
open Go.RowKit Go.Shelf
def plainB (h : Hd) : Bool :=
 if h.kind = 1 then noCell h && noTo h && h.txt.isEmpty
 else if h.kind = 2 then noVal h && noTo h && h.txt.isEmpty
 else if h.kind = 3 then noVal h && h.txt.isEmpty
 else if h.kind = 5 ∨ h.kind = 6 then noVal h && noCell h && noTo h
 else noVal h && noCell h && noTo h && h.txt.isEmpty
def swB (h : Hd) (n : Nat) : Bool :=
 if h.kind = 1 then decide (n = 0) && constB h
 else if h.kind = 2 then decide (n = 0) && Pla.placeB h.row h.col
 else if h.kind = 3 then decide (n = 0) && Pla.placeB h.row h.col && Pla.placeB h.row2 h.col2
 else if h.kind = 4 then decide (n = 1)
 else if h.kind = 5 then decide (n = 2) && decide (0 < bindN h.txt)
 else if h.kind = 6 then nmB h.txt && decide (foldL h.txt = h.txt)
 else false
theorem nm_byte (c : UInt8) : nameC c = (nmC c && decide (foldB c = c)) := by
 have hu : c.toNat < 256 := UInt8.toNat_lt _
 by_cases h : 97 ≤ c.toNat ∧ c.toNat ≤ 122
 ·
  have e := foldB_in h.1 h.2
  have hn : foldB c ≠ c := fun q => by rw [q] at e; omega
  rw [show nameC c = false by unfold nameC greatB digitB; simp; omega, show decide (foldB c = c) = false from decide_eq_false hn, Bool.and_false]
 ·
  rw [foldB_out h, decide_eq_true rfl, Bool.and_true]
  unfold nameC nmC greatB digitB letterB isDig
  rw [Bool.eq_iff_iff]
  simp
  omega
theorem nm_head (c : UInt8) (h : foldB c = c) : greatB c = letterB c := by
 have hu : c.toNat < 256 := UInt8.toNat_lt _
 by_cases h1 : 97 ≤ c.toNat ∧ c.toNat ≤ 122
 ·
  have e := foldB_in h1.1 h1.2
  rw [h] at e
  omega
 ·
  unfold greatB letterB
  rw [Bool.eq_iff_iff]
  simp
  omega
theorem map_self {f : UInt8 → UInt8} : ∀ {l : List UInt8}, l.map f = l ↔ ∀ x ∈ l, f x = x
 | [] => by simp
 | c :: r => by rw [List.map_cons, List.cons.injEq, map_self (l := r)]; simp
theorem name_nm (l : List UInt8) : nameOk l = (nmB l && decide (foldL l = l)) := by
 cases l with
 | nil => rfl
 | cons c r =>
  by_cases hf : foldL (c :: r) = c :: r
  ·
   have hc : ∀ x ∈ c :: r, foldB x = x := fun x hx => by
    have h := map_self.1 hf
    exact h x hx
   rw [decide_eq_true hf, Bool.and_true]
   have h2 : (c :: r).all nameC = (c :: r).all nmC := by
    rw [Bool.eq_iff_iff, List.all_eq_true, List.all_eq_true]
    constructor
    ·
     intro h x hx
     have := h x hx
     rw [nm_byte] at this
     simp at this
     exact this.1
    ·
     intro h x hx
     rw [nm_byte, h x hx, decide_eq_true (hc x hx)]
     rfl
   unfold nameOk nmB
   rw [h2]
   simp only [List.headD_cons, nm_head c (hc c (by simp)), List.length_cons, List.isEmpty_cons]
   simp
  ·
   rw [decide_eq_false hf, Bool.and_false]
   have : ¬ ∀ x ∈ c :: r, foldB x = x := fun h => hf (map_self.2 h)
   have h2 : (c :: r).all nameC = false := by
    rw [List.all_eq_false]
    refine Classical.byContradiction fun hn => this fun x hx => ?_
    refine Classical.byContradiction fun hx2 => hn ⟨x, hx, ?_⟩
    rw [nm_byte, decide_eq_false hx2]
    simp
   unfold nameOk
   rw [h2, Bool.and_false]
theorem alone_split (h : Hd) (n : Nat) : aloneB h n = (plainB h && swB h n) := by
 unfold aloneB plainB swB
 by_cases h1 : h.kind = 1
 ·
  simp only [if_pos h1]; ac_rfl
 simp only [if_neg h1]
 by_cases h2 : h.kind = 2
 ·
  simp only [if_pos h2]; ac_rfl
 simp only [if_neg h2]
 by_cases h3 : h.kind = 3
 ·
  simp only [if_pos h3]; ac_rfl
 simp only [if_neg h3]
 by_cases h4 : h.kind = 4
 ·
  simp only [if_pos h4]
  rw [if_neg (by omega)]; ac_rfl
 simp only [if_neg h4]
 by_cases h5 : h.kind = 5
 ·
  simp only [if_pos h5]
  rw [if_pos (Or.inl h5)]; ac_rfl
 simp only [if_neg h5]
 by_cases h6 : h.kind = 6
 ·
  simp only [if_pos h6]
  rw [if_pos (Or.inr h6), name_nm]; ac_rfl
 simp only [if_neg h6, Bool.and_false]
end
section
open Go.RowKit Go.Shelf
theorem run_kind (k : Int) (w : World) : (Instr.build 33 #[(0, .int .i64 k)]).run Tryz.prog w = .ok (.agg (hdC ⟨k, 0, 0, [], false, 0, 0, 0, false, false, 0, 0, false, false, []⟩ (.slice none 0 0)).toArray) w := run_build w _ _ _ (by kernel_rfl)
theorem wpl_newG {ops : Array Oper} {rest : List Oper} {o : Oper} {a : Act} {W w w0 : World} {m : Nat} {Q : Exit → Act → World → Prop} (hgd : o.guard = none) (x y : Operand) (ho : o.op = .store 33 x y)
  (hW : W = w.alloc (.cells (hdC zh (.slice none 0 0)).toArray 33)) (hz : w.heap.size = m) (hx : a.eval x = .pointer (some ⟨m, 0, none⟩)) {h : Hd} {pp : Option Addr} {n cap : Nat} (hy : a.eval y = .agg (hdC h (.slice pp n cap)).toArray) {b : Nat} {cs : List Value} (hb : Box w b cs) (hB : Below w0.heap.size w0 w)
  (hk : ∀ W2 : World, Box W2 b cs → Box W2 m (hdC h (.slice pp n cap)) → Below w0.heap.size w0 W2 → W2.heap.size = m + 1 → wpList Tryz.prog ops Q rest (a.put o.dst undef) W2) : wpList Tryz.prog ops Q (o :: rest) a W := by
 subst hz
 refine wpl_newN hgd x y ho hW hx hy (hk _ (hb.alloc _) (Box.new w _) ?_ (by simp))
 exact hB.alloc hB.size _
theorem node_cells {w : World} {b : Nat} {h : Hd} {v : Value} (k : Box w b (hdC h v)) : w.cell? ⟨b, 0, none⟩ = some (.int .i64 h.kind) ∧ w.cell? ⟨b, 1, none⟩ = some (.int .i64 h.vk) ∧ w.cell? ⟨b, 2, none⟩ = some (.int .i64 h.vn) ∧ w.cell? ⟨b, 3, none⟩ = some (.string ⟨h.vs.toArray⟩) ∧ w.cell? ⟨b, 4, none⟩ = some (.bool h.vb) ∧ w.cell? ⟨b, 5, none⟩ = some (.int .i64 h.vc) ∧ w.cell? ⟨b, 6, none⟩ = some (.int .i64 h.row) ∧ w.cell? ⟨b, 7, none⟩ = some (.int .i64 h.col) ∧ w.cell? ⟨b, 8, none⟩ = some (.bool h.fr) ∧ w.cell? ⟨b, 9, none⟩ = some (.bool h.fc) ∧ w.cell? ⟨b, 10, none⟩ = some (.int .i64 h.row2) ∧ w.cell? ⟨b, 11, none⟩ = some (.int .i64 h.col2) ∧ w.cell? ⟨b, 12, none⟩ = some (.bool h.fr2) ∧ w.cell? ⟨b, 13, none⟩ = some (.bool h.fc2) ∧ w.cell? ⟨b, 14, none⟩ = some (.string ⟨h.txt.toArray⟩) :=
 ⟨k.cell 0 _ rfl, k.cell 1 _ rfl, k.cell 2 _ rfl, k.cell 3 _ rfl, k.cell 4 _ rfl, k.cell 5 _ rfl, k.cell 6 _ rfl, k.cell 7 _ rfl, k.cell 8 _ rfl, k.cell 9 _ rfl, k.cell 10 _ rfl, k.cell 11 _ rfl, k.cell 12 _ rfl, k.cell 13 _ rfl, k.cell 14 _ rfl⟩
end
end Go.Proofs.YtfpmmckpobpokaaGreat
