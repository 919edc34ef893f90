/-
  Out of FmR, FmQ, FmP, FmC, FmC2, FmL, FmX, FmO, FmE0, FmE0b, what is asked for (laid by pack9.py).
-/
import Derived.Test.YtfpmmckpobpokaaGreatMZ9
namespace Go.Proofs.YtfpmmckpobpokaaGreat
section
open Go.RowKit Go.Shelf
def rowAt (W : World) (B : Nat) : Option Nat := (W.cell? ⟨B, 0, none⟩).bind Value.ownBlock
theorem rowAt_block {W W' : World} {B : Nat} (h : W'.heap[B]? = W.heap[B]?) : rowAt W' B = rowAt W B := by
 unfold rowAt; rw [World.cell?_of_block (a := ⟨B, 0, none⟩) h]
structure KpR (n₀ B : Nat) (A C : World) : Prop where
 below : Below n₀ A C
 keep : ∀ (b : Nat) (o : Obj), A.heap[b]? = some o → o.isCells = true → b ≠ B → rowAt A B ≠ some b → C.heap[b]? = some o
 row : ∀ g, rowAt C B = some g → rowAt A B = some g ∨ (A.heap.size ≤ g ∧ g < C.heap.size)
theorem KpR.refl (n₀ B : Nat) (A : World) : KpR n₀ B A A := ⟨Below.refl _ _, fun _ _ h _ _ _ => h, fun _ h => .inl h⟩
theorem KpR.trans {n₀ B : Nat} {A C D : World} (h : KpR n₀ B A C) (k : KpR n₀ B C D) : KpR n₀ B A D := by
 refine ⟨h.below.trans k.below, fun b o hb hc hne hr => ?_, fun g hg => ?_⟩
 ·
  refine k.keep b o (h.keep b o hb hc hne hr) hc hne (fun e => ?_)
  rcases h.row b e with e' | ⟨e', _⟩
  ·
   exact hr e'
  ·
   have := (Array.getElem?_eq_some_iff.1 hb).1; omega
 ·
  rcases k.row g hg with e | ⟨e1, e2⟩
  ·
   rcases h.row g e with e' | ⟨e1, e2⟩
   ·
    exact .inl e'
   ·
    exact .inr ⟨e1, Nat.lt_of_lt_of_le e2 k.below.size⟩
  ·
   exact .inr ⟨Nat.le_trans h.below.size e1, e2⟩
theorem KpR.put {n₀ B : Nat} (W : World) (l : Nat) (o o' : Obj) (hl : n₀ ≤ l) (hB : B ≠ l) (h : W.heap[l]? = some o) (hc : o.isCells = false) : KpR n₀ B W (W.putObj l o') := by
 refine ⟨(Below.refl n₀ W).grown (grownBy_putObj' W l o') (by have := (Array.getElem?_eq_some_iff.1 h).1; omega) (fun k e => by cases e; omega), fun b o2 hb hc2 _ _ => ?_, fun g hg => .inl ?_⟩
 ·
  rw [World.putObj_heap_other (fun e => by subst e; rw [h] at hb; cases hb; rw [hc] at hc2; cases hc2)]
  exact hb
 ·
  rw [rowAt_block (World.putObj_heap_other hB)] at hg
  exact hg
theorem KpR.alloc {n₀ B : Nat} (W : World) (o : Obj) (hn : n₀ ≤ W.heap.size) (hB : B < W.heap.size) : KpR n₀ B W (W.alloc o) :=
 ⟨(Below.refl _ _).alloc hn o, fun b _ hb _ _ _ => (Below.heap_alloc W o b (Array.getElem?_eq_some_iff.1 hb).1).trans hb, fun g hg => .inl (by rw [rowAt_block (Below.heap_alloc W o B hB)] at hg; exact hg)⟩
theorem KpR.of {n₀ B : Nat} {W W' : World} (h : Below W.heap.size W W') (hn : n₀ ≤ W.heap.size) (hB : B < W.heap.size) : KpR n₀ B W W' :=
 ⟨h.mono hn, fun b _ hb _ _ _ => (h.block b (Array.getElem?_eq_some_iff.1 hb).1).trans hb, fun g hg => .inl (by rw [rowAt_block (h.block B hB)] at hg; exact hg)⟩
theorem keeps_of {B : Nat} {W W' : World} (h : Below W.heap.size W W') : KeepsFrom B W W' :=
 ⟨h.size, fun k _ _ hk _ => (h.block k (Array.getElem?_eq_some_iff.1 hk).1).trans hk⟩
def Ab {β : Type} (B : Nat) (X : Nat → Prop) (m : Nat) (J : β → World → Prop) : Prop :=
 ∀ s W W' row, J s W → W.grownBy W' row → (∀ r, row = some r → (X r ∨ m ≤ r) ∧ ((∃ o : Obj, W.heap[r]? = some o ∧ o.isCells = false) ∨ (rowAt W B ≠ some r ∧ ∃ cs fz, W.heap[r]? = some (.cells cs 9 fz)))) → J s W'
theorem Ab.putObj {β : Type} {B m : Nat} {X : Nat → Prop} {J : β → World → Prop} (h : Ab B X m J) {s : β} {W : World} {l : Nat} {o : Obj} (o' : Obj) (hs : J s W) (hm : m ≤ l) (hl : W.heap[l]? = some o) (ho : o.isCells = false) : J s (W.putObj l o') :=
 h s W _ (some l) hs (grownBy_putObj' W l o') (fun r e => by cases e; exact ⟨.inr hm, .inl ⟨o, hl, ho⟩⟩)
theorem Ab.alloc {β : Type} {B m : Nat} {X : Nat → Prop} {J : β → World → Prop} (h : Ab B X m J) {s : β} {W : World} (o : Obj) (hs : J s W) : J s (W.alloc o) :=
 h s W _ none hs (World.grownBy_alloc W o none) (fun r e => by cases e)
theorem Ab.and {β : Type} {B m : Nat} {X : Nat → Prop} {J J' : β → World → Prop} (h : Ab B X m J) (h' : Ab B X m J') : Ab B X m (fun s W => J s W ∧ J' s W) :=
 fun s W W' row hs hg hr => ⟨h s W W' row hs.1 hg hr, h' s W W' row hs.2 hg hr⟩
theorem Ab.below {β : Type} {B m : Nat} {X : Nat → Prop} {J : β → World → Prop} (h : Ab B X m J) {s : β} {W W' : World} (hs : J s W) (hb : Below W.heap.size W W') : J s W' :=
 h s W W' none hs ⟨hb.os, hb.tape, hb.output, hb.size, fun i hi _ => hb.block i hi⟩ (fun r e => by cases e)
theorem Ab.set {β : Type} {B m : Nat} {X : Nat → Prop} {J : β → World → Prop} (h : Ab B X m J) {s : β} {W : World} {b : Nat} (v : Value) (hs : J s W) (hb : X b ∨ m ≤ b) (hr : rowAt W B ≠ some b) (ht : ∃ cs fz, W.heap[b]? = some (.cells cs 9 fz)) : J s (W.setCell ⟨b, 0, none⟩ v) :=
 h s W _ (some b) hs (grownBy_setCell' W b v) (fun r e => by cases e; exact ⟨hb, .inr ⟨hr, ht⟩⟩)
structure Sf (B : Nat) (W : World) (b : Nat) (cs : Array Value) (t : TypeId) : Prop where
 at_ : W.heap[b]? = some (.cells cs t (0, 0))
 ne : b ≠ B
 row : rowAt W B ≠ some b
 lb : B < W.heap.size
theorem Sf.lt {B : Nat} {W : World} {b : Nat} {cs : Array Value} {t : TypeId} (h : Sf B W b cs t) : b < W.heap.size := (Array.getElem?_eq_some_iff.1 h.at_).1
theorem Sf.kept {B n₀ : Nat} {W W' : World} {b : Nat} {cs : Array Value} {t : TypeId} (h : Sf B W b cs t) (k : KpR n₀ B W W') : Sf B W' b cs t :=
 ⟨k.keep b _ h.at_ rfl h.ne h.row, h.ne, fun e => by
  rcases k.row b e with e' | ⟨e', _⟩
  ·
   exact h.row e'
  ·
   have := h.lt; omega, Nat.lt_of_lt_of_le h.lb k.below.size⟩
theorem Sf.below {B : Nat} {W W' : World} {b : Nat} {cs : Array Value} {t : TypeId} (h : Sf B W b cs t) (k : Below W.heap.size W W') : Sf B W' b cs t :=
 ⟨(k.block b h.lt).trans h.at_, h.ne, by rw [rowAt_block (k.block B h.lb)]; exact h.row, Nat.lt_of_lt_of_le h.lb k.size⟩
theorem Sf.cell {B : Nat} {W : World} {b : Nat} {cs : Array Value} {t : TypeId} (h : Sf B W b cs t) (i : Nat) : W.cell? ⟨b, i, none⟩ = cs[i]? := by simp [World.cell?, h.at_]
theorem Sf.frozen {B : Nat} {W : World} {b : Nat} {v : Value} {t : TypeId} (h : Sf B W b #[v] t) : W.frozen? ⟨b, 0, none⟩ = false := Boxed.frozen (t := t) (v := v) h.at_
theorem Sf.set {B : Nat} {W : World} {b : Nat} {v : Value} {t : TypeId} (h : Sf B W b #[v] t) (u : Value) : Sf B (W.setCell ⟨b, 0, none⟩ u) b #[u] t :=
 ⟨Boxed.set (v := v) u h.at_, h.ne, by rw [rowAt_block (Below.heap_setCell W ⟨b, 0, none⟩ u B (fun e => h.ne e.symm))]; exact h.row, Nat.lt_of_lt_of_le h.lb (grownBy_setCell' W b u).size⟩
theorem Sf.other {B : Nat} {W : World} {b c : Nat} {cs : Array Value} {t : TypeId} (h : Sf B W b cs t) (hc : b ≠ c) (hB : c ≠ B) (u : Value) : Sf B (W.setCell ⟨c, 0, none⟩ u) b cs t :=
 ⟨(Below.heap_setCell W ⟨c, 0, none⟩ u b hc).trans h.at_, h.ne, by rw [rowAt_block (Below.heap_setCell W ⟨c, 0, none⟩ u B (fun e => hB e.symm))]; exact h.row, Nat.lt_of_lt_of_le h.lb (grownBy_setCell' W c u).size⟩
theorem Sf.new {B : Nat} (W : World) (cs : Array Value) (t : TypeId) (hB : B < W.heap.size) (hr : ∀ g, rowAt W B = some g → g < W.heap.size) : Sf B (W.alloc (.cells cs t)) W.heap.size cs t :=
 ⟨World.alloc_heap_new W _, by omega, by rw [rowAt_block (Below.heap_alloc W _ B hB)]; exact fun e => by have := hr _ e; omega, by simp; omega⟩
theorem Sf.alloc {B : Nat} {W : World} {b : Nat} {cs : Array Value} {t : TypeId} (h : Sf B W b cs t) (o : Obj) : Sf B (W.alloc o) b cs t := h.below ((Below.refl _ W).alloc (Nat.le_refl _) o)
def RowIn (B : Nat) (W : World) : Prop := B < W.heap.size ∧ ∀ g, rowAt W B = some g → g < W.heap.size
theorem RowIn.kept {B n₀ : Nat} {W W' : World} (h : RowIn B W) (k : KpR n₀ B W W') : RowIn B W' :=
 ⟨Nat.lt_of_lt_of_le h.1 k.below.size, fun g hg => by rcases k.row g hg with e | e; exact Nat.lt_of_lt_of_le (h.2 g e) k.below.size; exact e.2⟩
theorem RowIn.below {B : Nat} {W W' : World} (h : RowIn B W) (k : Below W.heap.size W W') : RowIn B W' :=
 ⟨Nat.lt_of_lt_of_le h.1 k.size, fun g hg => by rw [rowAt_block (k.block B h.1)] at hg; exact Nat.lt_of_lt_of_le (h.2 g hg) k.size⟩
theorem RowIn.set {B : Nat} {W : World} (h : RowIn B W) {b : Nat} (hb : b ≠ B) (u : Value) : RowIn B (W.setCell ⟨b, 0, none⟩ u) :=
 ⟨Nat.lt_of_lt_of_le h.1 (grownBy_setCell' W b u).size, fun g hg => by rw [rowAt_block (Below.heap_setCell W ⟨b, 0, none⟩ u B (fun e => hb e.symm))] at hg; exact Nat.lt_of_lt_of_le (h.2 g hg) (grownBy_setCell' W b u).size⟩
theorem Ab.mono {β : Type} {B m m' : Nat} {X X' : Nat → Prop} {J : β → World → Prop} (h : Ab B X m J) (hm : ∀ r, X' r ∨ m' ≤ r → X r ∨ m ≤ r) : Ab B X' m' J :=
 fun s W W' row hs hg hr => h s W W' row hs hg (fun r e => ⟨hm r (hr r e).1, (hr r e).2⟩)
structure Mk (m M : Nat) (Ds : List Nat) (W : World) : Prop where
 nodup : Ds.Nodup
 at_ : ∀ D ∈ Ds, m ≤ D ∧ D < M ∧ W.heap[D]? = some (.deferred (some []))
theorem Mk.nil (m M : Nat) (W : World) : Mk m M [] W := ⟨List.nodup_nil, fun _ h => by cases h⟩
theorem Mk.cons {m M M' D : Nat} {Ds : List Nat} {W : World} (h : Mk m M Ds W) (hm : m ≤ D) (h1 : M ≤ D) (h2 : D < M') (hd : W.heap[D]? = some (.deferred (some []))) : Mk m M' (D :: Ds) W :=
 ⟨List.nodup_cons.2 ⟨fun hD => by have := (h.at_ D hD).2.1; omega, h.nodup⟩, fun E hE => by
  rcases List.mem_cons.1 hE with rfl | hE
  ·
   exact ⟨hm, h2, hd⟩
  ·
   obtain ⟨a, b, c⟩ := h.at_ E hE; exact ⟨a, by omega, c⟩⟩
theorem Mk.keeps {m M k : Nat} {Ds : List Nat} {W W' : World} (h : Mk m M Ds W) (hk : KeepsFrom k W W') (hm : k ≤ m) : Mk m M Ds W' :=
 ⟨h.nodup, fun D hD => by obtain ⟨a, b, c⟩ := h.at_ D hD; exact ⟨a, b, hk.same D _ (by omega) c rfl⟩⟩
theorem Mk.below {m M : Nat} {Ds : List Nat} {W W' : World} (h : Mk m M Ds W) (hk : Below W.heap.size W W') : Mk m M Ds W' := h.keeps (k := 0) (keeps_of hk) (Nat.zero_le _)
theorem Mk.rest {m M D : Nat} {Ds : List Nat} {W : World} (h : Mk m M (D :: Ds) W) : Mk m M Ds (W.putObj D (.deferred none)) := by
 have hn := List.nodup_cons.1 h.nodup
 refine ⟨hn.2, fun E hE => ?_⟩
 obtain ⟨a', b', c'⟩ := h.at_ E (List.mem_cons_of_mem _ hE)
 exact ⟨a', b', (World.putObj_heap_other (k := E) (r := D) (fun e => hn.1 (by rw [← e]; exact hE))).trans c'⟩
end
section
open Go.RowKit Go.Shelf
end
section
open Go.RowKit Go.Shelf
attribute [local go_sem] Oper.semAt_some
def Pt (w₀ : World) (D : Nat → Prop) : Type := { x : (Nat × Nat) × (Hd × Fo) // Row w₀ D (.cons x.2.1 x.2.2 .nil) x.1.1 x.1.2 }
def Pt.enc {w₀ : World} {D : Nat → Prop} (x : Pt w₀ D) : Array Value := #[.pointer (some ⟨x.1.1.1, x.1.1.2, none⟩)]
structure Dk (n₀ B : Nat) (D : Nat → Prop) (w₀ W : World) : Prop where
 same : ∀ c, D c → W.heap[c]? = w₀.heap[c]?
 lt : ∀ c, D c → c < W.heap.size
 safe : ∀ c, D c → c < n₀ ∨ ((∃ o : Obj, W.heap[c]? = some o ∧ o.isCells = true) ∧ c ≠ B ∧ rowAt W B ≠ some c)
 lb : B < W.heap.size
theorem Dk.kept {n₀ B : Nat} {D : Nat → Prop} {w₀ W W' : World} (h : Dk n₀ B D w₀ W) (k : KpR n₀ B W W') : Dk n₀ B D w₀ W' := by
 have hs : ∀ c, D c → W'.heap[c]? = W.heap[c]? := fun c hc => by
  rcases h.safe c hc with h1 | ⟨⟨o, ho, hoc⟩, h2, h3⟩
  ·
   exact k.below.block c h1
  ·
   rw [ho]; exact k.keep c o ho hoc h2 h3
 refine ⟨fun c hc => (hs c hc).trans (h.same c hc), fun c hc => Nat.lt_of_lt_of_le (h.lt c hc) k.below.size, fun c hc => ?_, Nat.lt_of_lt_of_le h.lb k.below.size⟩
 rcases h.safe c hc with h1 | ⟨⟨o, ho, hoc⟩, h2, h3⟩
 ·
  exact .inl h1
 ·
  refine .inr ⟨⟨o, (hs c hc).trans ho, hoc⟩, h2, fun e => ?_⟩
  rcases k.row c e with e' | ⟨e', _⟩
  ·
   exact h3 e'
  ·
   have := h.lt c hc; omega
theorem Dk.below {n₀ B : Nat} {D : Nat → Prop} {w₀ W W' : World} (h : Dk n₀ B D w₀ W) (k : Below W.heap.size W W') : Dk n₀ B D w₀ W' := by
 have hs : ∀ c, D c → W'.heap[c]? = W.heap[c]? := fun c hc => k.block c (h.lt c hc)
 refine ⟨fun c hc => (hs c hc).trans (h.same c hc), fun c hc => Nat.lt_of_lt_of_le (h.lt c hc) k.size, fun c hc => ?_, Nat.lt_of_lt_of_le h.lb k.size⟩
 rcases h.safe c hc with h1 | ⟨⟨o, ho, hoc⟩, h2, h3⟩
 ·
  exact .inl h1
 ·
  exact .inr ⟨⟨o, (hs c hc).trans ho, hoc⟩, h2, by rw [rowAt_block (k.block B h.lb)]; exact h3⟩
theorem Dk.cell {n₀ B : Nat} {D : Nat → Prop} {w₀ W : World} (h : Dk n₀ B D w₀ W) {c : Nat} (hc : D c) (i : Nat) : W.cell? ⟨c, i, none⟩ = w₀.cell? ⟨c, i, none⟩ := World.cell?_of_block (h.same c hc)
end
section
open Go.RowKit Go.Shelf
end
section
open Go.RowKit Go.Shelf
end
section
open Go.RowKit
theorem Dk.row {n₀ B : Nat} {D : Nat → Prop} {w₀ W : World} (h : Dk n₀ B D w₀ W) {F : Fo} {b o : Nat} (hr : Row w₀ D F b o) : Row W D F b o := row_to (fun c hc => ⟨hc, h.same c hc⟩) _ _ _ hr
end
section
open Go.RowKit Go.Shelf
def rcC (r : Int × Int × Int × Int) : List Value := [.int .i64 r.1, .int .i64 r.2.1, .int .i64 r.2.2.1, .int .i64 r.2.2.2]
end
section
open Go.RowKit Go.Shelf
theorem wpl_newN {ops : Array Oper} {rest : List Oper} {o : Oper} {a : Act} {W w : World} {Q : Exit → Act → World → Prop} (hgd : o.guard = none) (x y : Operand) (ho : o.op = .store 33 x y)
  (hW : W = w.alloc (.cells (hdC zh (.slice none 0 0)).toArray 33)) (hx : a.eval x = .pointer (some ⟨w.heap.size, 0, none⟩)) {h : Hd} {pp : Option Addr} {n cap : Nat} (hy : a.eval y = .agg (hdC h (.slice pp n cap)).toArray)
  (hk : wpList Tryz.prog ops Q rest (a.put o.dst undef) (w.alloc (.cells (hdC h (.slice pp n cap)).toArray 33))) : wpList Tryz.prog ops Q (o :: rest) a W := by
 subst hW
 refine wpl_store hgd x y ho w.heap.size hx hy (Box.new w _) rfl ?_
 rw [World.setRow_alloc_new]
 exact hk
end
section
open Go.RowKit Go.Shelf
def plainB (h : Hd) : Bool :=
 if h.kind = 1 then noCell h && noTo h && h.txt.isEmpty
 else if h.kind = 2 then noVal h && noTo h && h.txt.isEmpty
 else if h.kind = 3 then noVal h && h.txt.isEmpty
 else if h.kind = 5 ∨ h.kind = 6 then noVal h && noCell h && noTo h
 else noVal h && noCell h && noTo h && h.txt.isEmpty
def swB (h : Hd) (n : Nat) : Bool :=
 if h.kind = 1 then decide (n = 0) && constB h
 else if h.kind = 2 then decide (n = 0) && Pla.placeB h.row h.col
 else if h.kind = 3 then decide (n = 0) && Pla.placeB h.row h.col && Pla.placeB h.row2 h.col2
 else if h.kind = 4 then decide (n = 1)
 else if h.kind = 5 then decide (n = 2) && decide (0 < bindN h.txt)
 else if h.kind = 6 then nmB h.txt && decide (foldL h.txt = h.txt)
 else false
theorem nm_byte (c : UInt8) : nameC c = (nmC c && decide (foldB c = c)) := by
 have hu : c.toNat < 256 := UInt8.toNat_lt _
 by_cases h : 97 ≤ c.toNat ∧ c.toNat ≤ 122
 ·
  have e := foldB_in h.1 h.2
  have hn : foldB c ≠ c := fun q => by rw [q] at e; omega
  rw [show nameC c = false by unfold nameC greatB digitB; simp; omega, show decide (foldB c = c) = false from decide_eq_false hn, Bool.and_false]
 ·
  rw [foldB_out h, decide_eq_true rfl, Bool.and_true]
  unfold nameC nmC greatB digitB letterB isDig
  rw [Bool.eq_iff_iff]
  simp
  omega
theorem nm_head (c : UInt8) (h : foldB c = c) : greatB c = letterB c := by
 have hu : c.toNat < 256 := UInt8.toNat_lt _
 by_cases h1 : 97 ≤ c.toNat ∧ c.toNat ≤ 122
 ·
  have e := foldB_in h1.1 h1.2
  rw [h] at e
  omega
 ·
  unfold greatB letterB
  rw [Bool.eq_iff_iff]
  simp
  omega
theorem map_self {f : UInt8 → UInt8} : ∀ {l : List UInt8}, l.map f = l ↔ ∀ x ∈ l, f x = x
 | [] => by simp
 | c :: r => by rw [List.map_cons, List.cons.injEq, map_self (l := r)]; simp
theorem name_nm (l : List UInt8) : nameOk l = (nmB l && decide (foldL l = l)) := by
 cases l with
 | nil => rfl
 | cons c r =>
  by_cases hf : foldL (c :: r) = c :: r
  ·
   have hc : ∀ x ∈ c :: r, foldB x = x := fun x hx => by
    have h := map_self.1 hf
    exact h x hx
   rw [decide_eq_true hf, Bool.and_true]
   have h2 : (c :: r).all nameC = (c :: r).all nmC := by
    rw [Bool.eq_iff_iff, List.all_eq_true, List.all_eq_true]
    constructor
    ·
     intro h x hx
     have := h x hx
     rw [nm_byte] at this
     simp at this
     exact this.1
    ·
     intro h x hx
     rw [nm_byte, h x hx, decide_eq_true (hc x hx)]
     rfl
   unfold nameOk nmB
   rw [h2]
   simp only [List.headD_cons, nm_head c (hc c (by simp)), List.length_cons, List.isEmpty_cons]
   simp
  ·
   rw [decide_eq_false hf, Bool.and_false]
   have : ¬ ∀ x ∈ c :: r, foldB x = x := fun h => hf (map_self.2 h)
   have h2 : (c :: r).all nameC = false := by
    rw [List.all_eq_false]
    refine Classical.byContradiction fun hn => this fun x hx => ?_
    refine Classical.byContradiction fun hx2 => hn ⟨x, hx, ?_⟩
    rw [nm_byte, decide_eq_false hx2]
    simp
   unfold nameOk
   rw [h2, Bool.and_false]
theorem alone_split (h : Hd) (n : Nat) : aloneB h n = (plainB h && swB h n) := by
 unfold aloneB plainB swB
 by_cases h1 : h.kind = 1
 ·
  simp only [if_pos h1]; ac_rfl
 simp only [if_neg h1]
 by_cases h2 : h.kind = 2
 ·
  simp only [if_pos h2]; ac_rfl
 simp only [if_neg h2]
 by_cases h3 : h.kind = 3
 ·
  simp only [if_pos h3]; ac_rfl
 simp only [if_neg h3]
 by_cases h4 : h.kind = 4
 ·
  simp only [if_pos h4]
  rw [if_neg (by omega)]; ac_rfl
 simp only [if_neg h4]
 by_cases h5 : h.kind = 5
 ·
  simp only [if_pos h5]
  rw [if_pos (Or.inl h5)]; ac_rfl
 simp only [if_neg h5]
 by_cases h6 : h.kind = 6
 ·
  simp only [if_pos h6]
  rw [if_pos (Or.inr h6), name_nm]; ac_rfl
 simp only [if_neg h6, Bool.and_false]
end
section
open Go.RowKit Go.Shelf
theorem run_kind (k : Int) (w : World) : (Instr.build 33 #[(0, .int .i64 k)]).run Tryz.prog w = .ok (.agg (hdC ⟨k, 0, 0, [], false, 0, 0, 0, false, false, 0, 0, false, false, []⟩ (.slice none 0 0)).toArray) w := run_build w _ _ _ (by kernel_rfl)
theorem wpl_newG {ops : Array Oper} {rest : List Oper} {o : Oper} {a : Act} {W w w0 : World} {m : Nat} {Q : Exit → Act → World → Prop} (hgd : o.guard = none) (x y : Operand) (ho : o.op = .store 33 x y)
  (hW : W = w.alloc (.cells (hdC zh (.slice none 0 0)).toArray 33)) (hz : w.heap.size = m) (hx : a.eval x = .pointer (some ⟨m, 0, none⟩)) {h : Hd} {pp : Option Addr} {n cap : Nat} (hy : a.eval y = .agg (hdC h (.slice pp n cap)).toArray) {b : Nat} {cs : List Value} (hb : Box w b cs) (hB : Below w0.heap.size w0 w)
  (hk : ∀ W2 : World, Box W2 b cs → Box W2 m (hdC h (.slice pp n cap)) → Below w0.heap.size w0 W2 → W2.heap.size = m + 1 → wpList Tryz.prog ops Q rest (a.put o.dst undef) W2) : wpList Tryz.prog ops Q (o :: rest) a W := by
 subst hz
 refine wpl_newN hgd x y ho hW hx hy (hk _ (hb.alloc _) (Box.new w _) ?_ (by simp))
 exact hB.alloc hB.size _
theorem node_cells {w : World} {b : Nat} {h : Hd} {v : Value} (k : Box w b (hdC h v)) : w.cell? ⟨b, 0, none⟩ = some (.int .i64 h.kind) ∧ w.cell? ⟨b, 1, none⟩ = some (.int .i64 h.vk) ∧ w.cell? ⟨b, 2, none⟩ = some (.int .i64 h.vn) ∧ w.cell? ⟨b, 3, none⟩ = some (.string ⟨h.vs.toArray⟩) ∧ w.cell? ⟨b, 4, none⟩ = some (.bool h.vb) ∧ w.cell? ⟨b, 5, none⟩ = some (.int .i64 h.vc) ∧ w.cell? ⟨b, 6, none⟩ = some (.int .i64 h.row) ∧ w.cell? ⟨b, 7, none⟩ = some (.int .i64 h.col) ∧ w.cell? ⟨b, 8, none⟩ = some (.bool h.fr) ∧ w.cell? ⟨b, 9, none⟩ = some (.bool h.fc) ∧ w.cell? ⟨b, 10, none⟩ = some (.int .i64 h.row2) ∧ w.cell? ⟨b, 11, none⟩ = some (.int .i64 h.col2) ∧ w.cell? ⟨b, 12, none⟩ = some (.bool h.fr2) ∧ w.cell? ⟨b, 13, none⟩ = some (.bool h.fc2) ∧ w.cell? ⟨b, 14, none⟩ = some (.string ⟨h.txt.toArray⟩) :=
 ⟨k.cell 0 _ rfl, k.cell 1 _ rfl, k.cell 2 _ rfl, k.cell 3 _ rfl, k.cell 4 _ rfl, k.cell 5 _ rfl, k.cell 6 _ rfl, k.cell 7 _ rfl, k.cell 8 _ rfl, k.cell 9 _ rfl, k.cell 10 _ rfl, k.cell 11 _ rfl, k.cell 12 _ rfl, k.cell 13 _ rfl, k.cell 14 _ rfl⟩
end
end Go.Proofs.YtfpmmckpobpokaaGreat
