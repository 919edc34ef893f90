/-
  Rows of nodes that are written one by one.
-/
import Derived.Test.YtfpmmckpobpokaaGreatMRw2
namespace Go.Proofs.YtfpmmckpobpokaaGreat
open Go.RowKit
theorem made_at {w W w2 : World} {n G : Nat} {xs : List Value} (hG : G = W.heap.size) (h : w2.ownsRow (w.heap.size + 1) 33 16 (.slice (some ⟨G, 0, none⟩) n n) n xs) (hg : W.grownBy w2 none) (hb : Below w.heap.size w W) : w2.there G 0 (n * 16) ∧ Below w.heap.size w w2 ∧ Below W.heap.size W w2 ∧ G < w2.heap.size := by
 subst hG
 exact made_there h hg hb
theorem heap_setCells (b : Nat) : ∀ (vs : List Value) (o : Nat) (w : World) (c : Nat), c ≠ b → (w.setCells b o vs).heap[c]? = w.heap[c]?
 | [], _, _, _, _ => rfl
 | v :: r, o, w, c, hc => by
  rw [World.setCells, heap_setCells b r (o + 1) _ c hc]
  show (w.heap.modify b _)[c]? = _
  rw [Array.getElem?_modify, if_neg (Ne.symm hc)]
theorem size_setCells (b : Nat) : ∀ (vs : List Value) (o : Nat) (w : World), (w.setCells b o vs).heap.size = w.heap.size
 | [], _, _ => rfl
 | v :: r, o, w => by rw [World.setCells, size_setCells b r (o + 1)]; simp
theorem os_setCells (b : Nat) : ∀ (vs : List Value) (o : Nat) (w : World), (w.setCells b o vs).os = w.os ∧ (w.setCells b o vs).tape = w.tape ∧ (w.setCells b o vs).output = w.output
 | [], _, _ => ⟨rfl, rfl, rfl⟩
 | v :: r, o, w => by
  rw [World.setCells]
  have := os_setCells b r (o + 1) (w.setCell ⟨b, o, none⟩ v)
  exact ⟨this.1, this.2.1, this.2.2⟩
theorem below_setCells {n : Nat} {w w' : World} (h : Below n w w') {b : Nat} (hb : n ≤ b) (o : Nat) (vs : List Value) : Below n w (w'.setCells b o vs) := by
 obtain ⟨e1, e2, e3⟩ := os_setCells b vs o w'
 exact ⟨e1.trans h.os, e2.trans h.tape, e3.trans h.output, by rw [size_setCells]; exact h.size, fun i hi => by rw [heap_setCells b vs o w' i (by omega)]; exact h.block i hi⟩
theorem cellsN_size : ∀ (L : List (Hd × Value)), (cellsN L).length = L.length * 16
 | [] => rfl
 | x :: L => by
  have := cellsN_size L
  unfold cellsN at *
  rw [List.flatMap_cons, List.length_append, hdC_len, this, List.length_cons]; omega
theorem wpn_at {Q : Exit → Act → World → Prop} {a : Act} {e : Exit} {W W0 : World} (h : W0 = W) (k : Q e a W0) : Q e a W := h ▸ k
theorem wp_storeNd {o : Oper} {a : Act} {w : World} {K : Act → World → Prop} {Q : Exit → Act → World → Prop} (x y : Operand) (ho : o.op = .store 33 x y) (g : Nat) (hx : a.eval x = .pointer (some ⟨g, 0, none⟩)) {h : Hd} {p : Option Addr} {n cap : Nat} (hy : a.eval y = .agg (hdC h (.slice p n cap)).toArray) {cs : List Value} (hb : Box w g cs) (hl : cs.length = 16)
  (hk : K (a.put o.dst undef) (w.setRow g (hdC h (.slice p n cap)).toArray)) : o.wp Tryz.prog a w K Q := wp_store_row 33 x y ho g _ hx hy 33 _ hb (by rw [sizeNode]; rfl) (by simp [hl, hdC_len]) (hdC_one h rfl) hk
theorem exec_buildD {o : Oper} {a : Act} {w : World} (t : TypeId) (ps : Array (Nat × Operand)) (ho : o.op = .build t ps) {qs : Array (Nat × Value)} (hq : (ps.toList.map fun (i, x) => (i, a.eval x)) = qs.toList) {v : Value} (hr : (Instr.build t qs).run Tryz.prog w = .ok v w) : (execOp a.eval o).run Tryz.prog w = .ok (.value v) w := by
 have hq' : (ps.map fun (i, x) => (i, a.eval x)) = qs := by rw [← Array.toList_inj, Array.toList_map]; exact hq
 unfold execOp
 simp only [ho, hq', Sem.run_bind, hr, Result.andThen_ok]
 rfl
structure KidAt (w : World) (G n : Nat) (L : List (Hd × Value)) (F : Fo) (wr : World) : Prop where
 there : wr.there G 0 (n * 16)
 range : wr.rangeAt G 0 (cellsN L)
 ent : Ent wr (fun b => w.heap.size ≤ b ∧ b ≠ G ∧ b < wr.heap.size) L F
 below : Below w.heap.size w wr
 lt : G < wr.heap.size
 ge : w.heap.size ≤ G
theorem KidAt.first {w wr : World} {G n : Nat} (h1 : wr.there G 0 (n * 16)) (h2 : Below w.heap.size w wr) (h3 : G < wr.heap.size) (h4 : w.heap.size ≤ G) : KidAt w G n [] .nil wr :=
 ⟨h1, fun j v hv => by simp [cellsN] at hv, trivial, h2, h3, h4⟩
theorem there_below {w w' : World} {G o n : Nat} (h : w.there G o n) (hG : G < w.heap.size) (k : Below w.heap.size w w') : w'.there G o n := fun j hj => by
 rw [k.cell (p := ⟨G, o + j, none⟩) hG, k.frozen (p := ⟨G, o + j, none⟩) hG]
 exact h j hj
theorem KidAt.more {w wr w1 : World} {G n : Nat} {L : List (Hd × Value)} {F : Fo} (h : KidAt w G n L F wr) (hL : L.length < n) (hb : Below wr.heap.size wr w1) {x : Hd} {a : Option Addr} {m cap : Nat} {k : Fo} (hk : Kv w1 (New wr w1) (.slice a m cap) k) :
  KidAt w G n (L ++ [(x, .slice a m cap)]) (F.snoc x k) (w1.setCells G (L.length * 16) (hdC x (.slice a m cap))) := by
 obtain ⟨p1, p2, p3, p4, p5, p6⟩ := h
 have hc : ∀ b, b ≠ G → (w1.setCells G (L.length * 16) (hdC x (.slice a m cap))).heap[b]? = w1.heap[b]? := fun b hb => heap_setCells _ _ _ _ _ hb
 have hs := size_setCells G (hdC x (.slice a m cap)) (L.length * 16) w1
 have hz := hb.size
 have t1 : w1.there G 0 (n * 16) := there_below p1 p5 hb
 refine ⟨World.there_setCells t1 _ _ _, ?_, ?_, below_setCells (p4.trans (hb.mono p4.size)) p6 _ _, by rw [hs]; omega, p6⟩
 ·
  have hl := cellsN_size L
  have e : cellsN (L ++ [(x, .slice a m cap)]) = cellsN L ++ hdC x (.slice a m cap) := by simp [cellsN]
  rw [e]
  have r1 : w1.rangeAt G 0 (cellsN L) := fun j v hv => by
   rw [hb.cell (p := ⟨G, 0 + j, none⟩) p5]
   exact p2 j v hv
  have r2 := World.rangeAt_setCells_apart r1 G (L.length * 16) (hdC x (.slice a m cap)) (.inr (.inl (by omega)))
  have r3 := World.rangeAt_setCells_same w1 G (L.length * 16) (hdC x (.slice a m cap)) (fun j hj => by
   have := t1 (L.length * 16 + j) (by rw [hdC_len] at hj; omega)
   rw [Nat.zero_add] at this
   exact this)
  intro j v hv
  by_cases hj : j < (cellsN L).length
  ·
   rw [List.getElem?_append_left hj] at hv
   exact r2 j v hv
  ·
   rw [List.getElem?_append_right (by omega)] at hv
   have := r3 _ v hv
   rw [show L.length * 16 + (j - (cellsN L).length) = 0 + j by omega] at this
   exact this
 ·
  refine ent_snoc (kv_to hk fun b hb' => ?_) L F (ent_to (fun b hb' => ?_) L F p3)
  ·
   obtain ⟨q1, q2⟩ := hb'
   have := p4.size
   exact ⟨⟨by omega, by omega, by rw [hs]; exact q2⟩, hc b (by omega)⟩
  ·
   obtain ⟨q1, q2, q3⟩ := hb'
   exact ⟨⟨q1, q2, by rw [hs]; omega⟩, (hc b q2).trans (hb.block b q3)⟩
theorem KidAt.kv {w wr : World} {G n : Nat} {L : List (Hd × Value)} {F : Fo} (h : KidAt w G n L F wr) (hn : L.length = n) (hm : n ≤ maxLen) : Kv wr (New w wr) (.slice (some ⟨G, 0, none⟩) n n) F := by
 refine ⟨_, _, _, rfl, hn ▸ ent_len _ _ h.ent, .inr ⟨G, 0, rfl, Nat.le_refl _, hm, ?_⟩⟩
 exact ent_row ⟨h.ge, h.lt⟩ L F 0 (fun j u hu => h.range j u hu) (ent_to (fun b hb => ⟨⟨hb.1, hb.2.2⟩, rfl⟩) L F h.ent)
end Go.Proofs.YtfpmmckpobpokaaGreat
