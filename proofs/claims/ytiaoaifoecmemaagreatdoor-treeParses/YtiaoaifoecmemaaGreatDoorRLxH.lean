/-
  Where an append puts its row; what a round of Scan's loop keeps (Kp), what the iterator holds between two rounds.
-/
import Derived.Test.YtiaoaifoecmemaaGreatDoorRLxG
import Derived.Test.YtiaoaifoecmemaaGreatDoorRLxM2
import Derived.RangeFuncNested
import Derived.RangeFuncBound
import Derived.RangeFuncCalls
import Derived.RangeFuncLeaves
import Derived.RangeFuncBox
import Derived.Shelf.Abstract
import Derived.Shelf.RegionOpen
import Derived.OwnWalkIn
import Derived.TacticsInMore
import Derived.LoopNIn
import Derived.LoopIn
import Derived.Maps.AppendAt
namespace Go.Proofs.YtiaoaifoecmemaaGreatDoor
open Go.RowKit Go.Shelf
theorem append_where {P : Program} (w : World) (base : Nat) (t ty e : TypeId) (i : TypeInfo) (z : Value) (size bytes : Nat) (ht : P.underlying t = some (.slice e)) (hi : P.info? e = some i) (hz : i.zero = some z)
    (hsize : i.size = size) (hby : i.bytes = bytes) (hzs : z.cells.size = size) (hsz : 0 < size)
    (v : Value) (n : Nat) (xs : List Value) (hown : w.ownsRow base e size v n xs)
    (a : Addr) (m c : Nat) (news : List Value) (hl : news.length = m * size) (hnews : ∀ j u, news[j]? = some u → w.cell? (a.add j) = some u) (h1 : ∀ u ∈ news, u.oneCell' = true)
    (h63 : n + m ≤ maxLen) (hbytes : (n + m) * bytes ≤ 140737488355328) {v' : Value} {w' : World} (hrun : (Builtin.append_ #[t, t] ty #[v, .slice (some a) m c]).run P w = .ok v' w') :
    ∀ g, v'.ownBlock = some g → v.ownBlock = some g ∨ w.heap.size ≤ g := by
  intro g hg
  have hsmall : n + m ≤ 9223372036854775807 := by simp only [maxLen] at h63; omega
  rcases hown.2 with ⟨rfl, rfl⟩ | ⟨b, cap, cur, rfl, hbg, hgc, hnc, hcm, hcs, htake⟩
  · obtain rfl : xs = [] := List.eq_nil_of_length_eq_zero (by simpa using hown.1)
    obtain ⟨v2, w2, hr, h2, _, _⟩ := run_append_own (P := P) w w.heap.size t ty e i z size bytes ht hi hz hsize hby hzs hsz (.slice none 0 0) 0 [] (World.ownsRow_nil w _ e size) a m c news hl hnews h1 h63 hbytes (Nat.le_refl _)
    rw [hrun] at hr
    cases hr
    exact .inr (h2.lt g hg).1
  · by_cases hroom : n + m ≤ cap
    · obtain ⟨w2, hr, _, _⟩ := run_append_fits (P := P) w base t ty e i size ht hi hsize b n cap xs hown a m c news hl hnews h1 hroom
      rw [hrun] at hr
      cases hr
      exact .inl hg
    · have holds : ∀ j u, xs[j]? = some u → w.cell? ((⟨b, 0, none⟩ : Addr).add j) = some u := hown.cells (g := b) rfl
      subst hsize hby
      have hr := run_append_grow (P := P) w t ty e i z ht hi hz ⟨b, 0, none⟩ n cap xs hown.1 holds a m c news hl hnews (by omega) (by omega) (growslice_fits (by omega) hbytes)
      rw [hrun] at hr
      cases hr
      simp [Value.ownBlock] at hg
      exact .inr (by omega)
theorem wpListIn_append_at {F : Fence} {n : Nat} {P : Program} (w : World) {ops : Array Oper} {rest : List Oper} {o : Oper} {a : Act} {Q : Exit → Act → World → Prop}
    (hg : o.guard = none) (s x : Operand) (t : TypeId) (hop : o.op = Op.call { callee := Callee.builtin Builtin.append, args := #[s, x], argTypes := #[t, t] })
    (base : Nat) (e : TypeId) (i : TypeInfo) (z : Value) (size bytes : Nat) (h1 : P.underlying t = some (.slice e)) (h2 : P.info? e = some i) (h3 : i.zero = some z) (h4 : i.size = size) (h5 : i.bytes = bytes) (h6 : z.cells.size = size) (h7 : 0 < size)
    (v : Value) (k : Nat) (xs : List Value) (hs : a.eval s = v) (hown : w.ownsRow base e size v k xs) (ad : Addr) (m c : Nat) (news : List Value) (hx : a.eval x = .slice (some ad) m c) (hn : news.length = m * size)
    (hc : ∀ j u, news[j]? = some u → w.cell? (ad.add j) = some u) (h1c : ∀ u ∈ news, u.oneCell' = true) (b1 : k + m ≤ maxLen) (b2 : (k + m) * bytes ≤ 140737488355328) (b3 : base ≤ w.heap.size)
    (hK : ∀ v' w', w'.ownsRow base e size v' (k + m) (xs ++ news) → w.grownBy w' v.ownBlock → (∀ g, v'.ownBlock = some g → v.ownBlock = some g ∨ w.heap.size ≤ g) → wpListIn F n P ops Q rest (a.put o.dst v') w') :
    wpListIn F n P ops Q (o :: rest) a w := by
  refine wpListIn_plain hg fun K hK' => ?_
  obtain ⟨v', w', hrun, r1, r2, _⟩ := run_append_own (P := P) w base t o.type e i z size bytes h1 h2 h3 h4 h5 h6 h7 v k xs hown ad m c news hn hc h1c b1 b2 b3
  have r3 := append_where (P := P) w base t o.type e i z size bytes h1 h2 h3 h4 h5 h6 h7 v k xs hown ad m c news hn hc h1c b1 b2 hrun
  unfold Oper.wpIn
  refine ⟨?_, ?_⟩
  · simp [Oper.about, hop, resolve, Target.leads, Sem.run_pure]
  · rw [Oper.semAt_plain F _ _ (by rw [hop]; intro c hc'; cases hc')]
    simp [execOp, hop, resolve, invoke, builtin, hs, hx, hrun, Result.andThen]
    exact hK' _ _ (hK v' w' r1 r2 r3)
def rowOf (W : World) (B : Nat) : Option Nat := (W.cell? ⟨B, 0, none⟩).bind Value.ownBlock
structure KpL (n₀ B : Nat) (A C : World) : Prop where
 below : Below n₀ A C
 keep : ∀ (b : Nat) (o : Obj), A.heap[b]? = some o → o.isCells = true → b ≠ B → rowOf A B ≠ some b → C.heap[b]? = some o
 row : ∀ g, rowOf C B = some g → rowOf A B = some g ∨ (A.heap.size ≤ g ∧ g < C.heap.size)
theorem KpL.refl (n₀ B : Nat) (A : World) : KpL n₀ B A A := ⟨Below.refl _ _, fun _ _ h _ _ _ => h, fun _ h => .inl h⟩
theorem KpL.trans {n₀ B : Nat} {A C D : World} (h : KpL n₀ B A C) (k : KpL n₀ B C D) : KpL n₀ B A D := by
  refine ⟨h.below.trans k.below, fun b o hb hc hne hr => ?_, fun g hg => ?_⟩
  · refine k.keep b o (h.keep b o hb hc hne hr) hc hne (fun e => ?_)
    rcases h.row b e with e' | ⟨e', _⟩
    · exact hr e'
    · have := (Array.getElem?_eq_some_iff.1 hb).1; omega
  · rcases k.row g hg with e | ⟨e1, e2⟩
    · rcases h.row g e with e' | ⟨e1, e2⟩
      · exact .inl e'
      · exact .inr ⟨e1, Nat.lt_of_lt_of_le e2 k.below.size⟩
    · exact .inr ⟨Nat.le_trans h.below.size e1, e2⟩
theorem rowOf_block {W W' : World} {B : Nat} (h : W'.heap[B]? = W.heap[B]?) : rowOf W' B = rowOf W B := by
 unfold rowOf; rw [World.cell?_of_block (a := ⟨B, 0, none⟩) h]
theorem KpL.put {n₀ B n₁ : Nat} (hn : n₀ ≤ n₁) (hB : B < n₁) (W : World) (l : Nat) (o o' : Obj) (hl : n₁ ≤ l) (h : W.heap[l]? = some o) (hc : o.isCells = false) : KpL n₀ B W (W.putObj l o') := by
  refine ⟨(Below.refl n₀ W).grown (grownBy_putObj' W l o') (by have := (Array.getElem?_eq_some_iff.1 h).1; omega) (fun k e => by cases e; omega), fun b o2 hb hc2 _ _ => ?_, fun g hg => .inl ?_⟩
  · rw [World.putObj_heap_other (fun e => by subst e; rw [h] at hb; cases hb; rw [hc] at hc2; cases hc2)]
    exact hb
  · rw [rowOf_block (World.putObj_heap_other (by omega))] at hg
    exact hg
theorem KpL.alloc {n₀ B : Nat} (W : World) (o : Obj) (hn : n₀ ≤ W.heap.size) (hB : B < W.heap.size) : KpL n₀ B W (W.alloc o) :=
 ⟨(Below.refl _ _).alloc hn o, fun b _ hb _ _ _ => (Below.heap_alloc W o b (Array.getElem?_eq_some_iff.1 hb).1).trans hb, fun g hg => .inl (by rw [rowOf_block (Below.heap_alloc W o B hB)] at hg; exact hg)⟩
structure ItL (w₀ : World) (n₁ B Bs : Nat) (s : ByteArray) (W : World) : Prop where
 base : Below w₀.heap.size w₀ W
 size : n₁ ≤ W.heap.size
 box : Boxed W Bs 9 (.string s)
 row : ∀ g, rowOf W B = some g → n₁ ≤ g ∧ g < W.heap.size
theorem ItL.below {w₀ : World} {n₁ B Bs : Nat} {s : ByteArray} {W W' : World} (h : ItL w₀ n₁ B Bs s W) (hB : B < n₁) (k : Below W.heap.size W W') : ItL w₀ n₁ B Bs s W' :=
 ⟨h.base.trans (k.mono h.base.size), Nat.le_trans h.size k.size, (k.block Bs h.box.lt).trans h.box, fun g hg => by
  rw [rowOf_block (k.block B (Nat.lt_of_lt_of_le hB h.size))] at hg
  exact ⟨(h.row g hg).1, Nat.lt_of_lt_of_le (h.row g hg).2 k.size⟩⟩
theorem ItL.kept {w₀ : World} {n₁ B Bs : Nat} {s : ByteArray} {W W' : World} (h : ItL w₀ n₁ B Bs s W) (hs : Bs < n₁) (hne : Bs ≠ B) (k : KpL w₀.heap.size B W W') : ItL w₀ n₁ B Bs s W' :=
  ⟨h.base.trans k.below, Nat.le_trans h.size k.below.size, k.keep Bs _ h.box rfl hne (fun e => by have := (h.row Bs e).1; omega), fun g hg => by
    rcases k.row g hg with e | ⟨e1, e2⟩
    · exact ⟨(h.row g e).1, Nat.lt_of_lt_of_le (h.row g e).2 k.below.size⟩
    · exact ⟨Nat.le_trans h.size e1, e2⟩⟩
theorem abides_below {β : Type} {n : Nat} {J : β → World → Prop} (h : AbidesFrom n J) {x : β} {W W' : World} (hJ : J x W) (k : Below W.heap.size W W') : J x W' :=
 h x W W' none hJ ⟨k.os, k.tape, k.output, k.size, fun i hi _ => k.block i hi⟩ (fun r e => by cases e)
end Go.Proofs.YtiaoaifoecmemaaGreatDoor
