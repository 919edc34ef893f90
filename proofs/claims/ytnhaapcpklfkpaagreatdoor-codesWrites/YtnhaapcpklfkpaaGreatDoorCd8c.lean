/-
  The contract of codes' sections.
-/
import Derived.Test.YtnhaapcpklfkpaaGreatDoorCd8b
import Derived.Defers
import Derived.Recover
namespace Go.Proofs.YtnhaapcpklfkpaaGreatDoor
open Go.RowKit
set_option linter.unusedSimpArgs false

/-- One value in a block of its own. -/
def Ob (w : World) (b t : Nat) (v : Value) : Prop := w.heap[b]? = some (.cells #[v] t (0, 0))
theorem Ob.lt {w : World} {b t : Nat} {v : Value} (h : Ob w b t v) : b < w.heap.size := (Array.getElem?_eq_some_iff.1 h).1
theorem Ob.below {w w' : World} {b t : Nat} {v : Value} (h : Ob w b t v) (k : Below w.heap.size w w') : Ob w' b t v := by
  unfold Ob; rw [k.block b h.lt]; exact h
theorem Ob.other {w : World} {b t : Nat} {v : Value} (h : Ob w b t v) {g : Nat} (hg : b ≠ g) (i : Nat) (u : Value) : Ob (w.setCell ⟨g, i, none⟩ u) b t v := by
  unfold Ob; rw [Below.heap_setCell _ _ _ _ hg]; exact h
theorem Ob.cell {w : World} {b t : Nat} {v : Value} (h : Ob w b t v) : w.cell? ⟨b, 0, none⟩ = some v := by
  simp [World.cell?, show w.heap[b]? = _ from h]
theorem Ob.free {w : World} {b t : Nat} {v : Value} (h : Ob w b t v) : w.frozen? ⟨b, 0, none⟩ = false := by
  simp [World.frozen?, show w.heap[b]? = _ from h]
theorem Ob.set {w : World} {b t : Nat} {v : Value} (h : Ob w b t v) (y : Value) : Ob (w.setCell ⟨b, 0, none⟩ y) b t y := by
  unfold Ob at *
  simp [World.setCell, Array.getElem?_modify, h]
theorem RS.keepFrom {n₀ B : Nat} {W W' : World} {g cap : Nat} {G : List (Value × List Pc)} {C : Array Value} (h : RS n₀ B W g cap G C) (hs : W.heap.size ≤ W'.heap.size) (hB : n₀ ≤ B) (k : ∀ b, n₀ ≤ b → W'.heap[b]? = W.heap[b]?) : RS n₀ B W' g cap G C :=
  ⟨(k B hB).trans h.box, h.lt, (k g h.lt).trans h.row, h.cs, h.le, h.mx, ⟨Nat.lt_of_lt_of_le h.secs.1 hs, fun i x hx => ⟨Nat.lt_of_lt_of_le h.secs.1 hs, fun j hj => (World.cell?_of_block (a := ⟨g, i * 12 + j, none⟩) (k g h.lt)).trans ((h.secs.2 i x hx).2 j hj)⟩⟩,
    fun i x hx => own_same (h.rows i x hx) (fun b _ hb e => (k b ((h.rows i x hx).lt b hb).1).trans e), h.apart⟩
set_option maxRecDepth 100000 in
set_option maxHeartbeats 2000000 in
theorem catch_panicking (b1 b2 : Nat) (x : Int) (a1 a2 : Value) (w : World) (h1 : Ob w b1 32 a1) (h2 : Ob w b2 33 a2) (d : b1 ≠ b2) (h1s : ∃ p n c, a1 = .slice p n c) (h2s : ∃ k n, a2 = .int k n) :
    CallsD Tryz.prog 24 #[.pointer (some ⟨b1, 0, none⟩), .pointer (some ⟨b2, 0, none⟩)] (.panicking [{ v := .iface 57 (.int .i64 x), recovered := false }]) w fun e u' w' =>
      e = .returned (.tuple #[]) ∧ u' = .panicking [{ v := .iface 57 (.int .i64 x), recovered := true }] ∧ w' = (w.setCell ⟨b1, 0, none⟩ (.slice none 0 0)).setCell ⟨b2, 0, none⟩ (.int .i64 x) := by
  obtain ⟨p, n, c, rfl⟩ := h1s
  obtain ⟨kk, nn, rfl⟩ := h2s
  have hta : ∀ W : World, (Instr.typeAssert (.iface 57 (.int .i64 x)) 20 57 true).run Tryz.prog W = .ok (.tuple #[.int .i64 x, .bool true]) W := fun W => rfl
  have c1 := h1.cell
  have f1 := h1.free
  have c2 := (h2.other (Ne.symm d) 0 (.slice none 0 0)).cell
  have f2 := (h2.other (Ne.symm d) 0 (.slice none 0 0)).free
  clear h1 h2
  refine callsD_of_wpS Tryz.func24 rfl fun c₀ cs hu => ?_
  apply wpS_seq
  apply wpS_region
  simp [wpOpsS, go_sem, recoverD, hu, Tryz.ntmps24, Exit.thenS]
  refine wpS_of_wp ?_
  simp only [Array.replicate_succ, Array.replicate_zero, List.push_toArray, List.append_toArray, List.nil_append, List.cons_append, List.setIfInBounds_toArray, List.set_cons_zero, List.set_cons_succ]
  go_wp2
  exact ⟨rfl, _, rfl, .tuple #[], results_none rfl _ _ _, rfl, rfl, rfl⟩
set_option maxRecDepth 100000 in
theorem catch_idle (p q : Value) (w : World) :
    CallsD Tryz.prog 24 #[p, q] .returning w fun e u' w' => e = .returned (.tuple #[]) ∧ u' = .returning ∧ w' = w := by
  refine callsD_of_wpS Tryz.func24 rfl fun c₀ cs hu => ?_
  apply wpS_seq
  apply wpS_region
  simp [wpOpsS, go_sem, recoverD, hu, Tryz.ntmps24, Exit.thenS]
  refine wpS_of_wp ?_
  simp only [Array.replicate_succ, Array.replicate_zero, List.push_toArray, List.append_toArray, List.nil_append, List.cons_append, List.setIfInBounds_toArray, List.set_cons_zero, List.set_cons_succ]
  go_wp2
  refine ⟨rfl, .returning, ?_, .tuple #[], results_none rfl _ _ _, rfl, rfl, rfl⟩
  cases c₀
  simp_all
theorem Ob.ret2 {fn : Func} {t u : Tmp} (hf : fn.results = #[.cell t 32, .cell u 33]) {tmps : Array Value} {w : World} {b1 b2 : Nat} {p : Option Addr} {n c : Nat} {y : Int} (k1 : Ob w b1 32 (.slice p n c)) (k2 : Ob w b2 33 (.int .i64 y)) (ht : tmps.getD t undef = .pointer (some ⟨b1, 0, none⟩)) (hu : tmps.getD u undef = .pointer (some ⟨b2, 0, none⟩)) :
    (results fn tmps).run Tryz.prog w = .ok (.tuple #[.slice p n c, .int .i64 y]) w := by
  have ht' : tmps[t]?.getD undef = .pointer (some ⟨b1, 0, none⟩) := by simpa using ht
  have hu' : tmps[u]?.getD undef = .pointer (some ⟨b2, 0, none⟩) := by simpa using hu
  have c1 : (loadVar 32 ⟨b1, 0, none⟩).run Tryz.prog w = .ok (.slice p n c) w := by simp [go_sem, k1.cell]
  have c2 : (loadVar 33 ⟨b2, 0, none⟩).run Tryz.prog w = .ok (.int .i64 y) w := by simp [go_sem, k2.cell]
  simp [results, hf, ht', hu', asAddr, c1, c2]
/-- The two results' blocks, new. -/
theorem two (w : World) : Below w.heap.size w ((w.alloc (.cells #[.slice none 0 0] 32)).alloc (.cells #[.int .i64 0] 33)) ∧
    Ob ((w.alloc (.cells #[.slice none 0 0] 32)).alloc (.cells #[.int .i64 0] 33)) w.heap.size 32 (.slice none 0 0) ∧
    Ob ((w.alloc (.cells #[.slice none 0 0] 32)).alloc (.cells #[.int .i64 0] 33)) (w.heap.size + 1) 33 (.int .i64 0) := by
  refine ⟨((Below.refl _ _).alloc (Nat.le_refl _) _).alloc (by simp) _, ?_, ?_⟩
  · unfold Ob
    rw [Below.heap_alloc _ _ _ (by simp)]
    exact World.alloc_heap_new w _
  · have := World.alloc_heap_new (w.alloc (.cells #[.slice none 0 0] 32)) (.cells #[.int .i64 0] 33)
    rw [World.size_alloc] at this
    exact this
/-- What sections tells. -/
def SecsQ (w : World) (x : Int) (o : Option (List (List Pc))) (e : Ending) (w' : World) : Prop :=
  Below w.heap.size w w' ∧ match o with
    | none => e = .returned (.tuple #[.slice none 0 0, .int .i64 x])
    | some ss => ∃ n₀ B g cap G C, w.heap.size ≤ n₀ ∧ e = .returned (.tuple #[.slice (some ⟨g, 0, none⟩) G.length cap, .int .i64 0]) ∧ RS n₀ B w' g cap G C ∧ G.map Prod.snd = ss
theorem below_up {w W W' : World} (h : Below w.heap.size w W) (k : Below W.heap.size W W') : Below w.heap.size w W' := h.trans (k.mono h.size)
set_option maxRecDepth 100000 in
set_option maxHeartbeats 2000000 in
theorem sections_no (s : ByteArray) (x : Int) (w : World) (hr : ∀ W : World, Below w.heap.size w W → Calls Tryz.prog 25 #[.string s] W fun e w' => e = .panicked [{ v := .iface 57 (.int .i64 x), recovered := false }] ∧ Below W.heap.size W w') :
    Calls Tryz.prog 7 #[.string s] w (SecsQ w x none) := by
  have hmf : ∀ (fn : Fn) (first cap : Array Value) (w : World), (Instr.makeFunc fn first cap).run Tryz.prog w = .ok (.func fn first cap) w := fun _ _ _ _ => rfl
  have HR := hide hr
  have HT := hide (two w)
  clear hr
  go_enter_defers Tryz.func7, Tryz.ntmps7
  go_wp2_with (first | (go_at_call 25; refine (HR.out _ HT.out.1).mono ?_; rintro e w1 ⟨rfl, hb1⟩; have HB1 := hide hb1; clear hb1))
  refine leaves_cons (f := 24) (args := #[.pointer (some ⟨w.heap.size, 0, none⟩), .pointer (some ⟨w.heap.size + 1, 0, none⟩)]) (by simp) (by simp [go_sem]) ?_
  refine (catch_panicking w.heap.size (w.heap.size + 1) x _ _ w1 (Ob.below HT.out.2.1 HB1.out) (Ob.below HT.out.2.2 HB1.out) (by omega) ⟨_, _, _, rfl⟩ ⟨_, _, rfl⟩).mono ?_
  rintro e u' w'' ⟨rfl, rfl, rfl⟩
  have h1 := HT.out.2.1.below HB1.out
  have h2 := HT.out.2.2.below HB1.out
  have hb := below_up HT.out.1 HB1.out
  refine ⟨_, Ob.ret2 rfl ((h1.set (.slice none 0 0)).other (by omega) _ _) ((h2.other (by omega) _ _).set (.int .i64 x)) rfl rfl, ?_, rfl⟩
  exact (hb.setCell (p := ⟨w.heap.size, 0, none⟩) (Nat.le_refl _) _).setCell (p := ⟨w.heap.size + 1, 0, none⟩) (Nat.le_succ _) _
set_option maxRecDepth 100000 in
set_option maxHeartbeats 2000000 in
theorem sections_ok (s : ByteArray) (ss : List (List Pc)) (w : World) (hr : ∀ W : World, Below w.heap.size w W → Calls Tryz.prog 25 #[.string s] W (ReadQ W (some ss))) :
    Calls Tryz.prog 7 #[.string s] w (SecsQ w 0 (some ss)) := by
  have hmf : ∀ (fn : Fn) (first cap : Array Value) (w : World), (Instr.makeFunc fn first cap).run Tryz.prog w = .ok (.func fn first cap) w := fun _ _ _ _ => rfl
  have HR : Hid (∀ W : World, Below w.heap.size w W → Calls Tryz.prog 25 #[.string s] W fun e w' => Below W.heap.size W w' ∧ ∃ g cap G C, e = .returned (.slice (some ⟨g, 0, none⟩) G.length cap) ∧ RS W.heap.size (W.heap.size + 1) w' g cap G C ∧ G.map Prod.snd = ss) := hr
  have HT := hide (two w)
  clear hr
  go_enter_defers Tryz.func7, Tryz.ntmps7
  go_wp2_with ((go_at_call 25; refine (HR.out _ HT.out.1).mono ?_; rintro e w1 ⟨hb1, g, cap, G, C, rfl, hrs, hG⟩; have HB1 := hide hb1; have HRS := hide hrs; have HG := hide hG; have h1 := HT.out.2.1.below hb1; have h2 := HT.out.2.2.below hb1; have c1 := h1.cell; have f1 := h1.free; have c2 := (h2.other (g := w.heap.size) (by omega) 0 (.slice (some ⟨g, 0, none⟩) G.length cap)).cell; have f2 := (h2.other (g := w.heap.size) (by omega) 0 (.slice (some ⟨g, 0, none⟩) G.length cap)).free; clear hb1 hrs hG h1 h2))
  refine leaves_cons (f := 24) (args := #[.pointer (some ⟨w.heap.size, 0, none⟩), .pointer (some ⟨w.heap.size + 1, 0, none⟩)]) (by simp) (by simp [go_sem]) ?_
  refine (catch_idle _ _ _).mono ?_
  rintro e u' w'' ⟨rfl, rfl, rfl⟩
  have h1 := HT.out.2.1.below HB1.out
  have h2 := HT.out.2.2.below HB1.out
  have hb := below_up HT.out.1 HB1.out
  have z2 : w.heap.size + 2 ≤ ((w.alloc (.cells #[.slice none 0 0] 32)).alloc (.cells #[.int .i64 0] 33)).heap.size := by simp
  refine ⟨_, Ob.ret2 rfl ((h1.set _).other (by omega) _ _) ((h2.other (by omega) _ _).set (.int .i64 0)) rfl rfl, ?_, ?_⟩
  · exact (hb.setCell (p := ⟨w.heap.size, 0, none⟩) (Nat.le_refl _) _).setCell (p := ⟨w.heap.size + 1, 0, none⟩) (Nat.le_succ _) _
  · refine ⟨_, _, g, cap, G, C, HT.out.1.size, rfl, HRS.out.keepFrom (by simp) (Nat.le_succ _) (fun b hb => ?_), HG.out⟩
    rw [Below.heap_setCell _ _ _ _ (by show b ≠ w.heap.size + 1; omega), Below.heap_setCell _ _ _ _ (by show b ≠ w.heap.size; omega)]
/-- Sections, at every text. -/
theorem sections_any (l : List UInt8) (w : World) (hl : l.length ≤ 9223372036854775807) (hc : CellOk w) :
    Calls Tryz.prog 7 #[.string ⟨l.toArray⟩] w (SecsQ w (if 60 < l.length then 7 else 5) (if 60 < l.length then none else readR l)) ∨ (l.length ≤ 60 ∧ ∃ ss, readR l = some ss ∧ Calls Tryz.prog 7 #[.string ⟨l.toArray⟩] w (SecsQ w 0 (some ss))) := by
  by_cases hb : 60 < l.length
  · rw [if_pos hb, if_pos hb]
    exact .inl (sections_no _ 7 w fun W _ => read_big l W hb hl)
  · rw [if_neg hb, if_neg hb]
    have h60 : l.length ≤ 60 := by omega
    cases hr : readR l with
    | none =>
      refine .inl (sections_no _ 5 w fun W hW => (read_small l W h60 (cellOk_below hc hW)).mono fun e w' hq => ?_)
      rw [hr] at hq
      exact ⟨hq.2, hq.1⟩
    | some ss =>
      refine .inr ⟨h60, ss, rfl, sections_ok _ ss w fun W hW => ?_⟩
      have := read_small l W h60 (cellOk_below hc hW)
      rwa [hr] at this
end Go.Proofs.YtnhaapcpklfkpaaGreatDoor
