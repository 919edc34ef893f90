/-
  strs' told: a call that recovers from its refusal.
-/
import Derived.Test.YthooimaadgabiabDoorSt1
import Derived.Defers
import Derived.Recover
namespace Go.Proofs.YthooimaadgabiabDoor
open Go.RowKit
set_option linter.unusedSimpArgs false

/-- One value in a block of its own. -/
def Ob (w : World) (b t : Nat) (v : Value) : Prop := w.heap[b]? = some (.cells #[v] t (0, 0))
theorem Ob.lt {w : World} {b t : Nat} {v : Value} (h : Ob w b t v) : b < w.heap.size := (Array.getElem?_eq_some_iff.1 h).1
theorem Ob.below {w w' : World} {b t : Nat} {v : Value} (h : Ob w b t v) (k : Below w.heap.size w w') : Ob w' b t v := by
  unfold Ob; rw [k.block b h.lt]; exact h
theorem Ob.cell {w : World} {b t : Nat} {v : Value} (h : Ob w b t v) : w.cell? ⟨b, 0, none⟩ = some v := by
  simp [World.cell?, show w.heap[b]? = _ from h]
theorem Ob.free {w : World} {b t : Nat} {v : Value} (h : Ob w b t v) : w.frozen? ⟨b, 0, none⟩ = false := by
  simp [World.frozen?, show w.heap[b]? = _ from h]
theorem Ob.set {w : World} {b t : Nat} {v : Value} (h : Ob w b t v) (y : Value) : Ob (w.setCell ⟨b, 0, none⟩ y) b t y := by
  unfold Ob at *
  simp [World.setCell, Array.getElem?_modify, h]
theorem below_up {w W W' : World} (h : Below w.heap.size w W) (k : Below W.heap.size W W') : Below w.heap.size w W' := h.trans (k.mono h.size)
theorem Ob.ret {fn : Func} {t u : Tmp} (hf : fn.results = #[.tmp t, .cell u 23]) {tmps : Array Value} {w : World} {b : Nat} {v : Value} {y : Int} (k : Ob w b 23 (.int .i64 y)) (ht : tmps.getD t undef = v) (hu : tmps.getD u undef = .pointer (some ⟨b, 0, none⟩)) :
    (results fn tmps).run Tryd.prog w = .ok (.tuple #[v, .int .i64 y]) w := by
  have ht' : tmps[t]?.getD undef = v := by simpa using ht
  have hu' : tmps[u]?.getD undef = .pointer (some ⟨b, 0, none⟩) := by simpa using hu
  have c2 : (loadVar 23 ⟨b, 0, none⟩).run Tryd.prog w = .ok (.int .i64 y) w := by simp [go_sem, k.cell]
  simp [results, hf, ht', hu', asAddr, c2]
theorem one (w : World) : Below w.heap.size w (w.alloc (.cells #[.int .i64 0] 23)) ∧ Ob (w.alloc (.cells #[.int .i64 0] 23)) w.heap.size 23 (.int .i64 0) :=
  ⟨(Below.refl _ _).alloc (Nat.le_refl _) _, World.alloc_heap_new w _⟩
set_option maxRecDepth 100000 in
set_option maxHeartbeats 2000000 in
theorem catch_panicking_string (b : Nat) (x : Int) (w : World) (h1 : Ob w b 23 (.int .i64 x)) :
    CallsD Tryd.prog 43 #[.pointer (some ⟨b, 0, none⟩)] (.panicking RF) w fun e u' w' =>
      e = .returned (.tuple #[]) ∧ u' = .panicking [{ v := .iface 50 (.int .i64 2), recovered := true }] ∧ w' = w.setCell ⟨b, 0, none⟩ (.int .i64 2) := by
  have hta : ∀ W : World, (Instr.typeAssert (.iface 50 (.int .i64 2)) 20 50 true).run Tryd.prog W = .ok (.tuple #[.int .i64 2, .bool true]) W := fun W => rfl
  have c1 := h1.cell
  have f1 := h1.free
  clear h1
  refine callsD_of_wpS Tryd.func43 rfl fun c₀ cs hu => ?_
  apply wpS_seq
  apply wpS_region
  simp [wpOpsS, go_sem, recoverD, hu, RF, Tryd.ntmps43, Exit.thenS]
  refine wpS_of_wp ?_
  simp only [Array.replicate_succ, Array.replicate_zero, List.push_toArray, List.append_toArray, List.nil_append, List.cons_append, List.setIfInBounds_toArray, List.set_cons_zero, List.set_cons_succ]
  go_wp2
  exact ⟨rfl, _, rfl, .tuple #[], results_none rfl _ _ _, rfl, rfl, rfl⟩
set_option maxRecDepth 100000 in
theorem catch_idle_string (p : Value) (w : World) :
    CallsD Tryd.prog 43 #[p] .returning w fun e u' w' => e = .returned (.tuple #[]) ∧ u' = .returning ∧ w' = w := by
  refine callsD_of_wpS Tryd.func43 rfl fun c₀ cs hu => ?_
  apply wpS_seq
  apply wpS_region
  simp [wpOpsS, go_sem, recoverD, hu, Tryd.ntmps43, Exit.thenS]
  refine wpS_of_wp ?_
  simp only [Array.replicate_succ, Array.replicate_zero, List.push_toArray, List.append_toArray, List.nil_append, List.cons_append, List.setIfInBounds_toArray, List.set_cons_zero, List.set_cons_succ]
  go_wp2
  refine ⟨rfl, .returning, ?_, .tuple #[], results_none rfl _ _ _, rfl, rfl, rfl⟩
  cases c₀
  simp_all
set_option maxRecDepth 100000 in
set_option maxHeartbeats 2000000 in
theorem told_no_string (f : Nat) (caps : Array Value) (w : World) (r1 : ∀ (xs : Array Value) (W : World), Sem.run Tryd.prog (callFunc f xs) W = .ok (.enter f xs) W) (hr : ∀ W : World, Below w.heap.size w W → Calls Tryd.prog f caps W fun e w' => e = .panicked RF ∧ Below W.heap.size W w') :
    Calls Tryd.prog 17 #[.func (.func f) #[] caps] w fun e w' => e = .returned (.tuple #[.string ⟨#[]⟩, .int .i64 2]) ∧ Below w.heap.size w w' := by
  have hmf : ∀ (fn : Fn) (first cap : Array Value) (w : World), (Instr.makeFunc fn first cap).run Tryd.prog w = .ok (.func fn first cap) w := fun _ _ _ _ => rfl
  have HR := hide hr
  have HT := hide (one w)
  clear hr
  go_enter_defers Tryd.func17, Tryd.ntmps17
  go_wp2_with (first | (refine (HR.out _ HT.out.1).mono ?_; rintro e w1 ⟨rfl, hb1⟩; have HB1 := hide hb1; clear hb1))
  refine leaves_cons (f := 43) (args := #[.pointer (some ⟨w.heap.size, 0, none⟩)]) (by simp) (by simp [go_sem]) ?_
  refine (catch_panicking_string w.heap.size 0 w1 (HT.out.2.below HB1.out)).mono ?_
  rintro e u' w'' ⟨rfl, rfl, rfl⟩
  have h1 := HT.out.2.below HB1.out
  have hb := below_up HT.out.1 HB1.out
  exact ⟨_, Ob.ret rfl (h1.set (.int .i64 2)) rfl rfl, rfl, hb.setCell (p := ⟨w.heap.size, 0, none⟩) (Nat.le_refl _) _⟩
set_option maxRecDepth 100000 in
set_option maxHeartbeats 2000000 in
theorem told_ok_string (f : Nat) (caps : Array Value) (t : ByteArray) (w : World) (r1 : ∀ (xs : Array Value) (W : World), Sem.run Tryd.prog (callFunc f xs) W = .ok (.enter f xs) W) (hr : ∀ W : World, Below w.heap.size w W → Calls Tryd.prog f caps W fun e w' => e = .returned (.string t) ∧ Below W.heap.size W w') :
    Calls Tryd.prog 17 #[.func (.func f) #[] caps] w fun e w' => e = .returned (.tuple #[.string t, .int .i64 0]) ∧ Below w.heap.size w w' := by
  have hmf : ∀ (fn : Fn) (first cap : Array Value) (w : World), (Instr.makeFunc fn first cap).run Tryd.prog w = .ok (.func fn first cap) w := fun _ _ _ _ => rfl
  have HR := hide hr
  have HT := hide (one w)
  clear hr
  go_enter_defers Tryd.func17, Tryd.ntmps17
  go_wp2_with (first | (refine (HR.out _ HT.out.1).mono ?_; rintro e w1 ⟨rfl, hb1⟩; have HB1 := hide hb1; have h1 := HT.out.2.below hb1; have c1 := h1.cell; have f1 := h1.free; clear hb1 h1))
  refine leaves_cons (f := 43) (args := #[.pointer (some ⟨w.heap.size, 0, none⟩)]) (by simp) (by simp [go_sem]) ?_
  refine (catch_idle_string _ _).mono ?_
  rintro e u' w'' ⟨rfl, rfl, rfl⟩
  have h1 := HT.out.2.below HB1.out
  have hb := below_up HT.out.1 HB1.out
  exact ⟨_, Ob.ret rfl (h1.set (.int .i64 0)) rfl rfl, rfl, hb.setCell (p := ⟨w.heap.size, 0, none⟩) (Nat.le_refl _) _⟩
set_option maxRecDepth 100000 in
set_option maxHeartbeats 2000000 in
theorem catch_panicking_int (b : Nat) (x : Int) (w : World) (h1 : Ob w b 23 (.int .i64 x)) :
    CallsD Tryd.prog 47 #[.pointer (some ⟨b, 0, none⟩)] (.panicking RF) w fun e u' w' =>
      e = .returned (.tuple #[]) ∧ u' = .panicking [{ v := .iface 50 (.int .i64 2), recovered := true }] ∧ w' = w.setCell ⟨b, 0, none⟩ (.int .i64 2) := by
  have hta : ∀ W : World, (Instr.typeAssert (.iface 50 (.int .i64 2)) 20 50 true).run Tryd.prog W = .ok (.tuple #[.int .i64 2, .bool true]) W := fun W => rfl
  have c1 := h1.cell
  have f1 := h1.free
  clear h1
  refine callsD_of_wpS Tryd.func47 rfl fun c₀ cs hu => ?_
  apply wpS_seq
  apply wpS_region
  simp [wpOpsS, go_sem, recoverD, hu, RF, Tryd.ntmps47, Exit.thenS]
  refine wpS_of_wp ?_
  simp only [Array.replicate_succ, Array.replicate_zero, List.push_toArray, List.append_toArray, List.nil_append, List.cons_append, List.setIfInBounds_toArray, List.set_cons_zero, List.set_cons_succ]
  go_wp2
  exact ⟨rfl, _, rfl, .tuple #[], results_none rfl _ _ _, rfl, rfl, rfl⟩
set_option maxRecDepth 100000 in
theorem catch_idle_int (p : Value) (w : World) :
    CallsD Tryd.prog 47 #[p] .returning w fun e u' w' => e = .returned (.tuple #[]) ∧ u' = .returning ∧ w' = w := by
  refine callsD_of_wpS Tryd.func47 rfl fun c₀ cs hu => ?_
  apply wpS_seq
  apply wpS_region
  simp [wpOpsS, go_sem, recoverD, hu, Tryd.ntmps47, Exit.thenS]
  refine wpS_of_wp ?_
  simp only [Array.replicate_succ, Array.replicate_zero, List.push_toArray, List.append_toArray, List.nil_append, List.cons_append, List.setIfInBounds_toArray, List.set_cons_zero, List.set_cons_succ]
  go_wp2
  refine ⟨rfl, .returning, ?_, .tuple #[], results_none rfl _ _ _, rfl, rfl, rfl⟩
  cases c₀
  simp_all
set_option maxRecDepth 100000 in
set_option maxHeartbeats 2000000 in
theorem told_no_int (f : Nat) (caps : Array Value) (w : World) (r1 : ∀ (xs : Array Value) (W : World), Sem.run Tryd.prog (callFunc f xs) W = .ok (.enter f xs) W) (hr : ∀ W : World, Below w.heap.size w W → Calls Tryd.prog f caps W fun e w' => e = .panicked RF ∧ Below W.heap.size W w') :
    Calls Tryd.prog 32 #[.func (.func f) #[] caps] w fun e w' => e = .returned (.tuple #[.int .i64 0, .int .i64 2]) ∧ Below w.heap.size w w' := by
  have hmf : ∀ (fn : Fn) (first cap : Array Value) (w : World), (Instr.makeFunc fn first cap).run Tryd.prog w = .ok (.func fn first cap) w := fun _ _ _ _ => rfl
  have HR := hide hr
  have HT := hide (one w)
  clear hr
  go_enter_defers Tryd.func32, Tryd.ntmps32
  go_wp2_with (first | (refine (HR.out _ HT.out.1).mono ?_; rintro e w1 ⟨rfl, hb1⟩; have HB1 := hide hb1; clear hb1))
  refine leaves_cons (f := 47) (args := #[.pointer (some ⟨w.heap.size, 0, none⟩)]) (by simp) (by simp [go_sem]) ?_
  refine (catch_panicking_int w.heap.size 0 w1 (HT.out.2.below HB1.out)).mono ?_
  rintro e u' w'' ⟨rfl, rfl, rfl⟩
  have h1 := HT.out.2.below HB1.out
  have hb := below_up HT.out.1 HB1.out
  exact ⟨_, Ob.ret rfl (h1.set (.int .i64 2)) rfl rfl, rfl, hb.setCell (p := ⟨w.heap.size, 0, none⟩) (Nat.le_refl _) _⟩
set_option maxRecDepth 100000 in
set_option maxHeartbeats 2000000 in
theorem told_ok_int (f : Nat) (caps : Array Value) (t : Int) (w : World) (r1 : ∀ (xs : Array Value) (W : World), Sem.run Tryd.prog (callFunc f xs) W = .ok (.enter f xs) W) (hr : ∀ W : World, Below w.heap.size w W → Calls Tryd.prog f caps W fun e w' => e = .returned (.int .i64 t) ∧ Below W.heap.size W w') :
    Calls Tryd.prog 32 #[.func (.func f) #[] caps] w fun e w' => e = .returned (.tuple #[.int .i64 t, .int .i64 0]) ∧ Below w.heap.size w w' := by
  have hmf : ∀ (fn : Fn) (first cap : Array Value) (w : World), (Instr.makeFunc fn first cap).run Tryd.prog w = .ok (.func fn first cap) w := fun _ _ _ _ => rfl
  have HR := hide hr
  have HT := hide (one w)
  clear hr
  go_enter_defers Tryd.func32, Tryd.ntmps32
  go_wp2_with (first | (refine (HR.out _ HT.out.1).mono ?_; rintro e w1 ⟨rfl, hb1⟩; have HB1 := hide hb1; have h1 := HT.out.2.below hb1; have c1 := h1.cell; have f1 := h1.free; clear hb1 h1))
  refine leaves_cons (f := 47) (args := #[.pointer (some ⟨w.heap.size, 0, none⟩)]) (by simp) (by simp [go_sem]) ?_
  refine (catch_idle_int _ _).mono ?_
  rintro e u' w'' ⟨rfl, rfl, rfl⟩
  have h1 := HT.out.2.below HB1.out
  have hb := below_up HT.out.1 HB1.out
  exact ⟨_, Ob.ret rfl (h1.set (.int .i64 0)) rfl rfl, rfl, hb.setCell (p := ⟨w.heap.size, 0, none⟩) (Nat.le_refl _) _⟩
/-- What is told of a text, or of a number, and why it is not. -/
def tupT (o : Option By) : Value := match o with
  | some t => .tuple #[.string ⟨t.toArray⟩, .int .i64 0]
  | none => .tuple #[.string ⟨#[]⟩, .int .i64 2]
def tupI (o : Option Int) : Value := match o with
  | some n => .tuple #[.int .i64 n, .int .i64 0]
  | none => .tuple #[.int .i64 0, .int .i64 2]
theorem told_string (f : Nat) (caps : Array Value) (o : Option By) (w : World) (r1 : ∀ (xs : Array Value) (W : World), Sem.run Tryd.prog (callFunc f xs) W = .ok (.enter f xs) W) (hr : ∀ W : World, Below w.heap.size w W → Calls Tryd.prog f caps W fun e w' => e = endT o ∧ Below W.heap.size W w') :
    Calls Tryd.prog 17 #[.func (.func f) #[] caps] w fun e w' => e = .returned (tupT o) ∧ Below w.heap.size w w' := by
  cases o with
  | none => exact told_no_string f caps w r1 hr
  | some t => exact told_ok_string f caps ⟨t.toArray⟩ w r1 hr
theorem told_int (f : Nat) (caps : Array Value) (o : Option Int) (w : World) (r1 : ∀ (xs : Array Value) (W : World), Sem.run Tryd.prog (callFunc f xs) W = .ok (.enter f xs) W) (hr : ∀ W : World, Below w.heap.size w W → Calls Tryd.prog f caps W fun e w' => e = endI o ∧ Below W.heap.size W w') :
    Calls Tryd.prog 32 #[.func (.func f) #[] caps] w fun e w' => e = .returned (tupI o) ∧ Below w.heap.size w w' := by
  cases o with
  | none => exact told_no_int f caps w r1 hr
  | some t => exact told_ok_int f caps t w r1 hr
end Go.Proofs.YthooimaadgabiabDoor
