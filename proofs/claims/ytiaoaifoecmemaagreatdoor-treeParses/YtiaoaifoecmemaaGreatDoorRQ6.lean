/-
  errors.As at the reader's own refusal: the model's entries at this dump's types, and the contract where the error is one.
  The contract of the reader's formula.
  The contract of the reader's kids.
-/
import Derived.Test.YtiaoaifoecmemaaGreatDoorRQ2
import Derived.LaidEql
import Derived.Stop.Asserts
import Derived.RowKitTokens
set_option maxRecDepth 100000
set_option maxHeartbeats 4000000
namespace Go.Proofs.YtiaoaifoecmemaaGreatDoor
open Go.RowKit Go.Extern.Stop Go.Stop Go.Extern
theorem as_valueP (t : Addr) (w : World) : (ReflectliteValue.unpack (.iface 87 (.pointer (some t)))).run Tryz.prog w = .ok (.agg #[.pointer (some ⟨12, 87, none⟩), .pointer (some ⟨w.heap.size, 0, none⟩), .int .u64 150]) (w.alloc (.cells #[.pointer (some t)] 87)) := by kernel_rfl
theorem as_typeP (a : Addr) (w : World) : (ReflectliteValue.methodAny (ReflectliteValue.valueError "reflectlite.Value.Type" 0) (fun t _ _ _ => ReflectliteType.toType t) #[.agg #[.pointer (some ⟨12, 87, none⟩), .pointer (some a), .int .u64 150]]).run Tryz.prog w = .ok (.iface 145 (.agg #[.pointer (some ⟨12, 87, none⟩)])) w := by kernel_rfl
theorem as_kindP (w : World) : ((ReflectliteType.abiMethod fun t => (fun a : Nat => Value.int IntKind.u8 (a : Int)) <$> Rtype.kind t) #[.pointer (some ⟨12, 87, none⟩)]).run Tryz.prog w = .ok (.int .u8 22) w := by kernel_rfl
theorem as_kindT (w : World) : ((ReflectliteType.abiMethod fun t => (fun a : Nat => Value.int IntKind.u8 (a : Int)) <$> Rtype.kind t) #[.pointer (some ⟨12, 82, none⟩)]).run Tryz.prog w = .ok (.int .u8 25) w := by kernel_rfl
theorem as_rlm (z : Sem Value) (f : TypeId → Addr → Nat → Nat → Sem Value) (v : Value) : ReflectliteValue.method z f #[v] = (do match ← ReflectliteValue.parts v with | none => z | some (t, a, fl) => f t a fl (fl % 32)) := rfl
theorem as_partsP (a : Addr) (w : World) : (ReflectliteValue.parts (.agg #[.pointer (some ⟨12, 87, none⟩), .pointer (some a), .int .u64 150])).run Tryz.prog w = .ok (some (87, a, 150)) w := by kernel_rfl
theorem as_isNilP (a p : Addr) (W : World) (ha : W.cell? a = some (.pointer (some p))) : (ReflectliteValue.method (ReflectliteValue.valueError "reflectlite.Value.IsNil" 0) ReflectliteValue.isNil #[.agg #[.pointer (some ⟨12, 87, none⟩), .pointer (some a), .int .u64 150]]).run Tryz.prog W = .ok (.bool false) W := by
 rw [as_rlm]
 simp only [Sem.run_bind, as_partsP, Result.andThen]
 simp [ReflectliteValue.isNil, loadVar, isAgg, underlying, Tryz.underlying87, ha, Result.andThen]
theorem as_elemT (w : World) : (ReflectliteType.method ReflectliteType.elem #[.agg #[.pointer (some ⟨12, 87, none⟩)]]).run Tryz.prog w = .ok (.iface 145 (.agg #[.pointer (some ⟨12, 82, none⟩)])) w := by kernel_rfl
theorem as_implT (w : World) : (ReflectliteType.relation "Implements" ReflectliteType.implements_ #[.agg #[.pointer (some ⟨12, 82, none⟩)], .iface 145 (.agg #[.pointer (some ⟨12, 84, none⟩)])]).run Tryz.prog w = .ok (.bool true) w := by kernel_rfl
theorem as_typeOfT (v : Value) (w : World) : (ReflectliteType.typeOf #[.iface 82 v]).run Tryz.prog w = .ok (.iface 145 (.agg #[.pointer (some ⟨12, 82, none⟩)])) w := by kernel_rfl
theorem as_assignT (w : World) : (ReflectliteType.relation "AssignableTo" ReflectliteType.assignableTo #[.agg #[.pointer (some ⟨12, 82, none⟩)], .iface 145 (.agg #[.pointer (some ⟨12, 82, none⟩)])]).run Tryz.prog w = .ok (.bool true) w := by kernel_rfl
theorem as_valueT (x y : Int) (w : World) : (ReflectliteValue.unpack (.iface 82 (.agg #[.int .i64 x, .int .i64 y]))).run Tryz.prog w = .ok (.agg #[.pointer (some ⟨12, 82, none⟩), .pointer (some ⟨w.heap.size, 0, none⟩), .int .u64 153]) (w.alloc (.cells #[.int .i64 x, .int .i64 y] 82)) := by kernel_rfl
theorem as_elemOf (w : World) : (Rtype.elem? 87).run Tryz.prog w = .ok (some 82) w := by kernel_rfl
theorem as_mkT (p : Addr) (w : World) : (ReflectliteValue.mk 82 p ReflectliteValue.flagAddr).run Tryz.prog w = .ok (.agg #[.pointer (some ⟨12, 82, none⟩), .pointer (some p), .int .u64 409]) w := by kernel_rfl
theorem as_elemV (a p : Addr) (W : World) (ha : W.cell? a = some (.pointer (some p))) : (ReflectliteValue.method (ReflectliteValue.valueError "reflectlite.Value.Elem" 0) ReflectliteValue.elem #[.agg #[.pointer (some ⟨12, 87, none⟩), .pointer (some a), .int .u64 150]]).run Tryz.prog W = .ok (.agg #[.pointer (some ⟨12, 82, none⟩), .pointer (some p), .int .u64 409]) W := by
 rw [as_rlm]
 simp only [Sem.run_bind, as_partsP, Result.andThen]
 simp [ReflectliteValue.elem, loadVar, isAgg, underlying, Tryz.underlying87, ha, Result.andThen, as_elemOf, as_mkT]
theorem as_mKind (h : Value) (w : World) : (Go.method 409 145 (.agg #[h]) "Kind").run Tryz.prog w = .ok (260, h) w := by kernel_rfl
theorem as_mElem (h : Value) (w : World) : (Go.method 409 145 (.agg #[h]) "Elem").run Tryz.prog w = .ok (271, .agg #[h]) w := by kernel_rfl
theorem as_mImpl (h : Value) (w : World) : (Go.method 409 145 (.agg #[h]) "Implements").run Tryz.prog w = .ok (272, .agg #[h]) w := by kernel_rfl
theorem as_mAssign (h : Value) (w : World) : (Go.method 409 145 (.agg #[h]) "AssignableTo").run Tryz.prog w = .ok (269, .agg #[h]) w := by kernel_rfl
theorem as_partsA (a : Addr) (w : World) : (ReflectliteValue.parts (.agg #[.pointer (some ⟨12, 82, none⟩), .pointer (some a), .int .u64 409])).run Tryz.prog w = .ok (some (82, a, 409)) w := by kernel_rfl
theorem as_partsT (a : Addr) (w : World) : (ReflectliteValue.parts (.agg #[.pointer (some ⟨12, 82, none⟩), .pointer (some a), .int .u64 153])).run Tryz.prog w = .ok (some (82, a, 153)) w := by kernel_rfl
theorem as_direct (w : World) : (Rtype.directlyAssignable 82 82).run Tryz.prog w = .ok true w := by kernel_rfl
theorem as_size : (Tryz.prog.info? 82).map (·.size) = some 2 := by kernel_rfl
theorem setRow_heap' (w : World) (g k : Nat) (cs : Array Value) (h : k ≠ g) : (w.setRow g cs).heap[k]? = w.heap[k]? := by
 show (w.heap.modify g _)[k]? = _
 rw [Array.getElem?_modify, if_neg (Ne.symm h)]
theorem setRow_size' (w : World) (g : Nat) (cs : Array Value) : (w.setRow g cs).heap.size = w.heap.size := by
 show (w.heap.modify g _).size = _
 simp
def Ref2 (w : World) (b : Nat) (x y : Int) : Prop := w.heap[b]? = some (.cells #[.int .i64 x, .int .i64 y] 82 (0, 0))
theorem as_set (tb b : Nat) (x y x0 y0 : Int) (W : World) (hb : Ref2 W b x y) (ht : Ref2 W tb x0 y0) :
  (ReflectliteValue.set #[.agg #[.pointer (some ⟨12, 82, none⟩), .pointer (some ⟨tb, 0, none⟩), .int .u64 409], .agg #[.pointer (some ⟨12, 82, none⟩), .pointer (some ⟨b, 0, none⟩), .int .u64 153]]).run Tryz.prog W = .ok (.tuple #[]) (W.setRow tb #[.int .i64 x, .int .i64 y]) := by
 have h1 := run_loadVar_row (P := Tryz.prog) W b 82 82 _ (0, 0) _ hb Tryz.underlying82 rfl (by rw [as_size]; rfl)
 have h2 := run_storeVar_row (P := Tryz.prog) W tb 82 82 _ #[.int .i64 x, .int .i64 y] ht (by rw [as_size]; rfl) rfl (by simp [Value.oneCell'])
 change Sem.run Tryz.prog (Bind.bind (ReflectliteValue.parts (.agg #[.pointer (some ⟨12, 82, none⟩), .pointer (some ⟨tb, 0, none⟩), .int .u64 409])) fun _ => Bind.bind (ReflectliteValue.parts (.agg #[.pointer (some ⟨12, 82, none⟩), .pointer (some ⟨b, 0, none⟩), .int .u64 153])) _) W = _
 simp only [Sem.run_bind, as_partsA, as_partsT, Result.andThen]
 simp [ReflectliteValue.flagAddr, h1, as_direct, h2, Result.andThen]
theorem as_hit (tb : Nat) (x y x0 y0 : Int) (w : World) (hg : w.cell? ⟨0, 0, none⟩ = some (.iface 145 (.agg #[.pointer (some ⟨12, 84, none⟩)]))) (ht : Ref2 w tb x0 y0) :
  Calls Tryz.prog 36 #[.iface 82 (.agg #[.int .i64 x, .int .i64 y]), .iface 87 (.pointer (some ⟨tb, 0, none⟩))] w fun ev w' => ev = .returned (.bool true) ∧ Ref2 w' tb x y ∧ Bar tb w w' := by
 have htl : tb < w.heap.size := (Array.getElem?_eq_some_iff.1 ht).1
 have h62 := @run_callFunc_extern Tryz.prog 62 _ (fun args => ReflectliteValue.unpack (args.getD 0 (.tuple #[]))) Tryz.func62 (by kernel_rfl) (by kernel_rfl) (by kernel_rfl) (by kernel_rfl)
 have h63 := @run_callFunc_extern Tryz.prog 63 _ (ReflectliteValue.methodAny (ReflectliteValue.valueError "reflectlite.Value.Type" 0) (fun t _ _ _ => ReflectliteType.toType t)) Tryz.func63 (by kernel_rfl) (by kernel_rfl) (by kernel_rfl) (by kernel_rfl)
 have h64 := @run_callFunc_extern Tryz.prog 64 _ (ReflectliteValue.method (ReflectliteValue.valueError "reflectlite.Value.IsNil" 0) ReflectliteValue.isNil) Tryz.func64 (by kernel_rfl) (by kernel_rfl) (by kernel_rfl) (by kernel_rfl)
 have hK := @run_callFunc_extern Tryz.prog 260 _ (ReflectliteType.abiMethod fun t => do pure (.int .u8 (← Rtype.kind t))) Tryz.func260 (by kernel_rfl) (by kernel_rfl) (by kernel_rfl) (by kernel_rfl)
 have hEl := @run_callFunc_extern Tryz.prog 271 _ (ReflectliteType.method ReflectliteType.elem) Tryz.func271 (by kernel_rfl) (by kernel_rfl) (by kernel_rfl) (by kernel_rfl)
 have hIm := @run_callFunc_extern Tryz.prog 272 _ (ReflectliteType.relation "Implements" ReflectliteType.implements_) Tryz.func272 (by kernel_rfl) (by kernel_rfl) (by kernel_rfl) (by kernel_rfl)
 have hTy := @run_callFunc_extern Tryz.prog 93 _ ReflectliteType.typeOf Tryz.func93 (by kernel_rfl) (by kernel_rfl) (by kernel_rfl) (by kernel_rfl)
 have hAs := @run_callFunc_extern Tryz.prog 269 _ (ReflectliteType.relation "AssignableTo" ReflectliteType.assignableTo) Tryz.func269 (by kernel_rfl) (by kernel_rfl) (by kernel_rfl) (by kernel_rfl)
 have h94 := @run_callFunc_extern Tryz.prog 94 _ (ReflectliteValue.method (ReflectliteValue.valueError "reflectlite.Value.Elem" 0) ReflectliteValue.elem) Tryz.func94 (by kernel_rfl) (by kernel_rfl) (by kernel_rfl) (by kernel_rfl)
 have h95 := @run_callFunc_extern Tryz.prog 95 _ ReflectliteValue.set Tryz.func95 (by kernel_rfl) (by kernel_rfl) (by kernel_rfl) (by kernel_rfl)
 have q1 := as_valueP
 have q2 := as_typeP
 have q3 := as_kindP
 have q4 := as_kindT
 have q5 := as_elemT
 have q6 := as_implT
 have q7 := as_typeOfT
 have q8 := as_assignT
 have q9 := as_valueT
 have m1 := as_mKind
 have m2 := as_mElem
 have m3 := as_mImpl
 have m4 := as_mAssign
 have hlt : 0 < w.heap.size := by omega
 have n8 := as_isNilP ⟨w.heap.size, 0, none⟩ ⟨tb, 0, none⟩ ((w.alloc (.cells #[.pointer (some ⟨tb, 0, none⟩)] 87)).alloc (.cells #[.pointer (some ⟨12, 87, none⟩), .pointer (some ⟨w.heap.size, 0, none⟩), .int .u64 150] 114)) (by rw [World.cell?_alloc_lt _ _ ⟨w.heap.size, 0, none⟩ (by simp)]; simp [go_sem])
 have hg2 : ((w.alloc (.cells #[.pointer (some ⟨tb, 0, none⟩)] 87)).alloc (.cells #[.pointer (some ⟨12, 87, none⟩), .pointer (some ⟨w.heap.size, 0, none⟩), .int .u64 150] 114)).cell? ⟨0, 0, none⟩ = some (.iface 145 (.agg #[.pointer (some ⟨12, 84, none⟩)])) := by
  rw [World.cell?_alloc_lt _ _ ⟨0, 0, none⟩ (by simp), World.cell?_alloc_lt _ _ ⟨0, 0, none⟩ hlt]; exact hg
 have el := as_elemV ⟨w.heap.size, 0, none⟩ ⟨tb, 0, none⟩ (((w.alloc (.cells #[.pointer (some ⟨tb, 0, none⟩)] 87)).alloc (.cells #[.pointer (some ⟨12, 87, none⟩), .pointer (some ⟨w.heap.size, 0, none⟩), .int .u64 150] 114)).alloc (.cells #[.pointer (some ⟨12, 87, none⟩), .pointer (some ⟨w.heap.size, 0, none⟩), .int .u64 150] 114)) (by rw [World.cell?_alloc_lt _ _ ⟨w.heap.size, 0, none⟩ (by simp; omega), World.cell?_alloc_lt _ _ ⟨w.heap.size, 0, none⟩ (by simp)]; simp [go_sem])
 obtain ⟨W4, hW4⟩ : ∃ W4, W4 = ((((w.alloc (.cells #[.pointer (some ⟨tb, 0, none⟩)] 87)).alloc (.cells #[.pointer (some ⟨12, 87, none⟩), .pointer (some ⟨w.heap.size, 0, none⟩), .int .u64 150] 114)).alloc (.cells #[.pointer (some ⟨12, 87, none⟩), .pointer (some ⟨w.heap.size, 0, none⟩), .int .u64 150] 114)).alloc (.cells #[.int .i64 x, .int .i64 y] 82)) := ⟨_, rfl⟩
 have hbl : ∀ k, k < w.heap.size → W4.heap[k]? = w.heap[k]? := fun k hk => by
  rw [hW4, Below.heap_alloc _ _ _ (by simp; omega), Below.heap_alloc _ _ _ (by simp; omega), Below.heap_alloc _ _ _ (by simp; omega), Below.heap_alloc _ _ _ hk]
 have ht4 : Ref2 W4 tb x0 y0 := by unfold Ref2; rw [hbl tb htl]; exact ht
 have hb4 : Ref2 W4 (w.heap.size + 1 + 1 + 1) x y := by
  unfold Ref2
  rw [hW4]
  have := heap_alloc_new (((w.alloc (.cells #[.pointer (some ⟨tb, 0, none⟩)] 87)).alloc (.cells #[.pointer (some ⟨12, 87, none⟩), .pointer (some ⟨w.heap.size, 0, none⟩), .int .u64 150] 114)).alloc (.cells #[.pointer (some ⟨12, 87, none⟩), .pointer (some ⟨w.heap.size, 0, none⟩), .int .u64 150] 114)) (.cells #[.int .i64 x, .int .i64 y] 82)
  simpa using this
 have st := as_set tb (w.heap.size + 1 + 1 + 1) x y x0 y0 W4 hb4 ht4
 have HB4 : Hid (Bar tb w (W4.setRow tb #[.int .i64 x, .int .i64 y])) := by
  have hsz : W4.heap.size = w.heap.size + 4 := by rw [hW4]; simp
  have hall : Bar tb w W4 := by
   rw [hW4]
   exact ((((Bar.refl _ _).alloc _).alloc _).alloc _).alloc _
  exact ⟨hall.os, hall.tape, hall.output, by rw [setRow_size']; exact hall.size, fun k hk hn => by rw [setRow_heap' _ _ _ _ hn]; exact hall.block k hk hn⟩
 have HR4 : Hid (Ref2 (W4.setRow tb #[.int .i64 x, .int .i64 y]) tb x y) := by
  show (W4.heap.modify tb _)[tb]? = _
  rw [Array.getElem?_modify, if_pos rfl, show W4.heap[tb]? = _ from ht4]
  rfl
 rw [hW4] at st HB4 HR4
 clear hbl ht4 hb4 hg ht hW4 W4
 go_enter Tryz.func36, Tryz.ntmps36
 go_wp2
 refine wp_loop_rounds 1 ?_
 rw [rounds_succ]
 go_wp2
 go_ret
 exact ⟨rfl, HR4.out, HB4.out⟩
def lenOf (w : World) (R : Nat) : Nat := match w.cell? ⟨R, 0, none⟩ with
 | some (.slice _ n _) => n
 | _ => 0
theorem Rdr.len {w : World} {R : Nat} {l : List Tok} (h : Rdr w R l) : lenOf w R = l.length := by
 obtain ⟨_, _, _, g, o, cap, hc, _⟩ := h
 simp [lenOf, hc]
def Mid (w : World) (p q : Nat) (wr : World) (b : Nat) : Prop := w.heap.size ≤ b ∧ b ≠ p ∧ b ≠ q ∧ b < wr.heap.size
theorem step_ok {R : Nat} {w wr w2 w3 : World} {B4 B5 : Nat} {h' h2 : Hd} {v' v2 : Value} {k' k2 : Fo} {r2 : List Tok} {z : List Value} (hR : R < w.heap.size) (h4 : w.heap.size ≤ B4) (h5 : w.heap.size ≤ B5) (h45 : B4 ≠ B5) (hx1 : Box wr B5 (hdC h' v')) (hx6 : Box wr B4 z) (hx2 : Kv wr (Mid w B4 B5 wr) v' k')
    (hx5 : Bar R w wr) (hb2 : Bar R wr w2) (hb3 : Bar R w2.drew w3) (hk3 : Kv w3 (New w2.drew w3) v2 k2) (hr3 : Rdr w3 R r2) (c : List Value) :
    Box ((w3.alloc (.cells (hdC h' v' ++ hdC h2 v2).toArray 34)).setRow B5 c.toArray) B5 c ∧
    Kv ((w3.alloc (.cells (hdC h' v' ++ hdC h2 v2).toArray 34)).setRow B5 c.toArray) (Mid w B4 B5 ((w3.alloc (.cells (hdC h' v' ++ hdC h2 v2).toArray 34)).setRow B5 c.toArray)) (.slice (some ⟨w3.heap.size, 0, none⟩) 2 2) (.cons h' k' (.cons h2 k2 .nil)) ∧
    Rdr ((w3.alloc (.cells (hdC h' v' ++ hdC h2 v2).toArray 34)).setRow B5 c.toArray) R r2 ∧
    Bar R w ((w3.alloc (.cells (hdC h' v' ++ hdC h2 v2).toArray 34)).setRow B5 c.toArray) ∧
    Box ((w3.alloc (.cells (hdC h' v' ++ hdC h2 v2).toArray 34)).setRow B5 c.toArray) B4 z := by
  have l5 := hx1.lt
  have l4 := hx6.lt
  have s2 := hb2.size
  have s3 : w2.heap.size ≤ w3.heap.size := hb3.size
  have sz : ((w3.alloc (.cells (hdC h' v' ++ hdC h2 v2).toArray 34)).setRow B5 c.toArray).heap.size = w3.heap.size + 1 := by rw [setRow_size]; simp
  have y1 : Box w3 B5 (hdC h' v') := (hx1.bar hb2 (by omega)).drew.bar hb3 (by omega)
  have y6 : Box w3 B4 z := (hx6.bar hb2 (by omega)).drew.bar hb3 (by omega)
  have same : ∀ b, b < w3.heap.size → b ≠ B5 → ((w3.alloc (.cells (hdC h' v' ++ hdC h2 v2).toArray 34)).setRow B5 c.toArray).heap[b]? = w3.heap[b]? := fun b hb hn => by
    rw [setRow_heap _ _ _ _ hn, Below.heap_alloc _ _ _ hb]
  refine ⟨(y1.alloc _).set _, kv_two (fz := (0, 0)) (t := 34) ?_ ?_ (kv_to hx2 fun b hb => ?_) (kv_to hk3 fun b hb => ?_), (hr3.alloc _).row (by omega) _, ((hx5.trans (hb2.drew.trans hb3)).alloc _).row (by omega) _, (y6.alloc _).other h45 _⟩
  · rw [setRow_heap _ _ _ _ (by omega)]; exact heap_alloc_new _ _
  · unfold Mid; rw [sz]; omega
  · unfold Mid at hb ⊢
    rw [sz]
    refine ⟨by omega, ?_⟩
    rw [same b (by omega) (by omega), hb3.block b (by show b < w2.heap.size; omega) (by omega)]
    exact hb2.block b (by omega) (by omega)
  · unfold New at hb
    have hb1 : w2.heap.size ≤ b := hb.1
    unfold Mid
    rw [sz]
    refine ⟨by omega, same b (by omega) (by omega)⟩
theorem formula_bad (R m : Nat) (l r : List Tok) (w : World) (h : Rdr w R l) (HS : ∀ W : World, Rdr W R l → Calls Tryz.prog 67 #[.pointer (some ⟨R, 0, none⟩)] W (Told R W (.bad r))) :
  Calls Tryz.prog 38 #[.pointer (some ⟨R, 0, none⟩), .int .i64 (m : Int)] w (Told R w (.bad r)) := by
 have HR := hide h
 have HSg : Hid (∀ W : World, Rdr W R l → Calls Tryz.prog 67 #[.pointer (some ⟨R, 0, none⟩)] W fun e w' => e = .panicked [{ v := .iface 82 (.agg #[.int .i64 (hd r).pos, .int .i64 5]), recovered := false }] ∧ Bar R W w') := HS
 have hRs := h.1
 clear h HS
 go_enter Tryz.func38, Tryz.ntmps38
 go_wp2_with (first | (go_at_call 67; refine (HSg.out _ ?_).mono ?_; (focus ((repeat' (first | with_reducible (first | exact Hid.out (by assumption) | refine Rdr.set ?_ ?_ _ _ | refine Rdr.row ?_ ?_ _ | refine Rdr.alloc ?_ _ | refine Rdr.drew ?_ | refine Rdr.drewN ?_ _) | omega)); done)); rintro e w1 ⟨rfl, hb1⟩; have HB1 := hide hb1; clear hb1))
 refine ⟨rfl, rfl, ?_⟩
 (repeat' (first | with_reducible (first | exact Bar.refl _ _ | refine Bar.setNew ?_ ?_ _ | refine Bar.row ?_ ?_ _ | refine Bar.alloc ?_ _ | refine Bar.drew ?_ | refine Bar.drewN ?_ _ | refine Bar.trans ?_ (Hid.out (by assumption))) | (simp; done) | (simp; omega) | omega))
theorem formula_ok (R m : Nat) (hm : 1 ≤ m) (l r : List Tok) (h : Hd) (k : Fo) (w : World) (hr : Rdr w R l) (HS : ∀ W : World, Rdr W R l → Calls Tryz.prog 67 #[.pointer (some ⟨R, 0, none⟩)] W (Told R W (.ok h k r)))
    (HF : ∀ (m' : Nat) (l' : List Tok) (W : World), l'.length < r.length → 1 ≤ m' → m' ≤ 5 → Ended l' → Rdr W R l' → Calls Tryz.prog 38 #[.pointer (some ⟨R, 0, none⟩), .int .i64 (m' : Int)] W (Told R W (rd (.form m') l'))) :
    Calls Tryz.prog 38 #[.pointer (some ⟨R, 0, none⟩), .int .i64 (m : Int)] w (Told R w (rd (.loop m h k) r)) := by
  have HR := hide hr
  have HSg : Hid (∀ W : World, Rdr W R l → Calls Tryz.prog 67 #[.pointer (some ⟨R, 0, none⟩)] W fun e w' => ∃ a n cap, e = .returned (.agg (hdC h (.slice a n cap)).toArray) ∧ Kv w' (New W w') (.slice a n cap) k ∧ Rdr w' R r ∧ Bar R W w' ∧ Ended r) := HS
  have HFo := hide HF
  have hRs := hr.1
  have hns := newStore
  clear hr HS HF
  go_enter Tryz.func38, Tryz.ntmps38
  go_wp2_with (first | (go_at_call 67; refine (HSg.out _ ?_).mono ?_; (focus ((repeat' (first | with_reducible (first | exact Hid.out (by assumption) | refine Rdr.set ?_ ?_ _ _ | refine Rdr.row ?_ ?_ _ | refine Rdr.alloc ?_ _ | refine Rdr.drew ?_ | refine Rdr.drewN ?_ _) | omega)); done)); rintro e w1 ⟨a1, n1, cap1, rfl, hk1, hr1, hb1, he1⟩; have HK1 := hide hk1; have HR1 := hide hr1; have HB1 := hide hb1; have HE1 := hide he1; have z1 : w.heap.size < w1.heap.size := (by have := hb1.size; simp at this; omega); clear hk1 hr1 hb1 he1))
  have HL : Hid (∀ W : World, ∀ l' : List Tok, Rdr W R l' → ∃ g o n cap, W.cell? ⟨R, 0, none⟩ = some (.slice (some ⟨g, o, none⟩) n cap) ∧ 0 < n ∧ W.cell? ⟨g, o + 10, none⟩ = some (.string ⟨(hd l').txt.toArray⟩)) := fun W l' hW => by
    obtain ⟨hR, hf, hne, g, o, cap, hc, hc1, hc2, hg, ht⟩ := hW
    exact ⟨g, o, _, cap, hc, List.length_pos_iff.2 hne, ht 0 _ (hd_at hne) 10 (by omega)⟩
  go_loopw [6, 7] (fun _ _ wr => ∃ (h' : Hd) (k' : Fo) (r' : List Tok) (a' : Option Addr) (n' cap' : Nat), Box wr w1.heap.size (hdC h' (.slice a' n' cap')) ∧ Kv wr (Mid w w.heap.size w1.heap.size wr) (.slice a' n' cap') k' ∧ Rdr wr R r' ∧ Ended r' ∧ Bar R w wr ∧ Box wr w.heap.size (hdC zh (.slice none 0 0)) ∧ r'.length ≤ r.length ∧ rd (.loop m h k) r = rd (.loop m h' k') r') (fun _ _ wr => lenOf wr R)
  case atStart =>
    refine ⟨h, k, r, a1, n1, cap1, Box.new _ _, kv_to HK1.out (fun b hb => ?_), HR1.out.alloc _, HE1.out, ?_, ?_, Nat.le_refl _, rfl⟩
    · have h1 := hb.1
      have h2 := hb.2
      simp at h1 h2
      refine ⟨?_, Below.heap_alloc _ _ _ h2⟩
      unfold Mid
      simp
      omega
    · (repeat' (first | with_reducible (first | exact Bar.refl _ _ | refine Bar.setNew ?_ ?_ _ | refine Bar.row ?_ ?_ _ | refine Bar.alloc ?_ _ | refine Bar.drew ?_ | refine Bar.drewN ?_ _ | refine Bar.trans ?_ (Hid.out (by assumption))) | (simp; done) | (simp; omega) | omega))
    · exact Box.alloc (Box.bar (Box.new w _) HB1.out (by omega)) _
  case round =>
    obtain ⟨h', k', r', a', n', cap', hx1, hx2, hx3, hx4, hx5, hx6, hx7, hx8⟩ := hrel
    have HX1 := hide hx1
    have HX2 := hide hx2
    have HX3 := hide hx3
    have HX4 := hide hx4
    have HX5 := hide hx5
    have HX6 := hide hx6
    have HX8 := hide hx8
    obtain ⟨g, o, n, cap, kc, kn, kt⟩ := HL.out _ _ hx3
    have HB : Hid (∀ W : World, Calls Tryz.prog 56 #[.string ⟨(hd r').txt.toArray⟩] W fun e w' => e = .returned (.int .i64 (bindN (hd r').txt : Int)) ∧ w' = W) := fun W => by
      have := binding_any ⟨(hd r').txt.toArray⟩ W
      simpa using this
    have hlen := hx3.len
    have HLen := hide hlen
    have HX7 := hide hx7
    have hbr := hx5.size
    have hB5 := hx1.lt
    clear hx1 hx2 hx3 hx4 hx5 hx6 hx7 hx8 hlen
    by_cases hb : bindN (hd r').txt < m
    · have hbi : (bindN (hd r').txt : Int) < (m : Int) := by omega
      go_wp2_with (first | (with_reducible refine wpl_id ?_; refine wpl_load rfl _ rfl _ rfl (by ((repeat' (first | with_reducible (first | exact Hid.out (by assumption) | apply Box.set | exact Box.new _ _ | apply Box.other | apply Box.alloc | apply Box.drew | apply Box.drewN) | omega)); done)) ?_) | (with_reducible refine wpl_id ?_; refine wpl_store rfl _ _ rfl _ rfl rfl (by ((repeat' (first | with_reducible (first | exact Hid.out (by assumption) | apply Box.set | exact Box.new _ _ | apply Box.other | apply Box.alloc | apply Box.drew | apply Box.drewN) | omega)); done)) rfl ?_) | (go_at_call 56; refine (HB.out _).mono ?_; rintro e wz ⟨rfl, hz⟩; subst wz))
      refine bodyPost_ret (Box.ret rfl (by ((repeat' (first | with_reducible (first | exact Hid.out (by assumption) | apply Box.set | exact Box.new _ _ | apply Box.other | apply Box.alloc | apply Box.drew | apply Box.drewN) | omega)); done)) rfl) rfl ?_
      rw [HX8.out, rd_stop h' k' hb]
      refine ⟨a', n', cap', rfl, kv_to HX2.out (fun b hb => ⟨⟨hb.1, by rw [setRow_size]; exact hb.2.2.2⟩, setRow_heap _ _ _ _ hb.2.1⟩), ?_, ?_, HX4.out⟩
      · (repeat' (first | with_reducible (first | exact Hid.out (by assumption) | refine Rdr.set ?_ ?_ _ _ | refine Rdr.row ?_ ?_ _ | refine Rdr.alloc ?_ _ | refine Rdr.drew ?_ | refine Rdr.drewN ?_ _) | omega))
      · have := HX5.out
        refine Bar.row this (Nat.le_refl _) _
    · have hbi : ¬ (bindN (hd r').txt : Int) < (m : Int) := by omega
      have hnz : bindN (hd r').txt ≠ 0 := by omega
      have htx : (hd r').txt ≠ [] := fun e => by rw [e] at hnz; exact hnz bind_nil
      have HE := hide (ended_tail HX4.out (.inr htx))
      have hb4 := bind_le (hd r').txt
      have HTl := hide (tail_bind (l := r') hnz)
      have HF2 : Hid (∀ W : World, Rdr W R r'.tail → Calls Tryz.prog 38 #[.pointer (some ⟨R, 0, none⟩), .int .i64 ((bindN (hd r').txt : Int) + 1)] W (Told R W (rd (.form (bindN (hd r').txt + 1)) r'.tail))) := fun W hW => HFo.out (bindN (hd r').txt + 1) r'.tail W (by have := HTl.out; have := HX7.out; omega) (by omega) (by omega) HE.out hW
      have HT : Hid (∀ W : World, Rdr W R r' → Calls Tryz.prog 68 #[.pointer (some ⟨R, 0, none⟩)] W fun e w' => e = .returned (.agg #[.int .i64 (hd r').kind, .int .i64 (hd r').vk, .int .i64 (hd r').vn, .string ⟨(hd r').vs.toArray⟩, .bool (hd r').vb, .int .i64 (hd r').vc, .int .i64 (hd r').row, .int .i64 (hd r').col, .bool (hd r').fr, .bool (hd r').fc, .string ⟨(hd r').txt.toArray⟩, .int .i64 (hd r').pos]) ∧ Rdr w' R r'.tail ∧ Bar R W w') := fun W hW => take_any R _ W hW (ended_ne HE.out)
      have HX9 : Hid (rd (.loop m h' k') r' = (rd (.form (bindN (hd r').txt + 1)) r'.tail).on fun h'' k'' r'' => rd (.loop m (binH (hd r').txt) (.cons h' k' (.cons h'' k'' .nil))) r'') := rd_loop hm h' k' (by omega)
      have hf3 := tok_field3
      clear hnz htx
      cases e2 : rd (.form (bindN (hd r').txt + 1)) r'.tail with
      | bad r2 =>
        rw [e2] at HF2 HX9
        have HF3 : Hid (∀ W : World, Rdr W R r'.tail → Calls Tryz.prog 38 #[.pointer (some ⟨R, 0, none⟩), .int .i64 ((bindN (hd r').txt : Int) + 1)] W fun e w' => e = .panicked [{ v := .iface 82 (.agg #[.int .i64 (hd r2).pos, .int .i64 5]), recovered := false }] ∧ Bar R W w') := HF2
        clear HF2
        clear e2
        generalize bindN (hd r').txt = bn at *
        have hwr : IntKind.i64.wrap ((bn : Int) + 1) = (bn : Int) + 1 := wrap_le (by omega) (by omega)
        go_wp2_with (first | (with_reducible refine wpl_id ?_; refine wpl_load rfl _ rfl _ rfl (by ((repeat' (first | with_reducible (first | exact Hid.out (by assumption) | apply Box.set | exact Box.new _ _ | apply Box.other | apply Box.alloc | apply Box.drew | apply Box.drewN) | omega)); done)) ?_) | (with_reducible refine wpl_id ?_; refine wpl_store rfl _ _ rfl _ rfl rfl (by ((repeat' (first | with_reducible (first | exact Hid.out (by assumption) | apply Box.set | exact Box.new _ _ | apply Box.other | apply Box.alloc | apply Box.drew | apply Box.drewN) | omega)); done)) rfl ?_) | (go_at_call 56; refine (HB.out _).mono ?_; rintro e wz ⟨rfl, hz⟩; subst wz) | (go_at_call 68; refine (HT.out _ ?_).mono ?_; (focus ((repeat' (first | with_reducible (first | exact Hid.out (by assumption) | refine Rdr.set ?_ ?_ _ _ | refine Rdr.row ?_ ?_ _ | refine Rdr.alloc ?_ _ | refine Rdr.drew ?_ | refine Rdr.drewN ?_ _) | omega)); done)); rintro e w2 ⟨rfl, hr2, hb2⟩; have HR2 := hide hr2; have HB2 := hide hb2; have HY1 := hide (HX1.out.bar hb2 (by omega)); have HY6 := hide (HX6.out.bar hb2 (by omega)); clear hr2 hb2))
        refine wp_region_held_drew (S := fun _ => True) (by kernel_rfl) trivial (fun hHeld => ?_)
        (refine takeE (i := 0) (some 25) rfl rfl (by kernel_rfl) (v := ?_) rfl ?_ (by assumption) ?_; rotate_left; (focus (intro w hSw; (try dsimp only at hSw); first | (go_simp; done) | (go_simp; with_reducible rfl))); try simp only [Act.put, pA, pB, pC]); (refine takeE (i := 2) (some 27) rfl rfl (by kernel_rfl) (v := ?_) rfl ?_ (by assumption) ?_; rotate_left; (focus (intro w hSw; (try dsimp only at hSw); first | (go_simp; done) | (go_simp; with_reducible rfl))); try simp only [Act.put, pA, pB, pC]); (refine takeE (i := 3) (some 28) rfl rfl (by kernel_rfl) (v := ?_) rfl ?_ (by assumption) ?_; rotate_left; (focus (intro w hSw; (try dsimp only at hSw); first | (go_simp; done) | (go_simp; with_reducible rfl))); try simp only [Act.put, pA, pB, pC]); (refine takeE (i := 4) (some 29) rfl rfl (by kernel_rfl) (v := ?_) rfl ?_ (by assumption) ?_; rotate_left; (focus (intro w hSw; (try dsimp only at hSw); first | (go_simp; done) | (go_simp; with_reducible rfl))); try simp only [Act.put, pA, pB, pC])
        refine wpAnyH_ready (rs := [1, 5]) (by kernel_rfl) (by simp) ?_
        refine readyP (o := _) rfl rfl (fun K hK => ?_) (readyP (o := _) rfl rfl (fun K hK => ?_) AllReadyH.nil)
        · refine wp_loadN _ rfl _ rfl (by ((repeat' (first | with_reducible (first | exact Hid.out (by assumption) | apply Box.set | exact Box.new _ _ | apply Box.other | apply Box.alloc | apply Box.drew | apply Box.drewN) | omega)); done)) ?_
          refine hK.out _ _ trivial (fun hHeld => ?_)
          clear hK K
          refine wpAnyH_ready (rs := [5]) (by kernel_rfl) (by simp) ?_
          refine readyP (o := _) rfl rfl (fun K hK => ?_) AllReadyH.nil
          go_simp
          (go_at_call 38; refine (HF3.out _ ?_).mono ?_; (focus ((repeat' (first | with_reducible (first | exact Hid.out (by assumption) | refine Rdr.set ?_ ?_ _ _ | refine Rdr.row ?_ ?_ _ | refine Rdr.alloc ?_ _ | refine Rdr.drew ?_ | refine Rdr.drewN ?_ _) | omega)); done)); rintro e w3 ⟨rfl, hb3⟩; have HB3 := hide hb3; clear hb3)
          refine ⟨rfl, ?_⟩
          rw [HX8.out, HX9.out]
          refine ⟨rfl, ?_⟩
          exact HX5.out.trans (HB2.out.drew.trans HB3.out)
        · go_simp
          (go_at_call 38; refine (HF3.out _ ?_).mono ?_; (focus ((repeat' (first | with_reducible (first | exact Hid.out (by assumption) | refine Rdr.set ?_ ?_ _ _ | refine Rdr.row ?_ ?_ _ | refine Rdr.alloc ?_ _ | refine Rdr.drew ?_ | refine Rdr.drewN ?_ _) | omega)); done)); rintro e w3 ⟨rfl, hb3⟩; have HB3 := hide hb3; clear hb3)
          refine ⟨rfl, ?_⟩
          rw [HX8.out, HX9.out]
          refine ⟨rfl, ?_⟩
          exact HX5.out.trans (HB2.out.drew.trans HB3.out)
      | ok h2 k2 r2 =>
        rw [e2] at HF2 HX9
        have HF3 : Hid (∀ W : World, Rdr W R r'.tail → Calls Tryz.prog 38 #[.pointer (some ⟨R, 0, none⟩), .int .i64 ((bindN (hd r').txt : Int) + 1)] W fun e w' => ∃ a n cap, e = .returned (.agg (hdC h2 (.slice a n cap)).toArray) ∧ Kv w' (New W w') (.slice a n cap) k2 ∧ Rdr w' R r2 ∧ Bar R W w' ∧ Ended r2) := HF2
        clear HF2
        have HE2 := hide (rd_len (c := .form _) (by simp [fine]) e2)
        clear e2
        generalize bindN (hd r').txt = bn at *
        have hwr : IntKind.i64.wrap ((bn : Int) + 1) = (bn : Int) + 1 := wrap_le (by omega) (by omega)
        go_wp2_with (first | (with_reducible refine wpl_id ?_; refine wpl_load rfl _ rfl _ rfl (by ((repeat' (first | with_reducible (first | exact Hid.out (by assumption) | apply Box.set | exact Box.new _ _ | apply Box.other | apply Box.alloc | apply Box.drew | apply Box.drewN) | omega)); done)) ?_) | (with_reducible refine wpl_id ?_; refine wpl_store rfl _ _ rfl _ rfl rfl (by ((repeat' (first | with_reducible (first | exact Hid.out (by assumption) | apply Box.set | exact Box.new _ _ | apply Box.other | apply Box.alloc | apply Box.drew | apply Box.drewN) | omega)); done)) rfl ?_) | (go_at_call 56; refine (HB.out _).mono ?_; rintro e wz ⟨rfl, hz⟩; subst wz) | (go_at_call 68; refine (HT.out _ ?_).mono ?_; (focus ((repeat' (first | with_reducible (first | exact Hid.out (by assumption) | refine Rdr.set ?_ ?_ _ _ | refine Rdr.row ?_ ?_ _ | refine Rdr.alloc ?_ _ | refine Rdr.drew ?_ | refine Rdr.drewN ?_ _) | omega)); done)); rintro e w2 ⟨rfl, hr2, hb2⟩; have HR2 := hide hr2; have HB2 := hide hb2; have HY1 := hide (HX1.out.bar hb2 (by omega)); have HY6 := hide (HX6.out.bar hb2 (by omega)); clear hr2 hb2))
        refine wp_region_held_drew (S := fun _ => True) (by kernel_rfl) trivial (fun hHeld => ?_)
        (refine takeE (i := 0) (some 25) rfl rfl (by kernel_rfl) (v := ?_) rfl ?_ (by assumption) ?_; rotate_left; (focus (intro w hSw; (try dsimp only at hSw); first | (go_simp; done) | (go_simp; with_reducible rfl))); try simp only [Act.put, pA, pB, pC]); (refine takeE (i := 2) (some 27) rfl rfl (by kernel_rfl) (v := ?_) rfl ?_ (by assumption) ?_; rotate_left; (focus (intro w hSw; (try dsimp only at hSw); first | (go_simp; done) | (go_simp; with_reducible rfl))); try simp only [Act.put, pA, pB, pC]); (refine takeE (i := 3) (some 28) rfl rfl (by kernel_rfl) (v := ?_) rfl ?_ (by assumption) ?_; rotate_left; (focus (intro w hSw; (try dsimp only at hSw); first | (go_simp; done) | (go_simp; with_reducible rfl))); try simp only [Act.put, pA, pB, pC]); (refine takeE (i := 4) (some 29) rfl rfl (by kernel_rfl) (v := ?_) rfl ?_ (by assumption) ?_; rotate_left; (focus (intro w hSw; (try dsimp only at hSw); first | (go_simp; done) | (go_simp; with_reducible rfl))); try simp only [Act.put, pA, pB, pC])
        refine wpAnyH_ready (rs := [1, 5]) (by kernel_rfl) (by simp) ?_
        refine readyP (o := _) rfl rfl (fun K hK => ?_) (readyP (o := _) rfl rfl (fun K hK => ?_) AllReadyH.nil)
        · refine wp_loadN _ rfl _ rfl (by ((repeat' (first | with_reducible (first | exact Hid.out (by assumption) | apply Box.set | exact Box.new _ _ | apply Box.other | apply Box.alloc | apply Box.drew | apply Box.drewN) | omega)); done)) ?_
          refine hK.out _ _ trivial (fun hHeld => ?_)
          clear hK K
          refine wpAnyH_ready (rs := [5]) (by kernel_rfl) (by simp) ?_
          refine readyP (o := _) rfl rfl (fun K hK => ?_) AllReadyH.nil
          go_simp
          (go_at_call 38; refine (HF3.out _ ?_).mono ?_; (focus ((repeat' (first | with_reducible (first | exact Hid.out (by assumption) | refine Rdr.set ?_ ?_ _ _ | refine Rdr.row ?_ ?_ _ | refine Rdr.alloc ?_ _ | refine Rdr.drew ?_ | refine Rdr.drewN ?_ _) | omega)); done)); rintro e w3 ⟨a3, n3, cap3, rfl, hk3, hr3, hb3, he3⟩; have HK3 := hide hk3; have HR3 := hide hr3; have HB3 := hide hb3; have HE3 := hide he3; have HZ1 := hide (HY1.out.drew.bar hb3 (by omega)); have HZ6 := hide (HY6.out.drew.bar hb3 (by omega)); clear hk3 hr3 hb3 he3)
          refine hK.out _ _ trivial (fun hHeld => ?_)
          clear hK K
          refine wpAnyH_ready (rs := [6]) (by kernel_rfl) (by simp) ?_
          refine readyP (o := _) rfl rfl (fun K hK => ?_) AllReadyH.nil
          refine wp_buildS _ _ _ rfl (qs := #[(0, .agg (hdC h' (.slice a' n' cap')).toArray), (1, .agg (hdC h2 (.slice a3 n3 cap3)).toArray)]) rfl (build2 h' h2 (.slice a' n' cap') (.slice a3 n3 cap3) _) ?_
          refine hK.out _ _ trivial (fun hHeld => ?_)
          clear hK K
          refine wpAnyH_ready (rs := [7]) (by kernel_rfl) (by simp) ?_
          refine readyP (o := _) rfl rfl (fun K hK => ?_) AllReadyH.nil
          refine wp_buildN _ _ rfl (qs := #[(0, .int .i64 5), (4, .string ⟨(hd r').txt.toArray⟩), (5, .slice (some ⟨w3.heap.size, 0, none⟩) 2 2)]) rfl (run_bin (hd r').txt (some ⟨w3.heap.size, 0, none⟩) 2 2 _) ?_
          refine hK.out _ _ trivial (fun hHeld => ?_)
          clear hK K
          refine wpAnyH_ready (rs := [8]) (by kernel_rfl) (by simp) ?_
          refine readyP (o := _) rfl rfl (fun K hK => ?_) AllReadyH.nil
          refine wp_storeN _ _ rfl _ rfl rfl (HZ1.out.alloc _) rfl ?_
          refine hK.out _ _ trivial (fun hHeld => ?_)
          clear hK K
          refine wpAnyH_done (by kernel_rfl) ?_ _
          obtain ⟨q1, q2, q3, q4, q5⟩ := step_ok (h' := h') (h2 := h2) (v' := .slice a' n' cap') (v2 := .slice a3 n3 cap3) hRs (Nat.le_refl _) (Nat.le_of_lt z1) (by omega) HX1.out HX6.out HX2.out HX5.out HB2.out HB3.out HK3.out HR3.out (hdC (binH (hd r').txt) (.slice (some ⟨w3.heap.size, 0, none⟩) 2 2))
          have hlt := q3.len
          go_roundw
          case rel => exact ⟨_, _, _, _, _, _, _, _, _, _, _, _, _, _, _, _, _, _, _, _, _, _, _, _, _, ⟨binH (hd r').txt, .cons h' k' (.cons h2 k2 .nil), r2, some ⟨w3.heap.size, 0, none⟩, 2, 2, q1, q2, q3, HE3.out, q4, q5, by have := HE2.out; have := HTl.out; have := HX7.out; simp only [takes] at *; omega, HX8.out.trans HX9.out⟩, rfl⟩
          case measure => rw [hlt, HLen.out]; have := HE2.out; have := HTl.out; simp only [takes] at *; omega
        · go_simp
          (go_at_call 38; refine (HF3.out _ ?_).mono ?_; (focus ((repeat' (first | with_reducible (first | exact Hid.out (by assumption) | refine Rdr.set ?_ ?_ _ _ | refine Rdr.row ?_ ?_ _ | refine Rdr.alloc ?_ _ | refine Rdr.drew ?_ | refine Rdr.drewN ?_ _) | omega)); done)); rintro e w3 ⟨a3, n3, cap3, rfl, hk3, hr3, hb3, he3⟩; have HK3 := hide hk3; have HR3 := hide hr3; have HB3 := hide hb3; have HE3 := hide he3; have HZ1 := hide (HY1.out.drew.bar hb3 (by omega)); have HZ6 := hide (HY6.out.drew.bar hb3 (by omega)); clear hk3 hr3 hb3 he3)
          refine hK.out _ _ trivial (fun hHeld => ?_)
          clear hK K
          refine wpAnyH_ready (rs := [1]) (by kernel_rfl) (by simp) ?_
          refine readyP (o := _) rfl rfl (fun K hK => ?_) AllReadyH.nil
          refine wp_loadN _ rfl _ rfl (by ((repeat' (first | with_reducible (first | exact Hid.out (by assumption) | apply Box.set | exact Box.new _ _ | apply Box.other | apply Box.alloc | apply Box.drew | apply Box.drewN) | omega)); done)) ?_
          refine hK.out _ _ trivial (fun hHeld => ?_)
          clear hK K
          refine wpAnyH_ready (rs := [6]) (by kernel_rfl) (by simp) ?_
          refine readyP (o := _) rfl rfl (fun K hK => ?_) AllReadyH.nil
          refine wp_buildS _ _ _ rfl (qs := #[(0, .agg (hdC h' (.slice a' n' cap')).toArray), (1, .agg (hdC h2 (.slice a3 n3 cap3)).toArray)]) rfl (build2 h' h2 (.slice a' n' cap') (.slice a3 n3 cap3) _) ?_
          refine hK.out _ _ trivial (fun hHeld => ?_)
          clear hK K
          refine wpAnyH_ready (rs := [7]) (by kernel_rfl) (by simp) ?_
          refine readyP (o := _) rfl rfl (fun K hK => ?_) AllReadyH.nil
          refine wp_buildN _ _ rfl (qs := #[(0, .int .i64 5), (4, .string ⟨(hd r').txt.toArray⟩), (5, .slice (some ⟨w3.heap.size, 0, none⟩) 2 2)]) rfl (run_bin (hd r').txt (some ⟨w3.heap.size, 0, none⟩) 2 2 _) ?_
          refine hK.out _ _ trivial (fun hHeld => ?_)
          clear hK K
          refine wpAnyH_ready (rs := [8]) (by kernel_rfl) (by simp) ?_
          refine readyP (o := _) rfl rfl (fun K hK => ?_) AllReadyH.nil
          refine wp_storeN _ _ rfl _ rfl rfl (HZ1.out.alloc _) rfl ?_
          refine hK.out _ _ trivial (fun hHeld => ?_)
          clear hK K
          refine wpAnyH_done (by kernel_rfl) ?_ _
          obtain ⟨q1, q2, q3, q4, q5⟩ := step_ok (h' := h') (h2 := h2) (v' := .slice a' n' cap') (v2 := .slice a3 n3 cap3) hRs (Nat.le_refl _) (Nat.le_of_lt z1) (by omega) HX1.out HX6.out HX2.out HX5.out HB2.out HB3.out HK3.out HR3.out (hdC (binH (hd r').txt) (.slice (some ⟨w3.heap.size, 0, none⟩) 2 2))
          have hlt := q3.len
          go_roundw
          case rel => exact ⟨_, _, _, _, _, _, _, _, _, _, _, _, _, _, _, _, _, _, _, _, _, _, _, _, _, ⟨binH (hd r').txt, .cons h' k' (.cons h2 k2 .nil), r2, some ⟨w3.heap.size, 0, none⟩, 2, 2, q1, q2, q3, HE3.out, q4, q5, by have := HE2.out; have := HTl.out; have := HX7.out; simp only [takes] at *; omega, HX8.out.trans HX9.out⟩, rfl⟩
          case measure => rw [hlt, HLen.out]; have := HE2.out; have := HTl.out; simp only [takes] at *; omega
def cellsN (L : List (Hd × Value)) : List Value := L.flatMap fun x => hdC x.1 x.2
def Ent (w : World) (D : Nat → Prop) : List (Hd × Value) → Fo → Prop
 | [], .nil => True
 | x :: L, .cons h k r => x.1 = h ∧ Kv w D x.2 k ∧ Ent w D L r
 | [], .cons _ _ _ => False
 | _ :: _, .nil => False
theorem ent_to {w w' : World} {D D' : Nat → Prop} (hs : ∀ b, D b → D' b ∧ w'.heap[b]? = w.heap[b]?) : ∀ (L : List (Hd × Value)) (F : Fo), Ent w D L F → Ent w' D' L F
 | [], .nil, _ => trivial
 | _ :: L, .cons _ _ r, h => ⟨h.1, kv_to h.2.1 hs, ent_to hs L r h.2.2⟩
 | [], .cons _ _ _, h => h
 | _ :: _, .nil, h => h
theorem ent_snoc {w : World} {D : Nat → Prop} {h : Hd} {v : Value} {k : Fo} (hk : Kv w D v k) : ∀ (L : List (Hd × Value)) (F : Fo), Ent w D L F → Ent w D (L ++ [(h, v)]) (F.snoc h k)
 | [], .nil, _ => ⟨rfl, hk, trivial⟩
 | _ :: L, .cons _ _ r, e => ⟨e.1, e.2.1, ent_snoc hk L r e.2.2⟩
 | [], .cons _ _ _, e => e.elim
 | _ :: _, .nil, e => e.elim
theorem ent_len {w : World} {D : Nat → Prop} : ∀ (L : List (Hd × Value)) (F : Fo), Ent w D L F → L.length = F.len
 | [], .nil, _ => rfl
 | _ :: L, .cons _ _ r, e => by rw [List.length_cons, Fo.len, ent_len L r e.2.2]
 | [], .cons _ _ _, e => e.elim
 | _ :: _, .nil, e => e.elim
theorem ent_row {w : World} {D : Nat → Prop} {g : Nat} (hD : D g) : ∀ (L : List (Hd × Value)) (F : Fo) (o : Nat), (∀ j u, (cellsN L)[j]? = some u → w.cell? ⟨g, o + j, none⟩ = some u) → Ent w D L F → Row w D F g o
  | [], .nil, _, _, _ => trivial
  | x :: L, .cons h k r, o, hc, e => by
    obtain ⟨e1, e2, e3⟩ := e
    subst e1
    refine row_cons.2 ⟨hD, ⟨x.2, fun j hj => ?_, e2⟩, ent_row hD L r (o + 16) (fun j u hu => ?_) e3⟩
    · have : (hdC x.1 x.2)[j]? = some ((hdC x.1 x.2)[j]'(by rw [hdC_len]; exact hj)) := List.getElem?_eq_getElem _
      rw [this]
      refine hc j _ ?_
      unfold cellsN
      rw [List.flatMap_cons, List.getElem?_append_left (by rw [hdC_len]; exact hj)]
      exact this
    · have := hc (16 + j) u (by
        unfold cellsN at *
        rw [List.flatMap_cons, List.getElem?_append_right (by rw [hdC_len]; omega), hdC_len, show 16 + j - 16 = j by omega]
        exact hu)
      rw [show o + 16 + j = o + (16 + j) by omega]
      exact this
  | [], .cons _ _ _, _, _, e => e.elim
  | _ :: _, .nil, _, _, e => e.elim
theorem infoNode3 : (Tryz.prog.info? 34).map (fun i => (i.zero, i.size, i.bytes)) = some (some (.agg (hdC zh (.slice none 0 0)).toArray), 16, 144) := by kernel_rfl
def Off (w : World) (v : Value) (wr : World) (b : Nat) : Prop := w.heap.size ≤ b ∧ v.ownBlock ≠ some b ∧ b < wr.heap.size
theorem ownBar {R n₀ n : Nat} {w w' : World} {v : Value} {xs : List Value} (h : w.ownsRow n₀ 34 16 v n xs) (k : Bar R w w') (hR : R < n₀) : w'.ownsRow n₀ 34 16 v n xs := by
 refine h.kept (row := some R) ⟨k.os, k.tape, k.output, k.size, fun b hb hn => k.block b hb (fun e => hn (by rw [e]))⟩ (.inr fun e => ?_)
 have := (h.lt R e).1
 omega
def ToldK (R : Nat) (w : World) (r : Rs) (e : Ending) (w' : World) : Prop :=
 match r with
 | .ok _ k l => ∃ a n cap, e = .returned (.slice a n cap) ∧ Kv w' (New w w') (.slice a n cap) k ∧ Rdr w' R l ∧ Bar R w w' ∧ Ended l
 | .bad l => e = .panicked [{ v := .iface 82 (.agg #[.int .i64 (hd l).pos, .int .i64 5]), recovered := false }] ∧ Bar R w w'
structure KidsAt (R : Nat) (w : World) (v : Value) (L : List (Hd × Value)) (F : Fo) (r : List Tok) (wr : World) : Prop where
 own : wr.ownsRow w.heap.size 34 16 v L.length (cellsN L)
 ent : Ent wr (Off w v wr) L F
 rdr : Rdr wr R r
 ended : Ended r
 bar : Bar R w wr
 some1 : 1 ≤ L.length
theorem own_slice {wr : World} {n₀ n : Nat} {v : Value} {xs : List Value} (h : wr.ownsRow n₀ 34 16 v n xs) (hn : 1 ≤ n) : ∃ g cap, v = .slice (some ⟨g, 0, none⟩) n cap ∧ n₀ ≤ g ∧ g < wr.heap.size ∧ n ≤ cap ∧ cap ≤ maxLen ∧ ∀ j u, xs[j]? = some u → wr.cell? ⟨g, j, none⟩ = some u := by
  have h' := h
  rcases h.2 with ⟨_, h0⟩ | ⟨g, cap, cur, rfl, hb, hg, hnc, hcm, hcs, htake⟩
  · omega
  · refine ⟨g, cap, rfl, hb, (Array.getElem?_eq_some_iff.1 hg).1, hnc, hcm, fun j u hu => ?_⟩
    have hj : j < xs.length := (List.getElem?_eq_some_iff.1 hu).1
    rw [h'.cellAt j (by rw [h.1] at hj; exact hj)]
    exact hu
theorem KidsAt.kv {R : Nat} {w wr : World} {v : Value} {L : List (Hd × Value)} {F : Fo} {r : List Tok} (h : KidsAt R w v L F r wr) : ∃ a n cap, v = .slice a n cap ∧ Kv wr (New w wr) (.slice a n cap) F := by
 obtain ⟨g, cap, rfl, hb, hg, hnc, hcm, hc⟩ := own_slice h.own h.some1
 refine ⟨_, _, _, rfl, _, _, _, rfl, ent_len _ _ h.ent, .inr ⟨g, 0, rfl, hnc, hcm, ?_⟩⟩
 exact ent_row ⟨hb, hg⟩ L F 0 (fun j u hu => by rw [Nat.zero_add]; exact hc j u hu) (ent_to (fun b hb => ⟨⟨hb.1, hb.2.2⟩, rfl⟩) L F h.ent)
theorem kids_first {R : Nat} {w w1 : World} {h : Hd} {a : Option Addr} {n cap : Nat} {k : Fo} {r : List Tok} (hk : Kv w1 (New w w1) (.slice a n cap) k) (hr : Rdr w1 R r) (hb : Bar R w w1) (he : Ended r) :
    KidsAt R w (.slice (some ⟨w1.heap.size, 0, none⟩) 1 1) [(h, .slice a n cap)] (.cons h k .nil) r (w1.alloc (.cells (hdC h (.slice a n cap)).toArray 34)) := by
  have hs := hb.size
  refine ⟨?_, ⟨rfl, kv_to hk (fun b hb => ⟨?_, Below.heap_alloc _ _ _ hb.2⟩), trivial⟩, hr.alloc _, he, hb.alloc _, by simp⟩
  · have := World.ownsRow_lit (base := w.heap.size) (e := 34) (size := 16) w1 (hdC h (.slice a n cap)).toArray 1 hs (by unfold maxLen; omega) rfl
    simpa [cellsN] using this
  · have h1 := hb.1
    have h2 := hb.2
    unfold Off
    simp [Value.ownBlock]
    omega
theorem kids_more {R : Nat} {w wr w1 w2 w3 : World} {v v' : Value} {L : List (Hd × Value)} {F : Fo} {r r2 : List Tok} {h : Hd} {a : Option Addr} {n cap : Nat} {k : Fo} (hR : R < w.heap.size) (hK : KidsAt R w v L F r wr) (hb1 : Bar R wr w1) (hb2 : Bar R w1 w2) (hk : Kv w2 (New w1 w2) (.slice a n cap) k) (hr : Rdr w2 R r2) (he : Ended r2)
    (hown : w3.ownsRow w.heap.size 34 16 v' (L.length + 1) (cellsN L ++ hdC h (.slice a n cap))) (hg : (w2.alloc (.cells (hdC h (.slice a n cap)).toArray 34)).grownBy w3 v.ownBlock) (hw : v'.ownBlock = v.ownBlock ∨ v'.ownBlock = some (w2.heap.size + 1)) :
    KidsAt R w v' (L ++ [(h, .slice a n cap)]) (F.snoc h k) r2 w3 := by
  obtain ⟨g, capv, rfl, hgb, hgl, _, _, _⟩ := own_slice hK.own hK.some1
  have s0 := hK.bar.size
  have s1 := hb1.size
  have s2 := hb2.size
  have s3 : w2.heap.size + 1 ≤ w3.heap.size := by have := hg.size; simpa using this
  have hb3 : ∀ b, b < w2.heap.size → b ≠ g → w3.heap[b]? = w2.heap[b]? := fun b hb hn => by
    rw [hg.block b (by simp; omega) (by simp [Value.ownBlock]; omega), Below.heap_alloc _ _ _ hb]
  have hvo : ∀ b, b < w2.heap.size → b ≠ g → v'.ownBlock ≠ some b := fun b hb hn e => by
    rcases hw with hw | hw
    · rw [hw] at e; simp [Value.ownBlock] at e; omega
    · rw [hw] at e; simp at e; omega
  have hRg : R < g := by omega
  refine ⟨?_, ent_snoc (kv_to hk fun b hb => ?_) L F (ent_to (fun b hb => ?_) L F hK.ent), ?_, he, ?_, by simp⟩
  · have : cellsN (L ++ [(h, .slice a n cap)]) = cellsN L ++ hdC h (.slice a n cap) := by simp [cellsN]
    rw [this, List.length_append]
    exact hown
  · have h1 := hb.1
    have h2 := hb.2
    exact ⟨⟨by omega, hvo b h2 (by omega), by omega⟩, hb3 b h2 (by omega)⟩
  · obtain ⟨q1, q2, q3⟩ := hb
    have hn : b ≠ g := fun e => q2 (by rw [e]; rfl)
    refine ⟨⟨q1, hvo b (by omega) hn, by omega⟩, ?_⟩
    rw [hb3 b (by omega) hn, hb2.block b (by omega) (by omega), hb1.block b (by omega) (by omega)]
  · obtain ⟨hR', hf, hne, g0, o, cap0, hc, hc1, hc2, hg0, ht⟩ := hr
    have hbl : ∀ b, b < g → w3.heap[b]? = w2.heap[b]? := fun b hb => hb3 b (by omega) (by omega)
    exact ⟨by omega, by rw [World.frozen?_of_block (w := w2) (a := ⟨R, 0, none⟩) (hbl R hRg)]; exact hf, hne, g0, o, cap0, by rw [World.cell?_of_block (w := w2) (a := ⟨R, 0, none⟩) (hbl R hRg)]; exact hc, hc1, hc2, hg0, fun i t hi j hj => by
      rw [World.cell?_of_block (w := w2) (a := ⟨g0, o + 12 * i + j, none⟩) (hbl g0 (by omega))]; exact ht i t hi j hj⟩
  · refine ⟨hg.os.trans (hb2.os.trans (hb1.os.trans hK.bar.os)), hg.tape.trans (hb2.tape.trans (hb1.tape.trans hK.bar.tape)), hg.output.trans (hb2.output.trans (hb1.output.trans hK.bar.output)), by omega, fun b hb hn => ?_⟩
    rw [hb3 b (by omega) (by omega), hb2.block b (by omega) hn, hb1.block b (by omega) hn]
    exact hK.bar.block b hb hn
theorem kids_any (R : Nat) (l : List Tok) (w : World) (hr : Rdr w R l) (he : Ended l) (hn : l.length ≤ 2000)
    (HF : ∀ (l' : List Tok) (W : World), l'.length ≤ l.length → Ended l' → Rdr W R l' → Calls Tryz.prog 38 #[.pointer (some ⟨R, 0, none⟩), .int .i64 1] W (Told R W (rd (.form 1) l'))) :
    Calls Tryz.prog 132 #[.pointer (some ⟨R, 0, none⟩)] w (ToldK R w (rd (.kids .nil) l)) := by
  obtain ⟨i0, hi, hz0, hz1, hz2⟩ := info_parts infoNode3
  have HR := hide hr
  have HFo := hide HF
  have hRs := hr.1
  have hk0 := rd_kids .nil l
  clear hr HF
  cases e1 : rd (.form 1) l with
  | bad r =>
    rw [e1] at hk0
    rw [hk0]
    have HF1 : Hid (∀ W : World, Rdr W R l → Calls Tryz.prog 38 #[.pointer (some ⟨R, 0, none⟩), .int .i64 1] W fun e w' => e = .panicked [{ v := .iface 82 (.agg #[.int .i64 (hd r).pos, .int .i64 5]), recovered := false }] ∧ Bar R W w') := fun W hW => by
      have := HFo.out l W (Nat.le_refl _) he hW
      rw [e1] at this
      exact this
    clear e1 he hk0
    go_enter Tryz.func132, Tryz.ntmps132
    go_wp2_with (first | (go_at_call 38; refine (HF1.out _ ?_).mono ?_; (focus ((repeat' (first | with_reducible (first | exact Hid.out (by assumption) | refine Rdr.set ?_ ?_ _ _ | refine Rdr.row ?_ ?_ _ | refine Rdr.alloc ?_ _ | refine Rdr.drew ?_ | refine Rdr.drewN ?_ _) | omega)); done)); rintro e w1 ⟨rfl, hb1⟩; have HB1 := hide hb1; clear hb1))
    exact ⟨rfl, rfl, HB1.out⟩
  | ok h k r =>
    rw [e1] at hk0
    have HF1 : Hid (∀ W : World, Rdr W R l → Calls Tryz.prog 38 #[.pointer (some ⟨R, 0, none⟩), .int .i64 1] W fun e w' => ∃ a n cap, e = .returned (.agg (hdC h (.slice a n cap)).toArray) ∧ Kv w' (New W w') (.slice a n cap) k ∧ Rdr w' R r ∧ Bar R W w' ∧ Ended r) := fun W hW => by
      have := HFo.out l W (Nat.le_refl _) he hW
      rw [e1] at this
      exact this
    have hrl := rd_len (c := .form 1) (by simp [fine]) e1
    simp only [takes] at hrl
    have HK0 : Hid (rd (.kids .nil) l = if atB r [44] then rd (.kids (.cons h k .nil)) r.tail else .ok zh (.cons h k .nil) r) := hk0
    have HRL := hide hrl
    clear e1 he hk0 hrl
    go_enter Tryz.func132, Tryz.ntmps132
    go_wp2_with (first | (go_at_call 38; refine (HF1.out _ ?_).mono ?_; (focus ((repeat' (first | with_reducible (first | exact Hid.out (by assumption) | refine Rdr.set ?_ ?_ _ _ | refine Rdr.row ?_ ?_ _ | refine Rdr.alloc ?_ _ | refine Rdr.drew ?_ | refine Rdr.drewN ?_ _) | omega)); done)); rintro e w1 ⟨a1, n1, cap1, rfl, hk1, hr1, hb1, he1⟩; have HK1 := hide hk1; have HR1 := hide hr1; have HB1 := hide hb1; have HE1 := hide he1; clear hk1 hr1 hb1 he1) | (with_reducible refine wpl_id ?_; refine wpl_buildS rfl _ _ _ rfl (qs := #[(0, .agg (hdC h (.slice a1 n1 cap1)).toArray)]) rfl (build1 h (.slice a1 n1 cap1) _) ?_))
    have HI := hide (kids_first (h := h) HK1.out HR1.out HB1.out HE1.out)
    go_loopw [3] (fun u wr => ∃ (v : Value) (L : List (Hd × Value)) (F : Fo) (r' : List Tok), u = v ∧ KidsAt R w v L F r' wr ∧ r'.length + L.length ≤ l.length ∧ rd (.kids .nil) l = if atB r' [44] then rd (.kids F) r'.tail else .ok zh F r') (fun _ wr => lenOf wr R)
    case atStart => exact ⟨_, _, _, _, rfl, HI.out, by have := HRL.out; simp; omega, HK0.out⟩
    case round =>
      obtain ⟨v, L, F, r', rfl, hK, hl, hq⟩ := hrel
      have HX3 := hide hK.rdr
      have HKA := hide hK
      have HLen := hide hK.rdr.len
      have HQ := hide hq
      have hown := hK.own
      have hsz := hK.bar.size
      have hEnd := hide hK.ended
      clear hK hq
      by_cases hat : atB r' [44] = true
      · have hE := ended_at hEnd.out hat
        have hTl := tail_lt hat
        have HTL := hide hTl
        have HEt := hide hE
        have HA : Hid (∀ W : World, Rdr W R (r') → Calls Tryz.prog 102 #[.pointer (some ⟨R, 0, none⟩), .string ⟨#[44]⟩] W fun e w' => e = .returned (.bool true) ∧ w' = W) := fun W hW => by
          have := at_any R _ ⟨#[44]⟩ W hW
          rw [show atB (r') (⟨#[44]⟩ : ByteArray).data.toList = true from hat] at this
          exact this
        have HT : Hid (∀ W : World, Rdr W R r' → Calls Tryz.prog 68 #[.pointer (some ⟨R, 0, none⟩)] W fun e w' => e = .returned (.agg #[.int .i64 (hd r').kind, .int .i64 (hd r').vk, .int .i64 (hd r').vn, .string ⟨(hd r').vs.toArray⟩, .bool (hd r').vb, .int .i64 (hd r').vc, .int .i64 (hd r').row, .int .i64 (hd r').col, .bool (hd r').fr, .bool (hd r').fc, .string ⟨(hd r').txt.toArray⟩, .int .i64 (hd r').pos]) ∧ Rdr w' R r'.tail ∧ Bar R W w') := fun W hW => take_any R _ W hW (ended_ne HEt.out)
        have hk2 := rd_kids F r'.tail
        have HQ2 : Hid (rd (.kids .nil) l = rd (.kids F) r'.tail) := by have := HQ.out; rw [if_pos hat] at this; exact this
        clear HQ hat hE hTl
        cases e2 : rd (.form 1) r'.tail with
        | bad r2 =>
          rw [e2] at hk2
          have HF2 : Hid (∀ W : World, Rdr W R r'.tail → Calls Tryz.prog 38 #[.pointer (some ⟨R, 0, none⟩), .int .i64 1] W fun e w' => e = .panicked [{ v := .iface 82 (.agg #[.int .i64 (hd r2).pos, .int .i64 5]), recovered := false }] ∧ Bar R W w') := fun W hW => by
            have := HFo.out r'.tail W (by have := HTL.out; omega) HEt.out hW
            rw [e2] at this
            exact this
          have HQ3 := hide (HQ2.out.trans hk2)
          clear e2 hk2
          go_wp2_with (first | (go_at_call 102; refine (HA.out _ ?_).mono ?_; (focus ((repeat' (first | with_reducible (first | exact Hid.out (by assumption) | refine Rdr.set ?_ ?_ _ _ | refine Rdr.row ?_ ?_ _ | refine Rdr.alloc ?_ _ | refine Rdr.drew ?_ | refine Rdr.drewN ?_ _) | omega)); done)); rintro e wz ⟨rfl, hz⟩; subst wz) | (go_at_call 68; refine (HT.out _ ?_).mono ?_; (focus ((repeat' (first | with_reducible (first | exact Hid.out (by assumption) | refine Rdr.set ?_ ?_ _ _ | refine Rdr.row ?_ ?_ _ | refine Rdr.alloc ?_ _ | refine Rdr.drew ?_ | refine Rdr.drewN ?_ _) | omega)); done)); rintro e w2 ⟨rfl, hr2, hb2⟩; have HR2 := hide hr2; have HB2 := hide hb2; clear hr2 hb2) | (go_at_call 38; refine (HF2.out _ ?_).mono ?_; (focus ((repeat' (first | with_reducible (first | exact Hid.out (by assumption) | refine Rdr.set ?_ ?_ _ _ | refine Rdr.row ?_ ?_ _ | refine Rdr.alloc ?_ _ | refine Rdr.drew ?_ | refine Rdr.drewN ?_ _) | omega)); done)); rintro e w3 ⟨rfl, hb3⟩; have HB3 := hide hb3; clear hb3))
          refine ⟨rfl, ?_⟩
          rw [HQ3.out]
          exact ⟨rfl, HKA.out.bar.trans (HB2.out.trans HB3.out)⟩
        | ok h2 k2 r2 =>
          rw [e2] at hk2
          have HF2 : Hid (∀ W : World, Rdr W R r'.tail → Calls Tryz.prog 38 #[.pointer (some ⟨R, 0, none⟩), .int .i64 1] W fun e w' => ∃ a n cap, e = .returned (.agg (hdC h2 (.slice a n cap)).toArray) ∧ Kv w' (New W w') (.slice a n cap) k2 ∧ Rdr w' R r2 ∧ Bar R W w' ∧ Ended r2) := fun W hW => by
            have := HFo.out r'.tail W (by have := HTL.out; omega) HEt.out hW
            rw [e2] at this
            exact this
          have HQ3 : Hid (rd (.kids .nil) l = if atB r2 [44] then rd (.kids (F.snoc h2 k2)) r2.tail else .ok zh (F.snoc h2 k2) r2) := HQ2.out.trans hk2
          have hrl2 := rd_len (c := .form 1) (by simp [fine]) e2
          simp only [takes] at hrl2
          have HRL2 := hide hrl2
          clear e2 hk2 hrl2 HQ2
          go_wp2_with (first | (go_at_call 102; refine (HA.out _ ?_).mono ?_; (focus ((repeat' (first | with_reducible (first | exact Hid.out (by assumption) | refine Rdr.set ?_ ?_ _ _ | refine Rdr.row ?_ ?_ _ | refine Rdr.alloc ?_ _ | refine Rdr.drew ?_ | refine Rdr.drewN ?_ _) | omega)); done)); rintro e wz ⟨rfl, hz⟩; subst wz) | (go_at_call 68; refine (HT.out _ ?_).mono ?_; (focus ((repeat' (first | with_reducible (first | exact Hid.out (by assumption) | refine Rdr.set ?_ ?_ _ _ | refine Rdr.row ?_ ?_ _ | refine Rdr.alloc ?_ _ | refine Rdr.drew ?_ | refine Rdr.drewN ?_ _) | omega)); done)); rintro e w2 ⟨rfl, hr2, hb2⟩; have HR2 := hide hr2; have HB2 := hide hb2; clear hr2 hb2) | (go_at_call 38; refine (HF2.out _ ?_).mono ?_; (focus ((repeat' (first | with_reducible (first | exact Hid.out (by assumption) | refine Rdr.set ?_ ?_ _ _ | refine Rdr.row ?_ ?_ _ | refine Rdr.alloc ?_ _ | refine Rdr.drew ?_ | refine Rdr.drewN ?_ _) | omega)); done)); rintro e w3 ⟨a3, n3, cap3, rfl, hk3, hr3, hb3, he3⟩; have HK3 := hide hk3; have HR3 := hide hr3; have HB3 := hide hb3; have HE3 := hide he3; have HO3 := hide ((ownBar (ownBar hown HB2.out hRs) hb3 hRs).alloc (.cells (hdC h2 (.slice a3 n3 cap3)).toArray 34)); clear hk3 hr3 hb3 he3) | (with_reducible refine wpl_id ?_; refine wpl_buildS rfl _ _ _ rfl (qs := #[(0, .agg (hdC h2 (.slice a3 n3 cap3)).toArray)]) rfl (build1 h2 (.slice a3 n3 cap3) _) ?_) | (at_builtin; refine wpList_append_own_at _ rfl _ _ 32 rfl w.heap.size 34 i0 (.agg (hdC zh (.slice none 0 0)).toArray) 16 144 Tryz.underlying32 hi hz0 hz1 hz2 rfl (by decide) _ _ _ rfl HO3.out ⟨w3.heap.size, 0, none⟩ 1 1 (hdC h2 (.slice a3 n3 cap3)) rfl rfl ?c1 ?c2 ?c3 ?c4 ?c5 ?_))
          case c1 =>
            intro j u hu
            have := cells_new w3 (hdC h2 (.slice a3 n3 cap3)).toArray 34 j u (by simpa using hu)
            exact this
          case c2 =>
            have := hdC_one h2 (v := .slice a3 n3 cap3) rfl
            rw [Array.all_eq_true_iff_forall_mem] at this
            exact fun u hu => this u (by simpa using hu)
          case c3 => unfold maxLen; omega
          case c4 => omega
          case c5 => have := HB2.out.size; have := HB3.out.size; simp; omega
          intro v' w4 hown4 hgr4 _ hwh4
          have HN := hide (kids_more (h := h2) hRs HKA.out HB2.out HB3.out HK3.out HR3.out HE3.out hown4 hgr4 hwh4)
          clear hown4 hgr4 hwh4
          have hlt := HN.out.rdr.len
          have HLT := hide hlt
          clear hlt
          go_wp2
          go_roundw
          case rel => exact ⟨v', _, _, r2, rfl, HN.out, by have := HRL2.out; have := HTL.out; simp; omega, HQ3.out⟩
          case measure => rw [HLT.out, HLen.out]; have := HRL2.out; have := HTL.out; omega
      · have hat' : atB r' [44] = false := by simpa using hat
        have HA : Hid (∀ W : World, Rdr W R (r') → Calls Tryz.prog 102 #[.pointer (some ⟨R, 0, none⟩), .string ⟨#[44]⟩] W fun e w' => e = .returned (.bool false) ∧ w' = W) := fun W hW => by
          have := at_any R _ ⟨#[44]⟩ W hW
          rw [show atB (r') (⟨#[44]⟩ : ByteArray).data.toList = false from hat'] at this
          exact this
        have HQ2 : Hid (rd (.kids .nil) l = .ok zh F r') := by have := HQ.out; rw [if_neg hat] at this; exact this
        clear HQ hat hat'
        obtain ⟨a9, n9, cap9, hv9, hkv⟩ := HKA.out.kv
        have HKV := hide hkv
        subst hv9
        go_wp2_with (first | (go_at_call 102; refine (HA.out _ ?_).mono ?_; (focus ((repeat' (first | with_reducible (first | exact Hid.out (by assumption) | refine Rdr.set ?_ ?_ _ _ | refine Rdr.row ?_ ?_ _ | refine Rdr.alloc ?_ _ | refine Rdr.drew ?_ | refine Rdr.drewN ?_ _) | omega)); done)); rintro e wz ⟨rfl, hz⟩; subst wz))
        go_ret
        rw [HQ2.out]
        exact ⟨a9, n9, cap9, rfl, HKV.out, HX3.out, HKA.out.bar, hEnd.out⟩
end Go.Proofs.YtiaoaifoecmemaaGreatDoor
