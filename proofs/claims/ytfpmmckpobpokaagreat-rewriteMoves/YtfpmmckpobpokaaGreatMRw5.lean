/-
  The contracts of rewrite.Move and rewrite.Shift.
-/
import Derived.Test.YtfpmmckpobpokaaGreatMRw4
set_option maxRecDepth 100000
set_option maxHeartbeats 4000000
namespace Go.Proofs.YtfpmmckpobpokaaGreat
open Go.RowKit
theorem moving_any (k a n : Int) (w : World) : Calls Tryz.prog 33 #[.agg #[.int .i64 k, .int .i64 a, .int .i64 n]] w fun e w' => ∃ be, e = .returned (.agg #[.func (.func 62) #[] #[.pointer (some ⟨be, 0, none⟩)], .func (.func 63) #[] #[.pointer (some ⟨be, 0, none⟩)]]) ∧ Pla.At3 w' be k a n ∧ Below w.heap.size w w' := by
 have HA := hide ((Pla.At3.new w k a n 36).alloc (.cells #[.func (.func 62) #[] #[.pointer (some ⟨w.heap.size, 0, none⟩)], .func (.func 63) #[] #[.pointer (some ⟨w.heap.size, 0, none⟩)]] 78))
 go_enter Tryz.func33, Tryz.ntmps33
 go_wp2
 refine bodyPost_ret (v := .agg #[.func (.func 62) #[] #[.pointer (some ⟨w.heap.size, 0, none⟩)], .func (.func 63) #[] #[.pointer (some ⟨w.heap.size, 0, none⟩)]]) (by simp [results, Tryz.results33, go_sem]) rfl ⟨w.heap.size, rfl, HA.out, ?_⟩
 exact bl
theorem shifting_any (dr dc : Int) (w : World) : Calls Tryz.prog 38 #[.int .i64 dr, .int .i64 dc] w fun e w' => ∃ br bc bf, e = .returned (.agg #[.func (.func 70) #[] #[.pointer (some ⟨br, 0, none⟩), .pointer (some ⟨bc, 0, none⟩)], .func (.func 71) #[] #[.pointer (some ⟨bf, 0, none⟩)]]) ∧ Sh w' br bc bf dr dc ∧ Below w.heap.size w w' := by
 go_enter Tryz.func38, Tryz.ntmps38
 go_wp2
 refine bodyPost_ret (v := .agg #[.func (.func 70) #[] #[.pointer (some ⟨w.heap.size, 0, none⟩), .pointer (some ⟨w.heap.size + 1, 0, none⟩)], .func (.func 71) #[] #[.pointer (some ⟨w.heap.size + 1 + 1 + 1, 0, none⟩)]]) (by simp [results, Tryz.results38, go_sem]) rfl ⟨w.heap.size, w.heap.size + 1, w.heap.size + 1 + 1 + 1, rfl, ⟨?_, ?_, ?_, ?_, ?_, ?_⟩, ?_⟩
 ·
  simp; try omega
 ·
  simp [go_sem]
 ·
  simp; try omega
 ·
  simp [go_sem]
 ·
  simp
 ·
  simp [go_sem]
 ·
  exact bl
theorem Box.ret2 {fn : Func} {s p : Tmp} (hf : fn.results = #[.cell p 33, .tmp s]) {tmps : Array Value} {w : World} {b : Nat} {h : Hd} {v u : Value} (k : Box w b (hdC h v)) (hs : tmps.getD s undef = u) (hp : tmps.getD p undef = .pointer (some ⟨b, 0, none⟩)) : (results fn tmps).run Tryz.prog w = .ok (.tuple #[.agg (hdC h v).toArray, u]) w := by
 have hp' : tmps[p]?.getD undef = .pointer (some ⟨b, 0, none⟩) := by simpa using hp
 have hs' : tmps[s]?.getD undef = u := by simpa using hs
 simp [results, hf, hp', hs', asAddr, run_loadVar_row w b 33 33 (hdC h v).toArray (0, 0) _ k Tryz.underlying33 rfl (by rw [sizeNode]; rfl)]
structure Fine (w : World) (D : Nat → Prop) (h : Hd) (k : Fo) (v : Value) : Prop where
 blocks : ∀ c, D c → c < w.heap.size
 kids : Kv w D v k
 many : k.many + 1 ≤ 4096
 vs : h.vs.length ≤ maxLen
 txt : h.txt.length ≤ maxLen
 ok : okF k
theorem Fine.below {w w' : World} {D : Nat → Prop} {h : Hd} {k : Fo} {v : Value} (f : Fine w D h k v) (b : Below w.heap.size w w') : Fine w' D h k v :=
 ⟨fun c hc => Nat.lt_of_lt_of_le (f.blocks c hc) b.size, kv_to f.kids (fun c hc => ⟨hc, b.block c (f.blocks c hc)⟩), f.many, f.vs, f.txt, f.ok⟩
theorem Fine.check {w : World} {D : Nat → Prop} {h : Hd} {k : Fo} {a : Option Addr} {n cap : Nat} (f : Fine w D h k (.slice a n cap)) : Calls Tryz.prog 30 #[.agg (hdC h (.slice a n cap)).toArray] w fun e w' => e = .returned (.int .i64 (checkN h k)) ∧ Below w.heap.size w w' :=
 check_node D h k a n cap w f.blocks f.kids f.many f.vs f.txt f.ok
theorem move_ok (D : Nat → Prop) (h : Hd) (k : Fo) (a : Option Addr) (n cap : Nat) (ek ea en : Int) (w : World) (hf : Fine w D h k (.slice a n cap)) (hc : checkN h k = 0) (he : Pla.editB ek ea en = true) :
  Calls Tryz.prog 12 #[.agg (hdC h (.slice a n cap)).toArray, .agg #[.int .i64 ek, .int .i64 ea, .int .i64 en]] w fun e w' => ∃ a' n' cap', e = .returned (.tuple #[.agg (hdC (remH (moveD ek ea en) h) (.slice a' n' cap')).toArray, .int .i64 0]) ∧ Kv w' (New w w') (.slice a' n' cap') (remK (moveD ek ea en) h k) ∧ Below w.heap.size w w' := by
 have HC : Hid (∀ W : World, Below w.heap.size w W → Calls Tryz.prog 30 #[.agg (hdC h (.slice a n cap)).toArray] W fun e w' => e = .returned (.int .i64 0) ∧ Below W.heap.size W w') := fun W hW => by
  have := (hf.below hW).check
  rw [hc] at this
  exact this
 have HE : Hid (∀ W : World, Calls Tryz.prog 31 #[.agg #[.int .i64 ek, .int .i64 ea, .int .i64 en]] W fun e w' => e = .returned (.int .i64 0) ∧ Below W.heap.size W w') := fun W => by
  have := Pla.edit_any ek ea en W
  rw [Pla.editR_yes he] at this
  exact this
 have HM : Hid (∀ W : World, Calls Tryz.prog 33 #[.agg #[.int .i64 ek, .int .i64 ea, .int .i64 en]] W fun e w' => ∃ be, e = .returned (.agg #[.func (.func 62) #[] #[.pointer (some ⟨be, 0, none⟩)], .func (.func 63) #[] #[.pointer (some ⟨be, 0, none⟩)]]) ∧ Pla.At3 w' be ek ea en ∧ Below W.heap.size W w') := fun W => moving_any ek ea en W
 have HR : Hid (∀ (W : World) (be : Nat), Below w.heap.size w W → W.heap[w.heap.size]? = some (.cells (hdC h (.slice a n cap)).toArray 33 (0, 0)) → Pla.At3 W be ek ea en → Calls Tryz.prog 32 #[.pointer (some ⟨w.heap.size, 0, none⟩), .agg #[.func (.func 62) #[] #[.pointer (some ⟨be, 0, none⟩)], .func (.func 63) #[] #[.pointer (some ⟨be, 0, none⟩)]]] W fun e w' => ∃ a n cap, e = .returned (.agg (hdC (remH (moveD ek ea en) h) (.slice a n cap)).toArray) ∧ Kv w' (New W w') (.slice a n cap) (remK (moveD ek ea en) h k) ∧ Below W.heap.size W w') := fun W be hW hn hb =>
  rem_anyM ek ea en be k (fun c => D c ∨ c = w.heap.size) h w.heap.size 0 W (fun c hc => by
   have hl := (Array.getElem?_eq_some_iff.1 hn).1
   rcases hc with hc | rfl
   ·
    have := hf.blocks c hc; have := hW.size; omega
   ·
    exact hl) (node_at (pre := []) (rest := []) (t := 33) (fz := (0, 0)) (by simpa using hn) rfl (.inr rfl) (kv_to hf.kids (fun c hc => ⟨.inl hc, hW.block c (hf.blocks c hc)⟩)) trivial) hb (by have := hf.many; omega)
 generalize remH (moveD ek ea en) h = H at *
 generalize remK (moveD ek ea en) h k = K at *
 clear hc he hf
 have HB := hide ((((Below.refl _ w).alloc (Nat.le_refl _) (.cells (hdC h (.slice a n cap)).toArray 33)).alloc (by simp) (.cells #[.int .i64 ek, .int .i64 ea, .int .i64 en] 36)).alloc (by simp; omega) (.cells (hdC zh (.slice none 0 0)).toArray 33))
 have HX := hide (((Box.new w (hdC h (.slice a n cap))).alloc (.cells #[.int .i64 ek, .int .i64 ea, .int .i64 en] 36)).alloc (.cells (hdC zh (.slice none 0 0)).toArray 33))
 have HY : Hid (Box (((w.alloc (.cells (hdC h (.slice a n cap)).toArray 33)).alloc (.cells #[.int .i64 ek, .int .i64 ea, .int .i64 en] 36)).alloc (.cells (hdC zh (.slice none 0 0)).toArray 33)) (w.heap.size + 1 + 1) (hdC zh (.slice none 0 0))) := by
  have := Box.new ((w.alloc (.cells (hdC h (.slice a n cap)).toArray 33)).alloc (.cells #[.int .i64 ek, .int .i64 ea, .int .i64 en] 36)) (hdC zh (.slice none 0 0))
  exact hide (by simpa using this)
 have HE3 : Hid (Pla.At3 (((w.alloc (.cells (hdC h (.slice a n cap)).toArray 33)).alloc (.cells #[.int .i64 ek, .int .i64 ea, .int .i64 en] 36)).alloc (.cells (hdC zh (.slice none 0 0)).toArray 33)) (w.heap.size + 1) ek ea en) := by
  have := (Pla.At3.new (w.alloc (.cells (hdC h (.slice a n cap)).toArray 33)) ek ea en 36).alloc (.cells (hdC zh (.slice none 0 0)).toArray 33)
  exact hide (by simpa using this)
 go_enter Tryz.func12, Tryz.ntmps12
 go_wp2_with (first | (with_reducible refine wpl_id ?_; refine wpl_load rfl _ rfl _ rfl (by ((repeat' (first | with_reducible (first | exact Hid.out (by assumption) | apply Box.set | exact Box.new _ _ | apply Box.other | apply Box.alloc | apply Box.drew | apply Box.drewN) | omega)); done)) ?_) | (go_at_call 30; refine (HC.out _ HB.out).mono ?_; rintro e w1 ⟨rfl, hb1⟩; have HX1 := hide (HX.out.below hb1); have HY1 := hide (HY.out.below hb1); have HE1 := hide (HE3.out.below hb1); have ⟨g0, g1, g2, g3⟩ := HE1.out; have HB1 := hide (HB.out.trans (hb1.mono HB.out.size)); clear hb1 HX HY HE3 HB) | (go_at_call 31; refine (HE.out _).mono ?_; rintro e w2 ⟨rfl, hb2⟩; have HX2 := hide (HX1.out.below hb2); have HY2 := hide (HY1.out.below hb2); have ⟨j0, j1, j2, j3⟩ := HE1.out.below hb2; have HB2 := hide (HB1.out.trans (hb2.mono HB1.out.size)); clear hb2 HX1 HY1 HE1 HB1) | (go_at_call 33; refine (HM.out _).mono ?_; rintro e w3 ⟨be, rfl, he3, hb3⟩; have HX3 := hide (HX2.out.below hb3); have HY3 := hide (HY2.out.below hb3); have HB3 := hide (HB2.out.trans (hb3.mono HB2.out.size)); have HE4 := hide he3; clear hb3 he3 HX2 HY2 HB2) | (go_at_call 32; refine (HR.out _ be HB3.out HX3.out HE4.out).mono ?_; rintro e w4 ⟨a4, n4, c4, rfl, hk4, hb4⟩; have HY4 := hide (HY3.out.below hb4); have HB4 := hide (HB3.out.trans (hb4.mono HB3.out.size)); have HK4 := hide hk4; have hs3 := HB3.out.size; have hy3 := HY3.out.lt; clear hb4 hk4 HX3 HY3 HB3 HE4) | (with_reducible refine wpl_id ?_; refine wpl_store rfl _ _ rfl _ rfl rfl (by ((repeat' (first | with_reducible (first | exact Hid.out (by assumption) | apply Box.set | exact Box.new _ _ | apply Box.other | apply Box.alloc | apply Box.drew | apply Box.drewN) | omega)); done)) rfl ?_))
 refine bodyPost_ret (Box.ret2 rfl (HY4.out.set _) rfl rfl) rfl ⟨_, _, _, rfl, ?_, below_set HB4.out (by omega) _⟩
 refine kv_to HK4.out (fun c hc => ?_)
 have h1 : w3.heap.size ≤ c := hc.1
 exact ⟨⟨by omega, by rw [setRow_size]; exact hc.2⟩, setRow_heap _ _ _ _ (by omega)⟩
end Go.Proofs.YtfpmmckpobpokaaGreat
