/-
  The contracts of rewrite.Move where it refuses, and of rewrite.Shift.
-/
import Derived.Test.YtfpmmckpobpokaaGreatMRw5
set_option maxRecDepth 100000
set_option maxHeartbeats 4000000
namespace Go.Proofs.YtfpmmckpobpokaaGreat
open Go.RowKit
theorem run_zeroN (w : World) : (Instr.build 33 #[]).run Tryz.prog w = .ok (.agg (hdC zh (.slice none 0 0)).toArray) w := run_build w _ _ _ (by kernel_rfl)
theorem three_boxes (w : World) (h : Hd) (v : Value) (cs : Array Value) (t : TypeId) : Box (((w.alloc (.cells (hdC h v).toArray 33)).alloc (.cells cs t)).alloc (.cells (hdC zh (.slice none 0 0)).toArray 33)) (w.heap.size + 1 + 1) (hdC zh (.slice none 0 0)) := by
 have := Box.new ((w.alloc (.cells (hdC h v).toArray 33)).alloc (.cells cs t)) (hdC zh (.slice none 0 0))
 simpa using this
theorem move_no (D : Nat → Prop) (h : Hd) (k : Fo) (a : Option Addr) (n cap : Nat) (ek ea en : Int) (w : World) (hf : Fine w D h k (.slice a n cap)) (x : Int) (hx : (checkN h k = x ∧ x ≠ 0) ∨ (checkN h k = 0 ∧ Pla.editB ek ea en = false ∧ x = 2)) :
  Calls Tryz.prog 12 #[.agg (hdC h (.slice a n cap)).toArray, .agg #[.int .i64 ek, .int .i64 ea, .int .i64 en]] w fun e w' => e = .returned (.tuple #[.agg (hdC zh (.slice none 0 0)).toArray, .int .i64 x]) ∧ Below w.heap.size w w' := by
 have HC : Hid (∀ W : World, Below w.heap.size w W → Calls Tryz.prog 30 #[.agg (hdC h (.slice a n cap)).toArray] W fun e w' => e = .returned (.int .i64 (checkN h k)) ∧ Below W.heap.size W w') := fun W hW => (hf.below hW).check
 have HE : Hid (∀ W : World, Calls Tryz.prog 31 #[.agg #[.int .i64 ek, .int .i64 ea, .int .i64 en]] W fun e w' => e = .returned (.int .i64 (Pla.editR ek ea en)) ∧ Below W.heap.size W w') := fun W => Pla.edit_any ek ea en W
 have HB := hide ((((Below.refl _ w).alloc (Nat.le_refl _) (.cells (hdC h (.slice a n cap)).toArray 33)).alloc (by simp) (.cells #[.int .i64 ek, .int .i64 ea, .int .i64 en] 36)).alloc (by simp; omega) (.cells (hdC zh (.slice none 0 0)).toArray 33))
 have HX := hide (((Box.new w (hdC h (.slice a n cap))).alloc (.cells #[.int .i64 ek, .int .i64 ea, .int .i64 en] 36)).alloc (.cells (hdC zh (.slice none 0 0)).toArray 33))
 have HY := hide (three_boxes w h (.slice a n cap) #[.int .i64 ek, .int .i64 ea, .int .i64 en] 36)
 have HE3 : Hid (Pla.At3 (((w.alloc (.cells (hdC h (.slice a n cap)).toArray 33)).alloc (.cells #[.int .i64 ek, .int .i64 ea, .int .i64 en] 36)).alloc (.cells (hdC zh (.slice none 0 0)).toArray 33)) (w.heap.size + 1) ek ea en) := by
  have := (Pla.At3.new (w.alloc (.cells (hdC h (.slice a n cap)).toArray 33)) ek ea en 36).alloc (.cells (hdC zh (.slice none 0 0)).toArray 33)
  exact hide (by simpa using this)
 rcases hx with ⟨hx, h0⟩ | ⟨hx, he, rfl⟩
 ·
  rw [hx] at HC
  have h0' : (x == 0) = false := by simpa using h0
  clear hx hf h0
  go_enter Tryz.func12, Tryz.ntmps12
  go_wp2_with (first | (with_reducible refine wpl_id ?_; refine wpl_load rfl _ rfl _ rfl (by ((repeat' (first | with_reducible (first | exact Hid.out (by assumption) | apply Box.set | exact Box.new _ _ | apply Box.other | apply Box.alloc | apply Box.drew | apply Box.drewN) | omega)); done)) ?_) | (go_at_call 30; refine (HC.out _ HB.out).mono ?_; rintro e w1 ⟨rfl, hb1⟩; have HY1 := hide (HY.out.below hb1); have HB1 := hide (HB.out.trans (hb1.mono HB.out.size)); clear hb1 HX HY HE3 HB) | (with_reducible refine wpl_id ?_; refine wpl_buildN rfl 33 _ rfl (qs := #[]) rfl (run_zeroN _) ?_) | (with_reducible refine wpl_id ?_; refine wpl_store rfl _ _ rfl _ rfl rfl (by ((repeat' (first | with_reducible (first | exact Hid.out (by assumption) | apply Box.set | exact Box.new _ _ | apply Box.other | apply Box.alloc | apply Box.drew | apply Box.drewN) | omega)); done)) rfl ?_))
  refine bodyPost_ret (Box.ret2 rfl (HY1.out.set _) rfl rfl) rfl ⟨rfl, below_set HB1.out (by omega) _⟩
 ·
  rw [hx] at HC
  rw [Pla.editR_no he] at HE
  clear hx hf he
  go_enter Tryz.func12, Tryz.ntmps12
  go_wp2_with (first | (with_reducible refine wpl_id ?_; refine wpl_load rfl _ rfl _ rfl (by ((repeat' (first | with_reducible (first | exact Hid.out (by assumption) | apply Box.set | exact Box.new _ _ | apply Box.other | apply Box.alloc | apply Box.drew | apply Box.drewN) | omega)); done)) ?_) | (go_at_call 30; refine (HC.out _ HB.out).mono ?_; rintro e w1 ⟨rfl, hb1⟩; have HX1 := hide (HX.out.below hb1); have HY1 := hide (HY.out.below hb1); have HE1 := hide (HE3.out.below hb1); have ⟨g0, g1, g2, g3⟩ := HE1.out; have HB1 := hide (HB.out.trans (hb1.mono HB.out.size)); clear hb1 HX HY HE3 HB) | (go_at_call 31; refine (HE.out _).mono ?_; rintro e w2 ⟨rfl, hb2⟩; have HY2 := hide (HY1.out.below hb2); have HB2 := hide (HB1.out.trans (hb2.mono HB1.out.size)); clear hb2 HX1 HY1 HE1 HB1) | (with_reducible refine wpl_id ?_; refine wpl_buildN rfl 33 _ rfl (qs := #[]) rfl (run_zeroN _) ?_) | (with_reducible refine wpl_id ?_; refine wpl_store rfl _ _ rfl _ rfl rfl (by ((repeat' (first | with_reducible (first | exact Hid.out (by assumption) | apply Box.set | exact Box.new _ _ | apply Box.other | apply Box.alloc | apply Box.drew | apply Box.drewN) | omega)); done)) rfl ?_))
  refine bodyPost_ret (Box.ret2 rfl (HY2.out.set _) rfl rfl) rfl ⟨rfl, below_set HB2.out (by omega) _⟩
def withB (s m : Int) : Bool := decide (-m ≤ s) && decide (s ≤ m)
theorem within_any (s m : Int) (w : World) (hm : IntKind.i64.wrap (-m) = -m) : Calls Tryz.prog 37 #[.int .i64 s, .int .i64 m] w fun e w' => e = .returned (.bool (withB s m)) ∧ w' = w := by
 unfold withB
 by_cases h1 : -m ≤ s
 ·
  by_cases h2 : s ≤ m
  ·
   rw [show (decide (-m ≤ s) && decide (s ≤ m)) = true by simp [h1, h2]]
   go_enter Tryz.func37, Tryz.ntmps37
   go_wp2
   go_ret
   exact ⟨rfl, rfl⟩
  ·
   rw [show (decide (-m ≤ s) && decide (s ≤ m)) = false by simp [h2]]
   go_enter Tryz.func37, Tryz.ntmps37
   go_wp2
   go_ret
   exact ⟨rfl, rfl⟩
 ·
  rw [show (decide (-m ≤ s) && decide (s ≤ m)) = false by simp [h1]]
  go_enter Tryz.func37, Tryz.ntmps37
  go_wp2
  go_ret
  exact ⟨rfl, rfl⟩
theorem two_boxes (w : World) (h : Hd) (v : Value) : Box ((w.alloc (.cells (hdC h v).toArray 33)).alloc (.cells (hdC zh (.slice none 0 0)).toArray 33)) (w.heap.size + 1) (hdC zh (.slice none 0 0)) := by
 have := Box.new (w.alloc (.cells (hdC h v).toArray 33)) (hdC zh (.slice none 0 0))
 simpa using this
theorem shift_ok (D : Nat → Prop) (h : Hd) (k : Fo) (a : Option Addr) (n cap : Nat) (dr dc : Int) (w : World) (hf : Fine w D h k (.slice a n cap)) (hc : checkN h k = 0) (h1 : withB dr 1048576 = true) (h2 : withB dc 16384 = true) :
  Calls Tryz.prog 17 #[.agg (hdC h (.slice a n cap)).toArray, .int .i64 dr, .int .i64 dc] w fun e w' => ∃ a' n' cap', e = .returned (.tuple #[.agg (hdC (remH (shiftD dr dc) h) (.slice a' n' cap')).toArray, .int .i64 0]) ∧ Kv w' (New w w') (.slice a' n' cap') (remK (shiftD dr dc) h k) ∧ Below w.heap.size w w' := by
 have HC : Hid (∀ W : World, Below w.heap.size w W → Calls Tryz.prog 30 #[.agg (hdC h (.slice a n cap)).toArray] W fun e w' => e = .returned (.int .i64 0) ∧ Below W.heap.size W w') := fun W hW => by
  have := (hf.below hW).check
  rw [hc] at this
  exact this
 have H1 : Hid (∀ W : World, Calls Tryz.prog 37 #[.int .i64 dr, .int .i64 1048576] W fun e w' => e = .returned (.bool true) ∧ w' = W) := fun W => by
  have := within_any dr 1048576 W (by rw [IntKind.wrap_i64]; omega)
  rw [h1] at this
  exact this
 have H2 : Hid (∀ W : World, Calls Tryz.prog 37 #[.int .i64 dc, .int .i64 16384] W fun e w' => e = .returned (.bool true) ∧ w' = W) := fun W => by
  have := within_any dc 16384 W (by rw [IntKind.wrap_i64]; omega)
  rw [h2] at this
  exact this
 have HM : Hid (∀ W : World, Calls Tryz.prog 38 #[.int .i64 dr, .int .i64 dc] W fun e w' => ∃ br bc bf, e = .returned (.agg #[.func (.func 70) #[] #[.pointer (some ⟨br, 0, none⟩), .pointer (some ⟨bc, 0, none⟩)], .func (.func 71) #[] #[.pointer (some ⟨bf, 0, none⟩)]]) ∧ Sh w' br bc bf dr dc ∧ Below W.heap.size W w') := fun W => shifting_any dr dc W
 have HR : Hid (∀ (W : World) (br bc bf : Nat), Below w.heap.size w W → W.heap[w.heap.size]? = some (.cells (hdC h (.slice a n cap)).toArray 33 (0, 0)) → Sh W br bc bf dr dc → Calls Tryz.prog 32 #[.pointer (some ⟨w.heap.size, 0, none⟩), .agg #[.func (.func 70) #[] #[.pointer (some ⟨br, 0, none⟩), .pointer (some ⟨bc, 0, none⟩)], .func (.func 71) #[] #[.pointer (some ⟨bf, 0, none⟩)]]] W fun e w' => ∃ a n cap, e = .returned (.agg (hdC (remH (shiftD dr dc) h) (.slice a n cap)).toArray) ∧ Kv w' (New W w') (.slice a n cap) (remK (shiftD dr dc) h k) ∧ Below W.heap.size W w') := fun W br bc bf hW hn hb =>
  rem_anyS dr dc br bc bf k (fun c => D c ∨ c = w.heap.size) h w.heap.size 0 W (fun c hc => by
   have hl := (Array.getElem?_eq_some_iff.1 hn).1
   rcases hc with hc | rfl
   ·
    have := hf.blocks c hc; have := hW.size; omega
   ·
    exact hl) (node_at (pre := []) (rest := []) (t := 33) (fz := (0, 0)) (by simpa using hn) rfl (.inr rfl) (kv_to hf.kids (fun c hc => ⟨.inl hc, hW.block c (hf.blocks c hc)⟩)) trivial) hb (by have := hf.many; omega)
 generalize remH (shiftD dr dc) h = H at *
 generalize remK (shiftD dr dc) h k = K at *
 clear hc h1 h2 hf
 have HB := hide (((Below.refl _ w).alloc (Nat.le_refl _) (.cells (hdC h (.slice a n cap)).toArray 33)).alloc (by simp) (.cells (hdC zh (.slice none 0 0)).toArray 33))
 have HX := hide ((Box.new w (hdC h (.slice a n cap))).alloc (.cells (hdC zh (.slice none 0 0)).toArray 33))
 have HY := hide (two_boxes w h (.slice a n cap))
 go_enter Tryz.func17, Tryz.ntmps17
 go_wp2_with (first | (with_reducible refine wpl_id ?_; refine wpl_load rfl _ rfl _ rfl (by ((repeat' (first | with_reducible (first | exact Hid.out (by assumption) | apply Box.set | exact Box.new _ _ | apply Box.other | apply Box.alloc | apply Box.drew | apply Box.drewN) | omega)); done)) ?_) | (go_at_call 30; refine (HC.out _ HB.out).mono ?_; rintro e w1 ⟨rfl, hb1⟩; have HX2 := hide (HX.out.below hb1); have HY2 := hide (HY.out.below hb1); have HB2 := hide (HB.out.trans (hb1.mono HB.out.size)); clear hb1 HX HY HB) | (go_at_call_of 37 [Value.int .i64 dr, Value.int .i64 1048576]; refine (H1.out _).mono ?_; rintro e wz ⟨rfl, hz⟩; subst wz) | (go_at_call_of 37 [Value.int .i64 dc, Value.int .i64 16384]; refine (H2.out _).mono ?_; rintro e wz ⟨rfl, hz⟩; subst wz) | (go_at_call 38; refine (HM.out _).mono ?_; rintro e w3 ⟨br, bc, bf, rfl, he3, hb3⟩; have HX3 := hide (HX2.out.below hb3); have HY3 := hide (HY2.out.below hb3); have HB3 := hide (HB2.out.trans (hb3.mono HB2.out.size)); have HE4 := hide he3; clear hb3 he3 HX2 HY2 HB2) | (go_at_call 32; refine (HR.out _ br bc bf HB3.out HX3.out HE4.out).mono ?_; rintro e w4 ⟨a4, n4, c4, rfl, hk4, hb4⟩; have HY4 := hide (HY3.out.below hb4); have HB4 := hide (HB3.out.trans (hb4.mono HB3.out.size)); have HK4 := hide hk4; have hs3 := HB3.out.size; have hy3 := HY3.out.lt; clear hb4 hk4 HX3 HY3 HB3 HE4) | (with_reducible refine wpl_id ?_; refine wpl_store rfl _ _ rfl _ rfl rfl (by ((repeat' (first | with_reducible (first | exact Hid.out (by assumption) | apply Box.set | exact Box.new _ _ | apply Box.other | apply Box.alloc | apply Box.drew | apply Box.drewN) | omega)); done)) rfl ?_))
 refine bodyPost_ret (Box.ret2 rfl (HY4.out.set _) rfl rfl) rfl ⟨_, _, _, rfl, ?_, below_set HB4.out (by omega) _⟩
 refine kv_to HK4.out (fun c hc => ?_)
 have h1 : w3.heap.size ≤ c := hc.1
 exact ⟨⟨by omega, by rw [setRow_size]; exact hc.2⟩, setRow_heap _ _ _ _ (by omega)⟩
end Go.Proofs.YtfpmmckpobpokaaGreat
