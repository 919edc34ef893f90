/-
  The contract of the answer's Move at any node that can be gone through (made by rmovegen.py).
-/
import Derived.Test.YtfpmmckpobpokaaGreatMRwN2
set_option maxRecDepth 100000
set_option maxHeartbeats 4000000
namespace Go.Proofs.YtfpmmckpobpokaaGreat
open Go.RowKit
theorem rmove_no (D : Nat → Prop) (h : Hd) (k : Fo) (a : Option Addr) (n cap : Nat) (ek ea en : Int) (w : World) (hf : Fine w D h k (.slice a n cap)) (hdp : k.deep + 1 ≤ 160) (x : Int) (hx : (checkN h k = x ∧ x ≠ 0) ∨ (checkN h k = 0 ∧ Pla.editB ek ea en = false ∧ x = 2)) :
  Calls Tryz.prog 13 #[.agg (hdC h (.slice a n cap)).toArray, .agg #[.int .i64 ek, .int .i64 ea, .int .i64 en]] w fun e w' => e = .returned (.tuple #[.agg (hdC zh (.slice none 0 0)).toArray, .int .i64 x]) ∧ Below w.heap.size w w' := by
 have HS := hide (th_first w h a n cap ek ea en)
 have ⟨y0, y1, y2, y3⟩ := HS.out.ed
 have HX := hide HS.out.node
 have HG0 : Hid (0 = 0) := hide rfl
 rcases hx with ⟨hx, h0⟩ | ⟨hx, he, rfl⟩
 ·
  have HC : Hid (∀ W : World, Below w.heap.size w W → Calls Tryz.prog 24 #[.agg (hdC h (.slice a n cap)).toArray] W fun e w' => e = .returned (.int .i64 x) ∧ Below W.heap.size W w') := fun W hW => by
   have := rcheck08_any D h k a n cap W (fun c hc => Nat.lt_of_lt_of_le (hf.blocks c hc) hW.size) (kv_to hf.kids (fun b hb => ⟨hb, hW.block b (hf.blocks b hb)⟩)) hf.many hdp hf.vs hf.txt hf.ok
   rw [hx] at this
   exact this
  have h0' : (x != 0) = true := by simpa using h0
  clear hx hf h0 hdp
  go_enter Tryz.func13, Tryz.ntmps13
  go_wp2_with (first | (with_reducible refine wpl_id ?_; refine wpl_load rfl _ rfl _ rfl (by ((repeat' (first | with_reducible (first | exact Hid.out (by assumption) | apply Box.set | exact Box.new _ _ | apply Box.other | apply Box.alloc | apply Box.drew | apply Box.drewN) | omega)); done)) ?_) | (have hneed := HG0; go_at_call 24; refine (HC.out _ HS.out.below).mono ?_; rintro e w1 ⟨rfl, hb1⟩; have HX1 := hide (HX.out.below hb1); have HZ1 := hide (HS.out.res.below hb1); have HB1 := hide (HS.out.below.trans (hb1.mono HS.out.below.size)); have HE1 := hide (HS.out.ed.below hb1); clear hb1 HX y0 y1 y2 y3 hneed HG0; have ⟨y0, y1, y2, y3⟩ := HE1.out; have HG1 : Hid (0 = 0) := hide rfl) | (with_reducible refine wpl_id ?_; refine wpl_buildN rfl 33 _ rfl (qs := #[]) rfl (run_zeroN _) ?_) | (with_reducible refine wpl_id ?_; refine wpl_store rfl _ _ rfl _ rfl rfl (by ((repeat' (first | with_reducible (first | exact Hid.out (by assumption) | apply Box.set | exact Box.new _ _ | apply Box.other | apply Box.alloc | apply Box.drew | apply Box.drewN) | omega)); done)) rfl ?_))
  refine bodyPost_ret (Box.ret2 rfl (HZ1.out.set _) rfl rfl) rfl ⟨rfl, below_set HB1.out (by omega) _⟩
 ·
  have HC : Hid (∀ W : World, Below w.heap.size w W → Calls Tryz.prog 24 #[.agg (hdC h (.slice a n cap)).toArray] W fun e w' => e = .returned (.int .i64 0) ∧ Below W.heap.size W w') := fun W hW => by
   have := rcheck08_any D h k a n cap W (fun c hc => Nat.lt_of_lt_of_le (hf.blocks c hc) hW.size) (kv_to hf.kids (fun b hb => ⟨hb, hW.block b (hf.blocks b hb)⟩)) hf.many hdp hf.vs hf.txt hf.ok
   rw [hx] at this
   exact this
  have HEd : Hid (∀ W : World, Calls Tryz.prog 34 #[.agg #[.int .i64 ek, .int .i64 ea, .int .i64 en]] W fun e w' => e = .returned (.int .i64 2) ∧ Below W.heap.size W w') := fun W => by
   have := Pla.redit_any ek ea en W
   rw [Pla.editR_no he] at this
   exact this
  clear hx hf he hdp
  go_enter Tryz.func13, Tryz.ntmps13
  go_wp2_with (first | (with_reducible refine wpl_id ?_; refine wpl_load rfl _ rfl _ rfl (by ((repeat' (first | with_reducible (first | exact Hid.out (by assumption) | apply Box.set | exact Box.new _ _ | apply Box.other | apply Box.alloc | apply Box.drew | apply Box.drewN) | omega)); done)) ?_) | (have hneed := HG0; go_at_call 24; refine (HC.out _ HS.out.below).mono ?_; rintro e w1 ⟨rfl, hb1⟩; have HX1 := hide (HX.out.below hb1); have HZ1 := hide (HS.out.res.below hb1); have HB1 := hide (HS.out.below.trans (hb1.mono HS.out.below.size)); have HE1 := hide (HS.out.ed.below hb1); clear hb1 HX y0 y1 y2 y3 hneed HG0; have ⟨y0, y1, y2, y3⟩ := HE1.out; have HG1 : Hid (0 = 0) := hide rfl) | (have hneed := HG1; go_at_call 34; refine (HEd.out _).mono ?_; rintro e w2 ⟨rfl, hb2⟩; have HX2 := hide (HX1.out.below hb2); have HZ2 := hide (HZ1.out.below hb2); have HB2 := hide (HB1.out.trans (hb2.mono HB1.out.size)); have HE2 := hide (HE1.out.below hb2); clear hb2 HX1 y0 y1 y2 y3 hneed HG1; have ⟨y0, y1, y2, y3⟩ := HE2.out; have HG2 : Hid (0 = 0) := hide rfl) | (with_reducible refine wpl_id ?_; refine wpl_buildN rfl 33 _ rfl (qs := #[]) rfl (run_zeroN _) ?_) | (with_reducible refine wpl_id ?_; refine wpl_store rfl _ _ rfl _ rfl rfl (by ((repeat' (first | with_reducible (first | exact Hid.out (by assumption) | apply Box.set | exact Box.new _ _ | apply Box.other | apply Box.alloc | apply Box.drew | apply Box.drewN) | omega)); done)) rfl ?_))
  refine bodyPost_ret (Box.ret2 rfl (HZ2.out.set _) rfl rfl) rfl ⟨rfl, below_set HB2.out (by omega) _⟩
theorem rmove_ok (D : Nat → Prop) (h : Hd) (k : Fo) (a : Option Addr) (n cap : Nat) (ek ea en : Int) (w : World) (hf : Fine w D h k (.slice a n cap)) (hdp : k.deep + 1 ≤ 160) (hc : checkN h k = 0) (he : Pla.editB ek ea en = true) :
  Calls Tryz.prog 13 #[.agg (hdC h (.slice a n cap)).toArray, .agg #[.int .i64 ek, .int .i64 ea, .int .i64 en]] w fun e w' => ∃ a' n' cap', e = .returned (.tuple #[.agg (hdC (remH (moveD ek ea en) h) (.slice a' n' cap')).toArray, .int .i64 0]) ∧ Kv w' (New w w') (.slice a' n' cap') (remK (moveD ek ea en) h k) ∧ Below w.heap.size w w' := by
 have HS := hide (th_first w h a n cap ek ea en)
 have ⟨y0, y1, y2, y3⟩ := HS.out.ed
 have HX := hide HS.out.node
 have HG0 : Hid (0 = 0) := hide rfl
 have HC : Hid (∀ W : World, Below w.heap.size w W → Calls Tryz.prog 24 #[.agg (hdC h (.slice a n cap)).toArray] W fun e w' => e = .returned (.int .i64 0) ∧ Below W.heap.size W w') := fun W hW => by
  have := rcheck08_any D h k a n cap W (fun c hc => Nat.lt_of_lt_of_le (hf.blocks c hc) hW.size) (kv_to hf.kids (fun b hb => ⟨hb, hW.block b (hf.blocks b hb)⟩)) hf.many hdp hf.vs hf.txt hf.ok
  rw [hc] at this
  exact this
 have HEd : Hid (∀ W : World, Calls Tryz.prog 34 #[.agg #[.int .i64 ek, .int .i64 ea, .int .i64 en]] W fun e w' => e = .returned (.int .i64 0) ∧ Below W.heap.size W w') := fun W => by
  have := Pla.redit_any ek ea en W
  rw [Pla.editR_yes he] at this
  exact this
 have hr := check_rightN hc
 simp only [rightN, Bool.and_eq_true] at hr
 have HR : Hid (∀ W : World, Below w.heap.size w W → Calls Tryz.prog 35 #[.agg (hdC h (.slice a n cap)).toArray, .agg #[.int .i64 ek, .int .i64 ea, .int .i64 en]] W fun e w' => ∃ a n cap, e = .returned (.agg (hdC (remH (moveD ek ea en) h) (.slice a n cap)).toArray) ∧ Kv w' (New W w') (.slice a n cap) (remK (moveD ek ea en) h k) ∧ Below W.heap.size W w') := fun W hW => through_any ek ea en he h k D (.slice a n cap) W hr.1 hr.2 hf.many (fun c hc => Nat.lt_of_lt_of_le (hf.blocks c hc) hW.size) (kv_to hf.kids (fun b hb => ⟨hb, hW.block b (hf.blocks b hb)⟩))
 generalize remH (moveD ek ea en) h = H at *
 generalize remK (moveD ek ea en) h k = K at *
 clear hc he hf hr hdp
 go_enter Tryz.func13, Tryz.ntmps13
 go_wp2_with (first | (with_reducible refine wpl_id ?_; refine wpl_load rfl _ rfl _ rfl (by ((repeat' (first | with_reducible (first | exact Hid.out (by assumption) | apply Box.set | exact Box.new _ _ | apply Box.other | apply Box.alloc | apply Box.drew | apply Box.drewN) | omega)); done)) ?_) | (have hneed := HG0; go_at_call 24; refine (HC.out _ HS.out.below).mono ?_; rintro e w1 ⟨rfl, hb1⟩; have HX1 := hide (HX.out.below hb1); have HZ1 := hide (HS.out.res.below hb1); have HB1 := hide (HS.out.below.trans (hb1.mono HS.out.below.size)); have HE1 := hide (HS.out.ed.below hb1); clear hb1 HX y0 y1 y2 y3 hneed HG0; have ⟨y0, y1, y2, y3⟩ := HE1.out; have HG1 : Hid (0 = 0) := hide rfl) | (have hneed := HG1; go_at_call 34; refine (HEd.out _).mono ?_; rintro e w2 ⟨rfl, hb2⟩; have HX2 := hide (HX1.out.below hb2); have HZ2 := hide (HZ1.out.below hb2); have HB2 := hide (HB1.out.trans (hb2.mono HB1.out.size)); have HE2 := hide (HE1.out.below hb2); clear hb2 HX1 y0 y1 y2 y3 hneed HG1; have ⟨y0, y1, y2, y3⟩ := HE2.out; have HG2 : Hid (0 = 0) := hide rfl) | (have hneed := HG2; go_at_call 35; refine (HR.out _ HB2.out).mono ?_; rintro e w4 ⟨a4, n4, c4, rfl, hk4, hb4⟩; have HZ4 := hide (HZ2.out.below hb4); have HB4 := hide (HB2.out.trans (hb4.mono HB2.out.size)); have HK4 := hide hk4; have hs3 := HB2.out.size; have hz3 := HZ2.out.lt; clear hb4 hk4 HX2 HZ2 HB2 hneed HG2) | (with_reducible refine wpl_id ?_; refine wpl_store rfl _ _ rfl _ rfl rfl (by ((repeat' (first | with_reducible (first | exact Hid.out (by assumption) | apply Box.set | exact Box.new _ _ | apply Box.other | apply Box.alloc | apply Box.drew | apply Box.drewN) | omega)); done)) rfl ?_))
 refine bodyPost_ret (Box.ret2 rfl (HZ4.out.set _) rfl rfl) rfl ⟨_, _, _, rfl, ?_, below_set HB4.out (by omega) _⟩
 refine kv_to HK4.out (fun c hc => ?_)
 have h1 : w2.heap.size ≤ c := hc.1
 exact ⟨⟨by omega, by rw [setRow_size]; exact hc.2⟩, setRow_heap _ _ _ _ (by omega)⟩
theorem rmove_all (D : Nat → Prop) (h : Hd) (k : Fo) (a : Option Addr) (n cap : Nat) (ek ea en : Int) (w : World) (hf : Fine w D h k (.slice a n cap)) (hdp : k.deep + 1 ≤ 160) :
  Calls Tryz.prog 13 #[.agg (hdC h (.slice a n cap)).toArray, .agg #[.int .i64 ek, .int .i64 ea, .int .i64 en]] w fun e w' => ∃ a' n' cap', e = .returned (.tuple #[.agg (hdC (doneH (moveD ek ea en) (doE (checkN h k) (Pla.editB ek ea en)) h) (.slice a' n' cap')).toArray, .int .i64 (doE (checkN h k) (Pla.editB ek ea en))]) ∧ Kv w' (fun c => c < w'.heap.size) (.slice a' n' cap') (doneK (moveD ek ea en) (doE (checkN h k) (Pla.editB ek ea en)) h k) ∧ Below w.heap.size w w' := by
 by_cases hc : checkN h k = 0
 ·
  cases he : (Pla.editB ek ea en)
  ·
   rw [show doE (checkN h k) false = 2 by simp [doE, hc]]
   exact (rmove_no D h k a n cap ek ea en w hf hdp 2 (.inr ⟨hc, he, rfl⟩)).mono (by rintro e w' ⟨rfl, hb⟩; exact ⟨none, 0, 0, rfl, kv_none w', hb⟩)
  ·
   rw [show doE (checkN h k) true = 0 by simp [doE, hc]]
   exact (rmove_ok D h k a n cap ek ea en w hf hdp hc he).mono (by rintro e w' ⟨a', n', cap', rfl, hk, hb⟩; exact ⟨a', n', cap', rfl, new_lt hk, hb⟩)
 ·
  have e1 : doE (checkN h k) (Pla.editB ek ea en) = checkN h k := by simp [doE, hc]
  rw [e1, show doneH (moveD ek ea en) (checkN h k) h = zh by simp [doneH, hc], show doneK (moveD ek ea en) (checkN h k) h k = .nil by simp [doneK, hc]]
  exact (rmove_no D h k a n cap ek ea en w hf hdp _ (.inl ⟨rfl, hc⟩)).mono (by rintro e w' ⟨rfl, hb⟩; exact ⟨none, 0, 0, rfl, kv_none w', hb⟩)
end Go.Proofs.YtfpmmckpobpokaaGreat
