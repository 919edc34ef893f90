/-
  The contract of the answer's Shift at any node that can be gone through.
-/
import Derived.Test.YtfpmmckpobpokaaGreatRRwS3
set_option maxRecDepth 100000
set_option maxHeartbeats 4000000
namespace Go.Proofs.YtfpmmckpobpokaaGreat
open Go.RowKit
theorem with_no {s m : Int} (h : withB s m = false) : s < -m ∨ (¬ s < -m ∧ m < s) := by
 unfold withB at h
 simp at h
 omega
theorem with_yes {s m : Int} (h : withB s m = true) : ¬ s < -m ∧ ¬ m < s := by
 unfold withB at h
 simp at h
 omega
theorem rshift_no (D : Nat → Prop) (h : Hd) (k : Fo) (a : Option Addr) (n cap : Nat) (dr dc : Int) (w : World) (hf : Fine w D h k (.slice a n cap)) (hdp : k.deep + 1 ≤ 160) (x : Int) (hx : (checkN h k = x ∧ x ≠ 0) ∨ (checkN h k = 0 ∧ (withB dr 1048576 && withB dc 16384) = false ∧ x = 2)) :
    Calls Tryz.prog 18 #[.agg (hdC h (.slice a n cap)).toArray, .int .i64 dr, .int .i64 dc] w fun e w' => e = .returned (.tuple #[.agg (hdC zh (.slice none 0 0)).toArray, .int .i64 x]) ∧ Below w.heap.size w w' := by
  have HC : Hid (∀ W : World, Below w.heap.size w W → Calls Tryz.prog 24 #[.agg (hdC h (.slice a n cap)).toArray] W fun e w' => e = .returned (.int .i64 (checkN h k)) ∧ Below W.heap.size W w') := fun W hW => rcheck08_any D h k a n cap W (fun c hc => Nat.lt_of_lt_of_le (hf.blocks c hc) hW.size) (kv_to hf.kids (fun b hb => ⟨hb, hW.block b (hf.blocks b hb)⟩)) hf.many hdp hf.vs hf.txt hf.ok
  have HB := hide (((Below.refl _ w).alloc (Nat.le_refl _) (.cells (hdC h (.slice a n cap)).toArray 33)).alloc (by simp) (.cells (hdC zh (.slice none 0 0)).toArray 33))
  have HX := hide ((Box.new w (hdC h (.slice a n cap))).alloc (.cells (hdC zh (.slice none 0 0)).toArray 33))
  have HY := hide (two_boxes w h (.slice a n cap))
  rcases hx with ⟨hx, h0⟩ | ⟨hx, he, rfl⟩
  · rw [hx] at HC
    have h0' : (x != 0) = true := by simpa using h0
    clear hx hf h0 hdp
    go_enter Tryz.func18, Tryz.ntmps18
    go_wp2_with (first | (with_reducible refine wpl_id ?_; refine wpl_load rfl _ rfl _ rfl (by ((repeat' (first | with_reducible (first | exact Hid.out (by assumption) | apply Box.set | exact Box.new _ _ | apply Box.other | apply Box.alloc | apply Box.drew | apply Box.drewN) | omega)); done)) ?_) | (go_at_call 24; refine (HC.out _ HB.out).mono ?_; rintro e w1 ⟨rfl, hb1⟩; have HY1 := hide (HY.out.below hb1); have HB1 := hide (HB.out.trans (hb1.mono HB.out.size)); clear hb1 HX HY HB) | (with_reducible refine wpl_id ?_; refine wpl_buildN rfl 33 _ rfl (qs := #[]) rfl (run_zeroN _) ?_) | (with_reducible refine wpl_id ?_; refine wpl_store rfl _ _ rfl _ rfl rfl (by ((repeat' (first | with_reducible (first | exact Hid.out (by assumption) | apply Box.set | exact Box.new _ _ | apply Box.other | apply Box.alloc | apply Box.drew | apply Box.drewN) | omega)); done)) rfl ?_))
    refine bodyPost_ret (Box.ret2 rfl (HY1.out.set _) rfl rfl) rfl ⟨rfl, below_set HB1.out (by omega) _⟩
  · rw [hx] at HC
    have key : dr < -1048576 ∨ (¬ dr < -1048576 ∧ 1048576 < dr) ∨ (¬ dr < -1048576 ∧ ¬ 1048576 < dr ∧ dc < -16384) ∨ (¬ dr < -1048576 ∧ ¬ 1048576 < dr ∧ ¬ dc < -16384 ∧ 16384 < dc) := by
      cases g1 : withB dr 1048576
      · have := with_no g1; omega
      · have h1 := with_yes g1
        rw [g1] at he
        have h2 := with_no (show withB dc 16384 = false by simpa using he)
        omega
    clear hx hf he hdp
    rcases key with k1 | ⟨k1, k2⟩ | ⟨k1, k2, k3⟩ | ⟨k1, k2, k3, k4⟩
    all_goals (go_enter Tryz.func18, Tryz.ntmps18)
    all_goals (go_wp2_with (first | (with_reducible refine wpl_id ?_; refine wpl_load rfl _ rfl _ rfl (by ((repeat' (first | with_reducible (first | exact Hid.out (by assumption) | apply Box.set | exact Box.new _ _ | apply Box.other | apply Box.alloc | apply Box.drew | apply Box.drewN) | omega)); done)) ?_) | (go_at_call 24; refine (HC.out _ HB.out).mono ?_; rintro e w1 ⟨rfl, hb1⟩; have HX1 := hide (HX.out.below hb1); have HY1 := hide (HY.out.below hb1); have HB1 := hide (HB.out.trans (hb1.mono HB.out.size)); clear hb1 HX HY HB) | (with_reducible refine wpl_id ?_; refine wpl_buildN rfl 33 _ rfl (qs := #[]) rfl (run_zeroN _) ?_) | (with_reducible refine wpl_id ?_; refine wpl_store rfl _ _ rfl _ rfl rfl (by ((repeat' (first | with_reducible (first | exact Hid.out (by assumption) | apply Box.set | exact Box.new _ _ | apply Box.other | apply Box.alloc | apply Box.drew | apply Box.drewN) | omega)); done)) rfl ?_)))
    all_goals refine bodyPost_ret (Box.ret2 rfl (HY1.out.set _) rfl rfl) rfl ⟨rfl, below_set HB1.out (by omega) _⟩
theorem rshift_ok (D : Nat → Prop) (h : Hd) (k : Fo) (a : Option Addr) (n cap : Nat) (dr dc : Int) (w : World) (hf : Fine w D h k (.slice a n cap)) (hdp : k.deep + 1 ≤ 160) (hc : checkN h k = 0) (h1 : withB dr 1048576 = true) (h2 : withB dc 16384 = true) :
  Calls Tryz.prog 18 #[.agg (hdC h (.slice a n cap)).toArray, .int .i64 dr, .int .i64 dc] w fun e w' => ∃ a' n' cap', e = .returned (.tuple #[.agg (hdC (remH (shiftD dr dc) h) (.slice a' n' cap')).toArray, .int .i64 0]) ∧ Kv w' (New w w') (.slice a' n' cap') (remK (shiftD dr dc) h k) ∧ Below w.heap.size w w' := by
 have HC : Hid (∀ W : World, Below w.heap.size w W → Calls Tryz.prog 24 #[.agg (hdC h (.slice a n cap)).toArray] W fun e w' => e = .returned (.int .i64 0) ∧ Below W.heap.size W w') := fun W hW => by
  have := rcheck08_any D h k a n cap W (fun c hc => Nat.lt_of_lt_of_le (hf.blocks c hc) hW.size) (kv_to hf.kids (fun b hb => ⟨hb, hW.block b (hf.blocks b hb)⟩)) hf.many hdp hf.vs hf.txt hf.ok
  rw [hc] at this
  exact this
 have hr := check_rightN hc
 simp only [rightN, Bool.and_eq_true] at hr
 have HR : Hid (∀ W : World, Below w.heap.size w W → Calls Tryz.prog 39 #[.agg (hdC h (.slice a n cap)).toArray, .int .i64 dr, .int .i64 dc] W fun e w' => ∃ a n cap, e = .returned (.agg (hdC (remH (shiftD dr dc) h) (.slice a n cap)).toArray) ∧ Kv w' (New W w') (.slice a n cap) (remK (shiftD dr dc) h k) ∧ Below W.heap.size W w') := fun W hW => slide_any dr dc h k D (.slice a n cap) W hr.1 hr.2 hf.many (fun c hc => Nat.lt_of_lt_of_le (hf.blocks c hc) hW.size) (kv_to hf.kids (fun b hb => ⟨hb, hW.block b (hf.blocks b hb)⟩))
 obtain ⟨g1, g2⟩ := with_yes h1
 obtain ⟨g3, g4⟩ := with_yes h2
 generalize remH (shiftD dr dc) h = H at *
 generalize remK (shiftD dr dc) h k = K at *
 clear hc h1 h2 hf hr hdp
 have HB := hide (((Below.refl _ w).alloc (Nat.le_refl _) (.cells (hdC h (.slice a n cap)).toArray 33)).alloc (by simp) (.cells (hdC zh (.slice none 0 0)).toArray 33))
 have HX := hide ((Box.new w (hdC h (.slice a n cap))).alloc (.cells (hdC zh (.slice none 0 0)).toArray 33))
 have HY := hide (two_boxes w h (.slice a n cap))
 go_enter Tryz.func18, Tryz.ntmps18
 go_wp2_with (first | (with_reducible refine wpl_id ?_; refine wpl_load rfl _ rfl _ rfl (by ((repeat' (first | with_reducible (first | exact Hid.out (by assumption) | apply Box.set | exact Box.new _ _ | apply Box.other | apply Box.alloc | apply Box.drew | apply Box.drewN) | omega)); done)) ?_) | (go_at_call 24; refine (HC.out _ HB.out).mono ?_; rintro e w1 ⟨rfl, hb1⟩; have HX3 := hide (HX.out.below hb1); have HY3 := hide (HY.out.below hb1); have HB3 := hide (HB.out.trans (hb1.mono HB.out.size)); clear hb1 HX HY HB) | (go_at_call 39; refine (HR.out _ HB3.out).mono ?_; rintro e w4 ⟨a4, n4, c4, rfl, hk4, hb4⟩; have HY4 := hide (HY3.out.below hb4); have HB4 := hide (HB3.out.trans (hb4.mono HB3.out.size)); have HK4 := hide hk4; have hs3 := HB3.out.size; have hy3 := HY3.out.lt; clear hb4 hk4 HX3 HY3 HB3) | (with_reducible refine wpl_id ?_; refine wpl_store rfl _ _ rfl _ rfl rfl (by ((repeat' (first | with_reducible (first | exact Hid.out (by assumption) | apply Box.set | exact Box.new _ _ | apply Box.other | apply Box.alloc | apply Box.drew | apply Box.drewN) | omega)); done)) rfl ?_))
 refine bodyPost_ret (Box.ret2 rfl (HY4.out.set _) rfl rfl) rfl ⟨_, _, _, rfl, ?_, below_set HB4.out (by omega) _⟩
 refine kv_to HK4.out (fun c hc => ?_)
 have h1 : w1.heap.size ≤ c := hc.1
 exact ⟨⟨by omega, by rw [setRow_size]; exact hc.2⟩, setRow_heap _ _ _ _ (by omega)⟩
theorem rshift_all (D : Nat → Prop) (h : Hd) (k : Fo) (a : Option Addr) (n cap : Nat) (dr dc : Int) (w : World) (hf : Fine w D h k (.slice a n cap)) (hdp : k.deep + 1 ≤ 160) :
    Calls Tryz.prog 18 #[.agg (hdC h (.slice a n cap)).toArray, .int .i64 dr, .int .i64 dc] w fun e w' => ∃ a' n' cap', e = .returned (.tuple #[.agg (hdC (doneH (shiftD dr dc) (doE (checkN h k) (withB dr 1048576 && withB dc 16384)) h) (.slice a' n' cap')).toArray, .int .i64 (doE (checkN h k) (withB dr 1048576 && withB dc 16384))]) ∧ Kv w' (fun c => c < w'.heap.size) (.slice a' n' cap') (doneK (shiftD dr dc) (doE (checkN h k) (withB dr 1048576 && withB dc 16384)) h k) ∧ Below w.heap.size w w' := by
  by_cases hc : checkN h k = 0
  · cases he : (withB dr 1048576 && withB dc 16384)
    · rw [show doE (checkN h k) false = 2 by simp [doE, hc]]
      exact (rshift_no D h k a n cap dr dc w hf hdp 2 (.inr ⟨hc, he, rfl⟩)).mono (by rintro e w' ⟨rfl, hb⟩; exact ⟨none, 0, 0, rfl, kv_none w', hb⟩)
    · rw [show doE (checkN h k) true = 0 by simp [doE, hc]]
      have he' : withB dr 1048576 = true ∧ withB dc 16384 = true := by simpa using he
      exact (rshift_ok D h k a n cap dr dc w hf hdp hc he'.1 he'.2).mono (by rintro e w' ⟨a', n', cap', rfl, hk, hb⟩; exact ⟨a', n', cap', rfl, new_lt hk, hb⟩)
  · have e1 : doE (checkN h k) (withB dr 1048576 && withB dc 16384) = checkN h k := by simp [doE, hc]
    rw [e1, show doneH (shiftD dr dc) (checkN h k) h = zh by simp [doneH, hc], show doneK (shiftD dr dc) (checkN h k) h k = .nil by simp [doneK, hc]]
    exact (rshift_no D h k a n cap dr dc w hf hdp _ (.inl ⟨rfl, hc⟩)).mono (by rintro e w' ⟨rfl, hb⟩; exact ⟨none, 0, 0, rfl, kv_none w', hb⟩)
end Go.Proofs.YtfpmmckpobpokaaGreat
