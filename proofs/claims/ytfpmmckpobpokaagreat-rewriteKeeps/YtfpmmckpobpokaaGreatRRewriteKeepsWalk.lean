/-
  The walk of RewriteKeeps.
-/
import Derived.Test.YtfpmmckpobpokaaGreatRRwK1
set_option maxRecDepth 100000
set_option maxHeartbeats 4000000
namespace Go.Proofs.YtfpmmckpobpokaaGreat
open Go.RowKit
theorem depth_bounds {k : Fo} (hd : depthN k ≠ 0) : k.many + 1 ≤ 4096 ∧ k.deep + 1 ≤ 160 := by
  unfold depthN at hd
  by_cases hq : k.many + 1 ≤ 4096 ∧ k.deep + 1 ≤ 160
  · exact hq
  · rw [if_neg hq] at hd
    exact absurd rfl hd
theorem rewriteKeeps_walk (D : Nat → Prop) (h : Hd) (k : Fo) (a : Option Addr) (n cap : Nat) (ek ea en dr dc : Int) (w : World) (hD : ∀ c, D c → c < w.heap.size) (hk : Kv w D (.slice a n cap) k) (hv : h.vs.length ≤ maxLen) (ht : h.txt.length ≤ maxLen) (ho : okF k) :
    Calls Tryz.prog 8 #[.agg (hdC h (.slice a n cap)).toArray, .agg #[.int .i64 ek, .int .i64 ea, .int .i64 en], .int .i64 dr, .int .i64 dc] w fun e w' => e = .returned (.bool true) ∧ Below w.heap.size w w' := by
  have HDp : Hid (∀ W : World, Below w.heap.size w W → Calls Tryz.prog 9 #[.agg (hdC h (.slice a n cap)).toArray] W fun e w' => e = .returned (.bool (decide (depthN k = 0))) ∧ Below W.heap.size W w') := fun W hW => deep10_any D h k a n cap W (fun c hc => Nat.lt_of_lt_of_le (hD c hc) hW.size) (kv_to hk (fun b hb => ⟨hb, hW.block b (hD b hb)⟩))
  have HL : Hid (∀ W : World, Calls Tryz.prog 10 #[] W fun e w' => e = .returned (.bool true) ∧ Below W.heap.size W w') := fun W => lives10_any W
  have HX := hide ((Box.new w (hdC h (.slice a n cap))).alloc (.cells #[.int .i64 ek, .int .i64 ea, .int .i64 en] 36))
  have HB := hide (((Below.refl _ w).alloc (Nat.le_refl _) (.cells (hdC h (.slice a n cap)).toArray 33)).alloc (by simp) (.cells #[.int .i64 ek, .int .i64 ea, .int .i64 en] 36))
  have HE3 : Hid (Pla.At3 ((w.alloc (.cells (hdC h (.slice a n cap)).toArray 33)).alloc (.cells #[.int .i64 ek, .int .i64 ea, .int .i64 en] 36)) (w.heap.size + 1) ek ea en) := by
    have := Pla.At3.new (w.alloc (.cells (hdC h (.slice a n cap)).toArray 33)) ek ea en 36
    exact hide (by simpa using this)
  by_cases hd : depthN k = 0
  · rw [hd] at HDp
    simp only [decide_true] at HDp
    clear hd hv ht ho hk hD
    go_enter Tryz.func8, Tryz.ntmps8
    go_wp2_with (first | (with_reducible refine wpl_id ?_; refine wpl_load rfl _ rfl _ rfl (by ((repeat' (first | with_reducible (first | exact Hid.out (by assumption) | apply Box.set | exact Box.new _ _ | apply Box.other | apply Box.alloc | apply Box.drew | apply Box.drewN) | omega)); done)) ?_) | (go_at_call 9; refine (HDp.out _ HB.out).mono ?_; rintro e w1 ⟨rfl, hb1⟩; have HB1 := hide (HB.out.trans (hb1.mono HB.out.size)); clear hb1) | (go_at_call 10; refine (HL.out _).mono ?_; rintro e w2 ⟨rfl, hb2⟩; have HB2 := hide (HB1.out.trans (hb2.mono HB1.out.size)); clear hb2))
    go_ret
    exact ⟨rfl, HB2.out⟩
  · have hde : decide (depthN k = 0) = false := by simpa using hd
    rw [hde] at HDp
    obtain ⟨hm, hdp⟩ := depth_bounds hd
    have hF : Fine w D h k (.slice a n cap) := ⟨hD, hk, hm, hv, ht, ho⟩
    have HM : Hid (∀ W : World, Below w.heap.size w W → Calls Tryz.prog 12 #[.agg (hdC h (.slice a n cap)).toArray, .agg #[.int .i64 ek, .int .i64 ea, .int .i64 en]] W fun e w' => ∃ a' n' cap', e = .returned (.tuple #[.agg (hdC (doneH (moveD ek ea en) (doE (checkN h k) (Pla.editB ek ea en)) h) (.slice a' n' cap')).toArray, .int .i64 (doE (checkN h k) (Pla.editB ek ea en))]) ∧ Kv w' (fun c => c < w'.heap.size) (.slice a' n' cap') (doneK (moveD ek ea en) (doE (checkN h k) (Pla.editB ek ea en)) h k) ∧ Below W.heap.size W w') := fun W hW => move_all D h k a n cap ek ea en W (hF.below hW)
    have HS : Hid (∀ W : World, Below w.heap.size w W → Calls Tryz.prog 17 #[.agg (hdC h (.slice a n cap)).toArray, .int .i64 dr, .int .i64 dc] W fun e w' => ∃ a' n' cap', e = .returned (.tuple #[.agg (hdC (doneH (shiftD dr dc) (doE (checkN h k) (withB dr 1048576 && withB dc 16384)) h) (.slice a' n' cap')).toArray, .int .i64 (doE (checkN h k) (withB dr 1048576 && withB dc 16384))]) ∧ Kv w' (fun c => c < w'.heap.size) (.slice a' n' cap') (doneK (shiftD dr dc) (doE (checkN h k) (withB dr 1048576 && withB dc 16384)) h k) ∧ Below W.heap.size W w') := fun W hW => shift_all D h k a n cap dr dc W (hF.below hW)
    have hx : ((doE (checkN h k) (Pla.editB ek ea en) != 0) = true) ∨ (doE (checkN h k) (Pla.editB ek ea en) = 0 ∧ (goneH h (doneH (moveD ek ea en) 0 h) ∨ (keptH h (doneH (moveD ek ea en) 0 h) ∧ shF k (doneK (moveD ek ea en) 0 h k)))) := by
      by_cases e : doE (checkN h k) (Pla.editB ek ea en) = 0
      · exact .inr ⟨e, kept_node _ h k (check_rightN (doE_zero e).1)⟩
      · exact .inl (by simpa using e)
    have hy : ((doE (checkN h k) (withB dr 1048576 && withB dc 16384) != 0) = true) ∨ (doE (checkN h k) (withB dr 1048576 && withB dc 16384) = 0 ∧ (goneH h (doneH (shiftD dr dc) 0 h) ∨ (keptH h (doneH (shiftD dr dc) 0 h) ∧ shF k (doneK (shiftD dr dc) 0 h k)))) := by
      by_cases e : doE (checkN h k) (withB dr 1048576 && withB dc 16384) = 0
      · exact .inr ⟨e, kept_node _ h k (check_rightN (doE_zero e).1)⟩
      · exact .inl (by simpa using e)
    generalize doE (checkN h k) (Pla.editB ek ea en) = X at *
    generalize doE (checkN h k) (withB dr 1048576 && withB dc 16384) = Y at *
    have HSh : Hid (∀ (h' : Hd) (k' : Fo), (goneH h h' ∨ (keptH h h' ∧ shF k k')) → ∀ (W : World) (a' : Option Addr) (n' cap' : Nat), Below w.heap.size w W → Kv W (fun c => c < W.heap.size) (.slice a' n' cap') k' → Calls Tryz.prog 26 #[.agg (hdC h (.slice a n cap)).toArray, .agg (hdC h' (.slice a' n' cap')).toArray] W fun e w' => e = .returned (.bool true) ∧ Below W.heap.size W w') := fun h' k' hq W a' n' cap' hW hk' => shape_any h k h' k' hq D (fun c => c < W.heap.size) _ _ W (fun c hc => Nat.lt_of_lt_of_le (hD c hc) hW.size) (fun c hc => hc) (kv_to hk (fun b hb => ⟨hb, hW.block b (hD b hb)⟩)) hk'
    clear hF hv ht ho hk hD hde hd hm hdp
    rcases hx with hx | ⟨rfl, hx⟩ <;> rcases hy with hy | ⟨rfl, hy⟩
    · skip
      generalize doneH (moveD ek ea en) X h = HA at *
      generalize doneK (moveD ek ea en) X h k = KA at *
      generalize doneH (shiftD dr dc) Y h = HC at *
      generalize doneK (shiftD dr dc) Y h k = KC at *
      have HG0 : Hid (0 = 0) := hide rfl
      go_enter Tryz.func8, Tryz.ntmps8
      go_wp2_with (first | (with_reducible refine wpl_id ?_; refine wpl_load rfl _ rfl _ rfl (by ((repeat' (first | with_reducible (first | exact Hid.out (by assumption) | apply Box.set | exact Box.new _ _ | apply Box.other | apply Box.alloc | apply Box.drew | apply Box.drewN) | omega)); done)) ?_) | (with_reducible refine wpl_id ?_; refine wpl_loadW rfl _ rfl _ rfl (by ((repeat' (first | with_reducible (first | exact Hid.out (by assumption) | apply Box.set | exact Box.new _ _ | apply Box.other | apply Box.alloc | apply Box.drew | apply Box.drewN) | omega)); done)) ?_) | (have hneed := HG0; go_at_call 9; refine (HDp.out _ HB.out).mono ?_; rintro e w1 ⟨rfl, hb1⟩; have HB1 := hide (HB.out.trans (hb1.mono HB.out.size)); have HX1 := hide (HX.out.below hb1); have HE1 := hide (HE3.out.below hb1); have ⟨g0, g1, g2, g3⟩ := HE1.out; clear hb1 HX HB HE3 hneed HG0; have HG1 : Hid (0 = 0) := hide rfl) | (have hneed := HG1; go_at_call 12; refine (HM.out _ HB1.out).mono ?_; rintro e w2 ⟨a2, n2, c2, rfl, hk2, hb2⟩; have HN2 := hide (Nb.new (h := HA) hk2); have HA2 := hide HN2.out.box; have HX2 := hide ((HX1.out.below hb2).alloc (.cells (hdC HA (.slice a2 n2 c2)).toArray 33)); have HB2 := hide ((HB1.out.trans (hb2.mono HB1.out.size)).alloc (HB1.out.trans (hb2.mono HB1.out.size)).size (.cells (hdC HA (.slice a2 n2 c2)).toArray 33)); clear hb2 hk2 HX1 HB1 hneed HG1 g0 g1 g2 g3 HE1; have HG2 : Hid (0 = 0) := hide rfl) | (have hneed := HG2; go_at_call 17; refine (HS.out _ HB2.out).mono ?_; rintro e w3 ⟨a3, n3, c3, rfl, hk3, hb3⟩; have HN3 := hide (Nb.new (h := HC) hk3); have HA3 := hide HN3.out.box; have HN4 := hide ((HN2.out.below hb3).alloc (.cells (hdC HC (.slice a3 n3 c3)).toArray 33)); have HA4 := hide HN4.out.box; have HX3 := hide ((HX2.out.below hb3).alloc (.cells (hdC HC (.slice a3 n3 c3)).toArray 33)); have HB3 := hide ((HB2.out.trans (hb3.mono HB2.out.size)).alloc (HB2.out.trans (hb3.mono HB2.out.size)).size (.cells (hdC HC (.slice a3 n3 c3)).toArray 33)); clear hb3 hk3 HX2 HB2 HA2 HN2 hneed HG2; have HG3 : Hid (0 = 0) := hide rfl) | (with_reducible refine wpl_id ?_; refine wpl_newN rfl _ _ rfl rfl rfl rfl ?_) | (have hneed := HG3; go_at_call 10; refine (HL.out _).mono ?_; rintro e w6 ⟨rfl, hb6⟩; have HB6 := hide (HB3.out.trans (hb6.mono HB3.out.size)); clear hb6 hneed HG3))
      go_ret
      exact ⟨rfl, HB6.out⟩
    · have HQ2 := hide hy
      clear hy
      generalize doneH (moveD ek ea en) X h = HA at *
      generalize doneK (moveD ek ea en) X h k = KA at *
      generalize doneH (shiftD dr dc) 0 h = HC at *
      generalize doneK (shiftD dr dc) 0 h k = KC at *
      have HG0 : Hid (0 = 0) := hide rfl
      go_enter Tryz.func8, Tryz.ntmps8
      go_wp2_with (first | (with_reducible refine wpl_id ?_; refine wpl_load rfl _ rfl _ rfl (by ((repeat' (first | with_reducible (first | exact Hid.out (by assumption) | apply Box.set | exact Box.new _ _ | apply Box.other | apply Box.alloc | apply Box.drew | apply Box.drewN) | omega)); done)) ?_) | (with_reducible refine wpl_id ?_; refine wpl_loadW rfl _ rfl _ rfl (by ((repeat' (first | with_reducible (first | exact Hid.out (by assumption) | apply Box.set | exact Box.new _ _ | apply Box.other | apply Box.alloc | apply Box.drew | apply Box.drewN) | omega)); done)) ?_) | (have hneed := HG0; go_at_call 9; refine (HDp.out _ HB.out).mono ?_; rintro e w1 ⟨rfl, hb1⟩; have HB1 := hide (HB.out.trans (hb1.mono HB.out.size)); have HX1 := hide (HX.out.below hb1); have HE1 := hide (HE3.out.below hb1); have ⟨g0, g1, g2, g3⟩ := HE1.out; clear hb1 HX HB HE3 hneed HG0; have HG1 : Hid (0 = 0) := hide rfl) | (have hneed := HG1; go_at_call 12; refine (HM.out _ HB1.out).mono ?_; rintro e w2 ⟨a2, n2, c2, rfl, hk2, hb2⟩; have HN2 := hide (Nb.new (h := HA) hk2); have HA2 := hide HN2.out.box; have HX2 := hide ((HX1.out.below hb2).alloc (.cells (hdC HA (.slice a2 n2 c2)).toArray 33)); have HB2 := hide ((HB1.out.trans (hb2.mono HB1.out.size)).alloc (HB1.out.trans (hb2.mono HB1.out.size)).size (.cells (hdC HA (.slice a2 n2 c2)).toArray 33)); clear hb2 hk2 HX1 HB1 hneed HG1 g0 g1 g2 g3 HE1; have HG2 : Hid (0 = 0) := hide rfl) | (have hneed := HG2; go_at_call 17; refine (HS.out _ HB2.out).mono ?_; rintro e w3 ⟨a3, n3, c3, rfl, hk3, hb3⟩; have HN3 := hide (Nb.new (h := HC) hk3); have HA3 := hide HN3.out.box; have HN4 := hide ((HN2.out.below hb3).alloc (.cells (hdC HC (.slice a3 n3 c3)).toArray 33)); have HA4 := hide HN4.out.box; have HX3 := hide ((HX2.out.below hb3).alloc (.cells (hdC HC (.slice a3 n3 c3)).toArray 33)); have HB3 := hide ((HB2.out.trans (hb3.mono HB2.out.size)).alloc (HB2.out.trans (hb3.mono HB2.out.size)).size (.cells (hdC HC (.slice a3 n3 c3)).toArray 33)); clear hb3 hk3 HX2 HB2 HA2 HN2 hneed HG2; have HG3 : Hid (0 = 0) := hide rfl) | (with_reducible refine wpl_id ?_; refine wpl_newN rfl _ _ rfl rfl rfl rfl ?_) | (have hneed := HG3; go_at_call 26; refine (HSh.out _ _ HQ2.out _ _ _ _ HB3.out HN3.out.kv).mono ?_; rintro e w5 ⟨rfl, hb5⟩; have HB5 := hide (HB3.out.trans (hb5.mono HB3.out.size)); clear HN3 HA3 HX3 hb5 hneed HG3; have HG5 : Hid (0 = 0) := hide rfl) | (have hneed := HG5; go_at_call 10; refine (HL.out _).mono ?_; rintro e w6 ⟨rfl, hb6⟩; have HB6 := hide (HB5.out.trans (hb6.mono HB5.out.size)); clear hb6 hneed HG5))
      go_ret
      exact ⟨rfl, HB6.out⟩
    · have HQ1 := hide hx
      clear hx
      skip
      generalize doneH (moveD ek ea en) 0 h = HA at *
      generalize doneK (moveD ek ea en) 0 h k = KA at *
      generalize doneH (shiftD dr dc) Y h = HC at *
      generalize doneK (shiftD dr dc) Y h k = KC at *
      have HG0 : Hid (0 = 0) := hide rfl
      go_enter Tryz.func8, Tryz.ntmps8
      go_wp2_with (first | (with_reducible refine wpl_id ?_; refine wpl_load rfl _ rfl _ rfl (by ((repeat' (first | with_reducible (first | exact Hid.out (by assumption) | apply Box.set | exact Box.new _ _ | apply Box.other | apply Box.alloc | apply Box.drew | apply Box.drewN) | omega)); done)) ?_) | (with_reducible refine wpl_id ?_; refine wpl_loadW rfl _ rfl _ rfl (by ((repeat' (first | with_reducible (first | exact Hid.out (by assumption) | apply Box.set | exact Box.new _ _ | apply Box.other | apply Box.alloc | apply Box.drew | apply Box.drewN) | omega)); done)) ?_) | (have hneed := HG0; go_at_call 9; refine (HDp.out _ HB.out).mono ?_; rintro e w1 ⟨rfl, hb1⟩; have HB1 := hide (HB.out.trans (hb1.mono HB.out.size)); have HX1 := hide (HX.out.below hb1); have HE1 := hide (HE3.out.below hb1); have ⟨g0, g1, g2, g3⟩ := HE1.out; clear hb1 HX HB HE3 hneed HG0; have HG1 : Hid (0 = 0) := hide rfl) | (have hneed := HG1; go_at_call 12; refine (HM.out _ HB1.out).mono ?_; rintro e w2 ⟨a2, n2, c2, rfl, hk2, hb2⟩; have HN2 := hide (Nb.new (h := HA) hk2); have HA2 := hide HN2.out.box; have HX2 := hide ((HX1.out.below hb2).alloc (.cells (hdC HA (.slice a2 n2 c2)).toArray 33)); have HB2 := hide ((HB1.out.trans (hb2.mono HB1.out.size)).alloc (HB1.out.trans (hb2.mono HB1.out.size)).size (.cells (hdC HA (.slice a2 n2 c2)).toArray 33)); clear hb2 hk2 HX1 HB1 hneed HG1 g0 g1 g2 g3 HE1; have HG2 : Hid (0 = 0) := hide rfl) | (have hneed := HG2; go_at_call 17; refine (HS.out _ HB2.out).mono ?_; rintro e w3 ⟨a3, n3, c3, rfl, hk3, hb3⟩; have HN3 := hide (Nb.new (h := HC) hk3); have HA3 := hide HN3.out.box; have HN4 := hide ((HN2.out.below hb3).alloc (.cells (hdC HC (.slice a3 n3 c3)).toArray 33)); have HA4 := hide HN4.out.box; have HX3 := hide ((HX2.out.below hb3).alloc (.cells (hdC HC (.slice a3 n3 c3)).toArray 33)); have HB3 := hide ((HB2.out.trans (hb3.mono HB2.out.size)).alloc (HB2.out.trans (hb3.mono HB2.out.size)).size (.cells (hdC HC (.slice a3 n3 c3)).toArray 33)); clear hb3 hk3 HX2 HB2 HA2 HN2 hneed HG2; have HG3 : Hid (0 = 0) := hide rfl) | (with_reducible refine wpl_id ?_; refine wpl_newN rfl _ _ rfl rfl rfl rfl ?_) | (have hneed := HG3; go_at_call 26; refine (HSh.out _ _ HQ1.out _ _ _ _ HB3.out HN4.out.kv).mono ?_; rintro e w4 ⟨rfl, hb4⟩; have HN3x := hide (HN3.out.below hb4); clear HN3 HA3; have HN3 := HN3x; clear HN3x; have HA3 := hide HN3.out.box; have HX3x := hide (HX3.out.below hb4); clear HX3; have HX3 := HX3x; clear HX3x; have HB4 := hide (HB3.out.trans (hb4.mono HB3.out.size)); clear HN4 HA4 hb4 hneed HG3; have HG4 : Hid (0 = 0) := hide rfl) | (have hneed := HG4; go_at_call 10; refine (HL.out _).mono ?_; rintro e w6 ⟨rfl, hb6⟩; have HB6 := hide (HB4.out.trans (hb6.mono HB4.out.size)); clear hb6 hneed HG4))
      go_ret
      exact ⟨rfl, HB6.out⟩
    · have HQ1 := hide hx
      clear hx
      have HQ2 := hide hy
      clear hy
      generalize doneH (moveD ek ea en) 0 h = HA at *
      generalize doneK (moveD ek ea en) 0 h k = KA at *
      generalize doneH (shiftD dr dc) 0 h = HC at *
      generalize doneK (shiftD dr dc) 0 h k = KC at *
      have HG0 : Hid (0 = 0) := hide rfl
      go_enter Tryz.func8, Tryz.ntmps8
      go_wp2_with (first | (with_reducible refine wpl_id ?_; refine wpl_load rfl _ rfl _ rfl (by ((repeat' (first | with_reducible (first | exact Hid.out (by assumption) | apply Box.set | exact Box.new _ _ | apply Box.other | apply Box.alloc | apply Box.drew | apply Box.drewN) | omega)); done)) ?_) | (with_reducible refine wpl_id ?_; refine wpl_loadW rfl _ rfl _ rfl (by ((repeat' (first | with_reducible (first | exact Hid.out (by assumption) | apply Box.set | exact Box.new _ _ | apply Box.other | apply Box.alloc | apply Box.drew | apply Box.drewN) | omega)); done)) ?_) | (have hneed := HG0; go_at_call 9; refine (HDp.out _ HB.out).mono ?_; rintro e w1 ⟨rfl, hb1⟩; have HB1 := hide (HB.out.trans (hb1.mono HB.out.size)); have HX1 := hide (HX.out.below hb1); have HE1 := hide (HE3.out.below hb1); have ⟨g0, g1, g2, g3⟩ := HE1.out; clear hb1 HX HB HE3 hneed HG0; have HG1 : Hid (0 = 0) := hide rfl) | (have hneed := HG1; go_at_call 12; refine (HM.out _ HB1.out).mono ?_; rintro e w2 ⟨a2, n2, c2, rfl, hk2, hb2⟩; have HN2 := hide (Nb.new (h := HA) hk2); have HA2 := hide HN2.out.box; have HX2 := hide ((HX1.out.below hb2).alloc (.cells (hdC HA (.slice a2 n2 c2)).toArray 33)); have HB2 := hide ((HB1.out.trans (hb2.mono HB1.out.size)).alloc (HB1.out.trans (hb2.mono HB1.out.size)).size (.cells (hdC HA (.slice a2 n2 c2)).toArray 33)); clear hb2 hk2 HX1 HB1 hneed HG1 g0 g1 g2 g3 HE1; have HG2 : Hid (0 = 0) := hide rfl) | (have hneed := HG2; go_at_call 17; refine (HS.out _ HB2.out).mono ?_; rintro e w3 ⟨a3, n3, c3, rfl, hk3, hb3⟩; have HN3 := hide (Nb.new (h := HC) hk3); have HA3 := hide HN3.out.box; have HN4 := hide ((HN2.out.below hb3).alloc (.cells (hdC HC (.slice a3 n3 c3)).toArray 33)); have HA4 := hide HN4.out.box; have HX3 := hide ((HX2.out.below hb3).alloc (.cells (hdC HC (.slice a3 n3 c3)).toArray 33)); have HB3 := hide ((HB2.out.trans (hb3.mono HB2.out.size)).alloc (HB2.out.trans (hb3.mono HB2.out.size)).size (.cells (hdC HC (.slice a3 n3 c3)).toArray 33)); clear hb3 hk3 HX2 HB2 HA2 HN2 hneed HG2; have HG3 : Hid (0 = 0) := hide rfl) | (with_reducible refine wpl_id ?_; refine wpl_newN rfl _ _ rfl rfl rfl rfl ?_) | (have hneed := HG3; go_at_call 26; refine (HSh.out _ _ HQ1.out _ _ _ _ HB3.out HN4.out.kv).mono ?_; rintro e w4 ⟨rfl, hb4⟩; have HN3x := hide (HN3.out.below hb4); clear HN3 HA3; have HN3 := HN3x; clear HN3x; have HA3 := hide HN3.out.box; have HX3x := hide (HX3.out.below hb4); clear HX3; have HX3 := HX3x; clear HX3x; have HB4 := hide (HB3.out.trans (hb4.mono HB3.out.size)); clear HN4 HA4 hb4 hneed HG3; have HG4 : Hid (0 = 0) := hide rfl) | (have hneed := HG4; go_at_call 26; refine (HSh.out _ _ HQ2.out _ _ _ _ HB4.out HN3.out.kv).mono ?_; rintro e w5 ⟨rfl, hb5⟩; have HB5 := hide (HB4.out.trans (hb5.mono HB4.out.size)); clear HN3 HA3 HX3 hb5 hneed HG4; have HG5 : Hid (0 = 0) := hide rfl) | (have hneed := HG5; go_at_call 10; refine (HL.out _).mono ?_; rintro e w6 ⟨rfl, hb6⟩; have HB6 := hide (HB5.out.trans (hb6.mono HB5.out.size)); clear hb6 hneed HG5))
      go_ret
      exact ⟨rfl, HB6.out⟩
end Go.Proofs.YtfpmmckpobpokaaGreat
