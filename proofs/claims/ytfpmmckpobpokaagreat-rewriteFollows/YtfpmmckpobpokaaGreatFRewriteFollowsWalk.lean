/-
  The walk of RewriteFollows (made by followsgen.py).
-/
import Derived.Test.YtfpmmckpobpokaaGreatFRwB1
set_option maxRecDepth 100000
set_option maxHeartbeats 4000000
namespace Go.Proofs.YtfpmmckpobpokaaGreat
open Go.RowKit
theorem depth_bounds {k : Fo} (hd : depthN k ≠ 0) : k.many + 1 ≤ 4096 ∧ k.deep + 1 ≤ 160 := by
  unfold depthN at hd
  by_cases hq : k.many + 1 ≤ 4096 ∧ k.deep + 1 ≤ 160
  · exact hq
  · rw [if_neg hq] at hd
    exact absurd rfl hd
theorem any_take {α : Type} (f : α → Bool) (l : List α) (i : Nat) (x : α) (hx : l[i]? = some x) : (l.take (i + 1)).any f = ((l.take i).any f || f x) := by
 rw [List.take_add_one, hx]
 simp [List.any_append]
theorem rewriteFollows_walk (D : Nat → Prop) (h : Hd) (k : Fo) (a : Option Addr) (n cap : Nat) (ek ea en r c : Int) (w : World) (hD : ∀ c, D c → c < w.heap.size) (hk : Kv w D (.slice a n cap) k) (hv : h.vs.length ≤ maxLen) (ht : h.txt.length ≤ maxLen) (ho : okF k) :
    Calls Tryz.prog 5 #[.agg (hdC h (.slice a n cap)).toArray, .agg #[.int .i64 ek, .int .i64 ea, .int .i64 en], .agg #[.int .i64 r, .int .i64 c]] w fun e w' => e = .returned (.bool true) ∧ Below w.heap.size w w' := by
  have HDp : Hid (∀ W : World, Below w.heap.size w W → Calls Tryz.prog 9 #[.agg (hdC h (.slice a n cap)).toArray] W fun e w' => e = .returned (.bool (decide (depthN k = 0))) ∧ Below W.heap.size W w') := fun W hW => deep10_any D h k a n cap W (fun c hc => Nat.lt_of_lt_of_le (hD c hc) hW.size) (kv_to hk (fun b hb => ⟨hb, hW.block b (hD b hb)⟩))
  have HL : Hid (∀ W : World, Calls Tryz.prog 10 #[] W fun e w' => e = .returned (.bool true) ∧ Below W.heap.size W w') := fun W => lives10_any W
  have HX0 := hide (((Box.new w (hdC h (.slice a n cap))).alloc (.cells #[.int .i64 ek, .int .i64 ea, .int .i64 en] 36)).alloc (.cells #[.int .i64 r, .int .i64 c] 28))
  have HB0 := hide ((((Below.refl _ w).alloc (Nat.le_refl _) (.cells (hdC h (.slice a n cap)).toArray 33)).alloc (by simp) (.cells #[.int .i64 ek, .int .i64 ea, .int .i64 en] 36)).alloc (by simp; omega) (.cells #[.int .i64 r, .int .i64 c] 28))
  have HE0 : Hid (Pla.At3 (((w.alloc (.cells (hdC h (.slice a n cap)).toArray 33)).alloc (.cells #[.int .i64 ek, .int .i64 ea, .int .i64 en] 36)).alloc (.cells #[.int .i64 r, .int .i64 c] 28)) (w.heap.size + 1) ek ea en) := by
    have := (Pla.At3.new (w.alloc (.cells (hdC h (.slice a n cap)).toArray 33)) ek ea en 36).alloc (.cells #[.int .i64 r, .int .i64 c] 28)
    exact hide (by simpa using this)
  have HA0 : Hid (Pla.At2 (((w.alloc (.cells (hdC h (.slice a n cap)).toArray 33)).alloc (.cells #[.int .i64 ek, .int .i64 ea, .int .i64 en] 36)).alloc (.cells #[.int .i64 r, .int .i64 c] 28)) (w.heap.size + 2) r c) := by
    have := Pla.At2.new ((w.alloc (.cells (hdC h (.slice a n cap)).toArray 33)).alloc (.cells #[.int .i64 ek, .int .i64 ea, .int .i64 en] 36)) r c 28
    exact hide (by simpa using this)
  have HG0 : Hid (0 = 0) := hide rfl
  by_cases hd : depthN k = 0
  · rw [hd] at HDp
    simp only [decide_true] at HDp
    clear hd hv ht ho hk hD
    have ⟨ez0, ez1, ez2, ez3⟩ := HE0.out; have ⟨az0, az1, az2⟩ := HA0.out
    go_enter Tryz.func5, Tryz.ntmps5
    go_wp2_with (first | (with_reducible refine wpl_id ?_; refine wpl_load rfl _ rfl _ rfl (by ((repeat' (first | with_reducible (first | exact Hid.out (by assumption) | apply Box.set | exact Box.new _ _ | apply Box.other | apply Box.alloc | apply Box.drew | apply Box.drewN) | omega)); done)) ?_) | (with_reducible refine wpl_id ?_; refine wpl_loadW rfl _ rfl _ rfl (by ((repeat' (first | with_reducible (first | exact Hid.out (by assumption) | apply Box.set | exact Box.new _ _ | apply Box.other | apply Box.alloc | apply Box.drew | apply Box.drewN) | omega)); done)) ?_) | (have hneed := HG0; go_at_call 9; refine (HDp.out _ HB0.out).mono ?_; rintro e w1 ⟨rfl, hb⟩; have HX1 := hide (HX0.out.below hb); have HE1 := hide (HE0.out.below hb); have HA1 := hide (HA0.out.below hb); have HB1 := hide (HB0.out.trans (hb.mono HB0.out.size)); clear hb hneed HG0 HB0 HX0 HE0 ez0 ez1 ez2 ez3 HA0 az0 az1 az2; have ⟨ez0, ez1, ez2, ez3⟩ := HE1.out; have ⟨az0, az1, az2⟩ := HA1.out; have HG1 : Hid (0 = 0) := hide rfl) | (have hneed := HG1; go_at_call 10; refine (HL.out _).mono ?_; rintro e w2 ⟨rfl, hb⟩; have HX2 := hide (HX1.out.below hb); have HE2 := hide (HE1.out.below hb); have HA2 := hide (HA1.out.below hb); have HB2 := hide (HB1.out.trans (hb.mono HB1.out.size)); clear hb hneed HG1 HB1 HX1 HE1 ez0 ez1 ez2 ez3 HA1 az0 az1 az2; have ⟨ez0, ez1, ez2, ez3⟩ := HE2.out; have ⟨az0, az1, az2⟩ := HA2.out; have HG2 : Hid (0 = 0) := hide rfl))
    go_ret
    exact ⟨rfl, HB2.out⟩
  have hde : decide (depthN k = 0) = false := by simpa using hd
  rw [hde] at HDp
  obtain ⟨hm, hdp⟩ := depth_bounds hd
  have hF : Fine w D h k (.slice a n cap) := ⟨hD, hk, hm, hv, ht, ho⟩
  have HM : Hid (∀ W : World, Below w.heap.size w W → Calls Tryz.prog 12 #[.agg (hdC h (.slice a n cap)).toArray, .agg #[.int .i64 ek, .int .i64 ea, .int .i64 en]] W fun e w' => ∃ a' n' cap', e = .returned (.tuple #[.agg (hdC (doneH (moveD ek ea en) (doE (checkN h k) (Pla.editB ek ea en)) h) (.slice a' n' cap')).toArray, .int .i64 (doE (checkN h k) (Pla.editB ek ea en))]) ∧ Kv w' (fun c => c < w'.heap.size) (.slice a' n' cap') (doneK (moveD ek ea en) (doE (checkN h k) (Pla.editB ek ea en)) h k) ∧ Below W.heap.size W w') := fun W hW => move_all D h k a n cap ek ea en W (hF.below hW)
  have HSp : Hid (∀ W : World, Calls Tryz.prog 19 #[.agg #[.int .i64 ek, .int .i64 ea, .int .i64 en], .agg #[.int .i64 r, .int .i64 c]] W fun e w' => e = .returned (.tuple #[.agg #[.int .i64 (Pla.spotR ek ea en r c).1, .int .i64 (Pla.spotR ek ea en r c).2.1], .int .i64 (Pla.spotR ek ea en r c).2.2.1, .int .i64 (Pla.spotR ek ea en r c).2.2.2]) ∧ Below W.heap.size W w') := fun W => Pla.spot_any ek ea en r c W
  have key : ((doE (checkN h k) (Pla.editB ek ea en) != 0) = true ∨ (doE (checkN h k) (Pla.editB ek ea en) = 0 ∧ ((Pla.spotR ek ea en r c).2.2.2 != 0) = true) ∨ (doE (checkN h k) (Pla.editB ek ea en) = 0 ∧ (Pla.spotR ek ea en r c).2.2.2 = 0 ∧ ((Pla.spotR ek ea en r c).2.2.1 != 0) = true)) ∨ (checkN h k = 0 ∧ Pla.editB ek ea en = true ∧ ∃ u v, Pla.spotR ek ea en r c = (u, v, 0, 0)) := by
    by_cases x1 : doE (checkN h k) (Pla.editB ek ea en) = 0
    · by_cases x2 : (Pla.spotR ek ea en r c).2.2.2 = 0
      · by_cases x3 : (Pla.spotR ek ea en r c).2.2.1 = 0
        · exact .inr ⟨(doE_zero x1).1, (doE_zero x1).2, (Pla.spotR ek ea en r c).1, (Pla.spotR ek ea en r c).2.1, by rw [show Pla.spotR ek ea en r c = ((Pla.spotR ek ea en r c).1, (Pla.spotR ek ea en r c).2.1, (Pla.spotR ek ea en r c).2.2.1, (Pla.spotR ek ea en r c).2.2.2) from rfl, x2, x3]⟩
        · exact .inl (.inr (.inr ⟨x1, x2, by simpa using x3⟩))
      · exact .inl (.inr (.inl ⟨x1, by simpa using x2⟩))
    · exact .inl (.inl (by simpa using x1))
  rcases key with key | ⟨hc, he, u, v, hs⟩
  · generalize doE (checkN h k) (Pla.editB ek ea en) = X at *
    generalize doneH (moveD ek ea en) X h = H1 at *
    generalize doneK (moveD ek ea en) X h k = K1 at *
    generalize (Pla.spotR ek ea en r c).2.2.2 = Y at *
    generalize (Pla.spotR ek ea en r c).2.2.1 = F at *
    generalize (Pla.spotR ek ea en r c).1 = u at *
    generalize (Pla.spotR ek ea en r c).2.1 = v at *
    clear hd hv ht ho hk hD hde hm hdp hF
    rcases key with key | ⟨rfl, key⟩ | ⟨rfl, rfl, key⟩
    all_goals
      have ⟨ez0, ez1, ez2, ez3⟩ := HE0.out; have ⟨az0, az1, az2⟩ := HA0.out
      go_enter Tryz.func5, Tryz.ntmps5
      go_wp2_with (first | (with_reducible refine wpl_id ?_; refine wpl_load rfl _ rfl _ rfl (by ((repeat' (first | with_reducible (first | exact Hid.out (by assumption) | apply Box.set | exact Box.new _ _ | apply Box.other | apply Box.alloc | apply Box.drew | apply Box.drewN) | omega)); done)) ?_) | (with_reducible refine wpl_id ?_; refine wpl_loadW rfl _ rfl _ rfl (by ((repeat' (first | with_reducible (first | exact Hid.out (by assumption) | apply Box.set | exact Box.new _ _ | apply Box.other | apply Box.alloc | apply Box.drew | apply Box.drewN) | omega)); done)) ?_) | (have hneed := HG0; go_at_call 9; refine (HDp.out _ HB0.out).mono ?_; rintro e w1 ⟨rfl, hb⟩; have HX1 := hide (HX0.out.below hb); have HE1 := hide (HE0.out.below hb); have HA1 := hide (HA0.out.below hb); have HB1 := hide (HB0.out.trans (hb.mono HB0.out.size)); clear hb hneed HG0 HB0 HX0 HE0 ez0 ez1 ez2 ez3 HA0 az0 az1 az2; have ⟨ez0, ez1, ez2, ez3⟩ := HE1.out; have ⟨az0, az1, az2⟩ := HA1.out; have HG1 : Hid (0 = 0) := hide rfl) | (have hneed := HG1; go_at_call 12; refine (HM.out _ HB1.out).mono ?_; rintro e w2 ⟨a2, n2, c2, rfl, hk2, hb⟩; have HX2 := hide ((HX1.out.below hb).alloc (.cells (hdC H1 (.slice a2 n2 c2)).toArray 33)); have HE2 := hide ((HE1.out.below hb).alloc (.cells (hdC H1 (.slice a2 n2 c2)).toArray 33)); have HA2 := hide ((HA1.out.below hb).alloc (.cells (hdC H1 (.slice a2 n2 c2)).toArray 33)); have HB2 := hide ((HB1.out.trans (hb.mono HB1.out.size)).alloc (HB1.out.trans (hb.mono HB1.out.size)).size (.cells (hdC H1 (.slice a2 n2 c2)).toArray 33)); have HN2 := hide (Nb.new (h := H1) hk2); clear hk2; clear hb hneed HG1 HB1 HX1 HE1 ez0 ez1 ez2 ez3 HA1 az0 az1 az2; have ⟨ez0, ez1, ez2, ez3⟩ := HE2.out; have ⟨az0, az1, az2⟩ := HA2.out; have HNb2 := hide HN2.out.box; have HG2 : Hid (0 = 0) := hide rfl) | (have hneed := HG2; go_at_call 19; refine (HSp.out _).mono ?_; rintro e w3 ⟨rfl, hb⟩; have HX3 := hide ((HX2.out.below hb).alloc (.cells #[.int .i64 u, .int .i64 v] 28)); have HE3 := hide ((HE2.out.below hb).alloc (.cells #[.int .i64 u, .int .i64 v] 28)); have HA3 := hide ((HA2.out.below hb).alloc (.cells #[.int .i64 u, .int .i64 v] 28)); have HN3 := hide ((HN2.out.below hb).alloc (.cells #[.int .i64 u, .int .i64 v] 28)); have HB3 := hide ((HB2.out.trans (hb.mono HB2.out.size)).alloc (HB2.out.trans (hb.mono HB2.out.size)).size (.cells #[.int .i64 u, .int .i64 v] 28)); have HT3 := hide (Pla.At2.new w3 u v 28); clear hb hneed HG2 HB2 HX2 HE2 ez0 ez1 ez2 ez3 HA2 az0 az1 az2 HN2 HNb2; have ⟨ez0, ez1, ez2, ez3⟩ := HE3.out; have ⟨az0, az1, az2⟩ := HA3.out; have HNb3 := hide HN3.out.box; have ⟨tz0, tz1, tz2⟩ := HT3.out; have HG3 : Hid (0 = 0) := hide rfl) | (have hneed := HG3; go_at_call 10; refine (HL.out _).mono ?_; rintro e w4 ⟨rfl, hb⟩; have HX4 := hide (HX3.out.below hb); have HE4 := hide (HE3.out.below hb); have HA4 := hide (HA3.out.below hb); have HN4 := hide (HN3.out.below hb); have HT4 := hide (HT3.out.below hb); have HB4 := hide (HB3.out.trans (hb.mono HB3.out.size)); clear hb hneed HG3 HB3 HX3 HE3 ez0 ez1 ez2 ez3 HA3 az0 az1 az2 HN3 HNb3 HT3 tz0 tz1 tz2; have ⟨ez0, ez1, ez2, ez3⟩ := HE4.out; have ⟨az0, az1, az2⟩ := HA4.out; have HNb4 := hide HN4.out.box; have ⟨tz0, tz1, tz2⟩ := HT4.out; have HG4 : Hid (0 = 0) := hide rfl) | (with_reducible refine wpl_id ?_; refine wpl_newN rfl _ _ rfl rfl rfl rfl ?_))
      go_ret
      exact ⟨rfl, HB4.out⟩
  · have hall := follow_all he hs h k hc
    obtain ⟨hc1, hm1⟩ := move_check he h k hc
    obtain ⟨hv1, ht1⟩ := rem_okH (moveD ek ea en) h ⟨hv, ht⟩
    have ho1 := rem_okK (moveD ek ea en) h k ho
    have hLn : (rectsN h k).length ≤ 4096 := Nat.le_trans (rectsN_len h k) hm
    have hMn : (rectsN (remH (moveD ek ea en) h) (remK (moveD ek ea en) h k)).length ≤ 4096 := Nat.le_trans (rectsN_len _ _) (by omega)
    rw [hc, he, show doE 0 true = 0 from rfl] at HM
    rw [show doneH (moveD ek ea en) 0 h = remH (moveD ek ea en) h from rfl, show doneK (moveD ek ea en) 0 h k = remK (moveD ek ea en) h k from rfl] at HM
    rw [hs] at HSp
    simp only at HSp
    have HRn : Hid (∀ W : World, Below w.heap.size w W → Calls Tryz.prog 20 #[.agg (hdC h (.slice a n cap)).toArray] W fun e w' => ∃ v, e = .returned (.tuple #[v, .int .i64 0]) ∧ Rcs w' v (rectsN h k) ∧ Below W.heap.size W w') := fun W hW => by
      refine (rects_any D h k a n cap W (fun c hc => Nat.lt_of_lt_of_le (hD c hc) hW.size) (kv_to hk (fun b hb => ⟨hb, hW.block b (hD b hb)⟩)) hm hv ht ho).mono ?_
      rintro e w' ⟨v, he, hown, hb⟩
      rw [hc] at he
      exact ⟨v, he, Rcs.of hown, hb⟩
    have HRm : Hid (∀ (W : World) (a' : Option Addr) (n' cap' : Nat), Kv W (fun c => c < W.heap.size) (.slice a' n' cap') (remK (moveD ek ea en) h k) → Calls Tryz.prog 20 #[.agg (hdC (remH (moveD ek ea en) h) (.slice a' n' cap')).toArray] W fun e w' => ∃ v, e = .returned (.tuple #[v, .int .i64 0]) ∧ Rcs w' v (rectsN (remH (moveD ek ea en) h) (remK (moveD ek ea en) h k)) ∧ Below W.heap.size W w') := fun W a' n' cap' hk' => by
      refine (rects_any (fun c => c < W.heap.size) _ _ a' n' cap' W (fun _ hc => hc) hk' (by omega) hv1 ht1 ho1).mono ?_
      rintro e w' ⟨v, he, hown, hb⟩
      rw [hc1] at he
      exact ⟨v, he, Rcs.of hown, hb⟩
    have HI : Hid (∀ (q : Int × Int × Int × Int) (x y : Int) (W : World), Calls Tryz.prog 21 #[.agg #[.int .i64 q.1, .int .i64 q.2.1, .int .i64 q.2.2.1, .int .i64 q.2.2.2], .agg #[.int .i64 x, .int .i64 y]] W fun e w' => e = .returned (.bool (inR q x y)) ∧ Below W.heap.size W w') := fun q x y W => Pla.in_any q.1 q.2.1 q.2.2.1 q.2.2.2 x y W
    have HALL := hide hall
    generalize rectsN h k = L at *
    generalize rectsN (remH (moveD ek ea en) h) (remK (moveD ek ea en) h k) = M at *
    generalize remH (moveD ek ea en) h = H1 at *
    generalize remK (moveD ek ea en) h k = K1 at *
    clear hd hv ht ho hk hD hde hm hdp hF hc he hs hall hc1 hm1 hv1 ht1 ho1
    have ⟨ez0, ez1, ez2, ez3⟩ := HE0.out; have ⟨az0, az1, az2⟩ := HA0.out
    go_enter Tryz.func5, Tryz.ntmps5
    go_wp2_with (first | (with_reducible refine wpl_id ?_; refine wpl_load rfl _ rfl _ rfl (by ((repeat' (first | with_reducible (first | exact Hid.out (by assumption) | apply Box.set | exact Box.new _ _ | apply Box.other | apply Box.alloc | apply Box.drew | apply Box.drewN) | omega)); done)) ?_) | (with_reducible refine wpl_id ?_; refine wpl_loadW rfl _ rfl _ rfl (by ((repeat' (first | with_reducible (first | exact Hid.out (by assumption) | apply Box.set | exact Box.new _ _ | apply Box.other | apply Box.alloc | apply Box.drew | apply Box.drewN) | omega)); done)) ?_) | (have hneed := HG0; go_at_call 9; refine (HDp.out _ HB0.out).mono ?_; rintro e w1 ⟨rfl, hb⟩; have HX1 := hide (HX0.out.below hb); have HE1 := hide (HE0.out.below hb); have HA1 := hide (HA0.out.below hb); have HB1 := hide (HB0.out.trans (hb.mono HB0.out.size)); clear hb hneed HG0 HB0 HX0 HE0 ez0 ez1 ez2 ez3 HA0 az0 az1 az2; have ⟨ez0, ez1, ez2, ez3⟩ := HE1.out; have ⟨az0, az1, az2⟩ := HA1.out; have HG1 : Hid (0 = 0) := hide rfl) | (have hneed := HG1; go_at_call 12; refine (HM.out _ HB1.out).mono ?_; rintro e w2 ⟨a2, n2, c2, rfl, hk2, hb⟩; have HX2 := hide ((HX1.out.below hb).alloc (.cells (hdC H1 (.slice a2 n2 c2)).toArray 33)); have HE2 := hide ((HE1.out.below hb).alloc (.cells (hdC H1 (.slice a2 n2 c2)).toArray 33)); have HA2 := hide ((HA1.out.below hb).alloc (.cells (hdC H1 (.slice a2 n2 c2)).toArray 33)); have HB2 := hide ((HB1.out.trans (hb.mono HB1.out.size)).alloc (HB1.out.trans (hb.mono HB1.out.size)).size (.cells (hdC H1 (.slice a2 n2 c2)).toArray 33)); have HN2 := hide (Nb.new (h := H1) hk2); clear hk2; clear hb hneed HG1 HB1 HX1 HE1 ez0 ez1 ez2 ez3 HA1 az0 az1 az2; have ⟨ez0, ez1, ez2, ez3⟩ := HE2.out; have ⟨az0, az1, az2⟩ := HA2.out; have HNb2 := hide HN2.out.box; have HG2 : Hid (0 = 0) := hide rfl) | (have hneed := HG2; go_at_call 19; refine (HSp.out _).mono ?_; rintro e w3 ⟨rfl, hb⟩; have HX3 := hide ((HX2.out.below hb).alloc (.cells #[.int .i64 u, .int .i64 v] 28)); have HE3 := hide ((HE2.out.below hb).alloc (.cells #[.int .i64 u, .int .i64 v] 28)); have HA3 := hide ((HA2.out.below hb).alloc (.cells #[.int .i64 u, .int .i64 v] 28)); have HN3 := hide ((HN2.out.below hb).alloc (.cells #[.int .i64 u, .int .i64 v] 28)); have HB3 := hide ((HB2.out.trans (hb.mono HB2.out.size)).alloc (HB2.out.trans (hb.mono HB2.out.size)).size (.cells #[.int .i64 u, .int .i64 v] 28)); have HT3 := hide (Pla.At2.new w3 u v 28); clear hb hneed HG2 HB2 HX2 HE2 ez0 ez1 ez2 ez3 HA2 az0 az1 az2 HN2 HNb2; have ⟨ez0, ez1, ez2, ez3⟩ := HE3.out; have ⟨az0, az1, az2⟩ := HA3.out; have HNb3 := hide HN3.out.box; have ⟨tz0, tz1, tz2⟩ := HT3.out; have HG3 : Hid (0 = 0) := hide rfl) | (have hneed := HG3; go_at_call 20; refine (HRn.out _ HB3.out).mono ?_; rintro e w4 ⟨_, rfl, ⟨pL, capL, rfl, hcL⟩, hb⟩; have HX4 := hide (HX3.out.below hb); have HE4 := hide (HE3.out.below hb); have HA4 := hide (HA3.out.below hb); have HN4 := hide (HN3.out.below hb); have HT4 := hide (HT3.out.below hb); have HB4 := hide (HB3.out.trans (hb.mono HB3.out.size)); have HCL := hide hcL; clear hcL; clear hb hneed HG3 HB3 HX3 HE3 ez0 ez1 ez2 ez3 HA3 az0 az1 az2 HN3 HNb3 HT3 tz0 tz1 tz2; have ⟨ez0, ez1, ez2, ez3⟩ := HE4.out; have ⟨az0, az1, az2⟩ := HA4.out; have HNb4 := hide HN4.out.box; have ⟨tz0, tz1, tz2⟩ := HT4.out; have HG4 : Hid (0 = 0) := hide rfl) | (have hneed := HG4; go_at_call 20; refine (HRm.out _ _ _ _ HN4.out.kv).mono ?_; rintro e w5 ⟨_, rfl, ⟨pM, capM, rfl, hcM⟩, hb⟩; have HX5 := hide (HX4.out.below hb); have HE5 := hide (HE4.out.below hb); have HA5 := hide (HA4.out.below hb); have HN5 := hide (HN4.out.below hb); have HT5 := hide (HT4.out.below hb); have HB5 := hide (HB4.out.trans (hb.mono HB4.out.size)); have HCM := hide hcM; have H45 := hide hb; clear hcM; clear hb hneed HG4 HB4 HX4 HE4 ez0 ez1 ez2 ez3 HA4 az0 az1 az2 HN4 HNb4 HT4 tz0 tz1 tz2; have ⟨ez0, ez1, ez2, ez3⟩ := HE5.out; have ⟨az0, az1, az2⟩ := HA5.out; have HNb5 := hide HN5.out.box; have ⟨tz0, tz1, tz2⟩ := HT5.out; have HG5 : Hid (0 = 0) := hide rfl) | (with_reducible refine wpl_id ?_; refine wpl_newN rfl _ _ rfl rfl rfl rfl ?_))
    have HAc : Hid (∀ W, Below w5.heap.size w5 W → W.cell? ⟨w.heap.size + 2, 0, none⟩ = some (.int .i64 r) ∧ W.cell? ⟨w.heap.size + 2, 1, none⟩ = some (.int .i64 c)) := fun W hW => (HA5.out.below hW).2
    have HTc : Hid (∀ W, Below w5.heap.size w5 W → W.cell? ⟨w3.heap.size, 0, none⟩ = some (.int .i64 u) ∧ W.cell? ⟨w3.heap.size, 1, none⟩ = some (.int .i64 v)) := fun W hW => (HT5.out.below hW).2
    have HLc : Hid (∀ W, Below w5.heap.size w5 W → Below w4.heap.size w4 W) := fun W hW => H45.out.trans (hW.mono H45.out.size)
    clear HX5 HE5 HA5 HT5 HN5 HNb5 ez0 ez1 ez2 ez3 az0 az1 az2 tz0 tz1 tz2
    go_loopw [16, 18] (fun bv iv wr => ∃ i : Nat, iv = .int .i64 i ∧ bv = .bool ((L.take i).any (fun q => inR q r c)) ∧ i ≤ L.length ∧ Below w5.heap.size w5 wr) (fun _ iv _ => L.length - (intOf iv).toNat)
    case atStart => exact ⟨0, rfl, rfl, Nat.zero_le _, Below.refl _ _⟩
    case round =>
      obtain ⟨i, rfl, rfl, hi, hB⟩ := hrel
      by_cases hlt : i < L.length
      · have g1 : (i : Int) < L.length := by omega
        obtain ⟨ri, hri⟩ : ∃ ri, L[i]? = some ri := ⟨_, List.getElem?_eq_getElem hlt⟩
        have htk := any_take (fun q => inR q r c) L i ri hri
        rcases HCL.out with rfl | ⟨g, rfl, hg⟩
        · exact absurd hlt (by simp)
        have HS : Hid (∀ W, Below w5.heap.size w5 W → Below w5.heap.size w5 W ∧ W.cell? ⟨g, i * 4, none⟩ = some (.int .i64 ri.1) ∧ W.cell? ⟨g, i * 4 + 1, none⟩ = some (.int .i64 ri.2.1) ∧ W.cell? ⟨g, i * 4 + 2, none⟩ = some (.int .i64 ri.2.2.1) ∧ W.cell? ⟨g, i * 4 + 3, none⟩ = some (.int .i64 ri.2.2.2) ∧ W.cell? ⟨w.heap.size + 2, 0, none⟩ = some (.int .i64 r) ∧ W.cell? ⟨w.heap.size + 2, 1, none⟩ = some (.int .i64 c)) := fun W hW => by
          obtain ⟨a1, a2, a3, a4⟩ := hg W (HLc.out W hW) i ri hri
          exact ⟨hW, a1, a2, a3, a4, HAc.out W hW⟩
        have hs0 := HS.out wr hB
        have HBi := hide hB
        generalize (L.take i).any (fun q => inR q r c) = bt at *
        clear hB hg hri
        cases bt
        · have HTK : Hid ((L.take (i + 1)).any (fun q => inR q r c) = inR ri r c) := hide (by rw [htk]; rfl)
          clear htk
          go_wp2
          go_region_held3 (fun W => Below w5.heap.size w5 W ∧ W.cell? ⟨g, i * 4, none⟩ = some (.int .i64 ri.1) ∧ W.cell? ⟨g, i * 4 + 1, none⟩ = some (.int .i64 ri.2.1) ∧ W.cell? ⟨g, i * 4 + 2, none⟩ = some (.int .i64 ri.2.2.1) ∧ W.cell? ⟨g, i * 4 + 3, none⟩ = some (.int .i64 ri.2.2.2) ∧ W.cell? ⟨w.heap.size + 2, 0, none⟩ = some (.int .i64 r) ∧ W.cell? ⟨w.heap.size + 2, 1, none⟩ = some (.int .i64 c)) (first | assumption | (refine HS.out _ ?_; first | exact HBi.out.drew | exact And.left (by assumption))) (first | (go_at_call 21; refine (HI.out ri r c _).mono ?_; rintro e w6 ⟨rfl, hb6⟩; have hs6 := HS.out w6 (HBi.out.drew.trans (hb6.mono HBi.out.drew.size)); have HB6 := hide hs6.1; clear hb6))
          go_wp2
          go_roundw
          case rel => exact ⟨i + 1, by go_num, by rw [HTK.out], by omega, HB6.out⟩
          case measure => simp [intOf]; omega
        · have HTK : Hid ((L.take (i + 1)).any (fun q => inR q r c) = true) := hide (by rw [htk]; rfl)
          clear htk hs0
          go_wp2
          refine wp_region_held_drew (S := fun W => Below w5.heap.size w5 W) (by kernel_rfl) ?_ (fun hHeld => ?_)
          · exact HBi.out.drew
          refine takeF 0 (some 63) ?_; refine takeF 1 (some 64) ?_; (refine skipE (i := 2) (some 65) rfl rfl (by kernel_rfl) rfl (by assumption) ?_; try simp only [Act.put, pA, pB, pC]); (refine skipE (i := 3) (some 66) rfl rfl (by kernel_rfl) rfl (by assumption) ?_; try simp only [Act.put, pA, pB, pC]); (refine skipE (i := 4) (some 67) rfl rfl (by kernel_rfl) rfl (by assumption) ?_; try simp only [Act.put, pA, pB, pC]); (refine skipE (i := 5) (some 68) rfl rfl (by kernel_rfl) rfl (by assumption) ?_; try simp only [Act.put, pA, pB, pC]); (refine skipE (i := 6) (some 69) rfl rfl (by kernel_rfl) rfl (by assumption) ?_; try simp only [Act.put, pA, pB, pC]); (refine skipE (i := 7) (some 70) rfl rfl (by kernel_rfl) rfl (by assumption) ?_; try simp only [Act.put, pA, pB, pC]); refine takeF 8 (some 71) ?_; refine takeF 9 (some 16) ?_; refine wpAnyH_done (by kernel_rfl) ?_ _
          go_wp2
          go_roundw
          case rel => exact ⟨i + 1, by go_num, by rw [HTK.out], by omega, HBi.out.drew⟩
          case measure => simp [intOf]; omega
      · have g1 : ¬ (i : Int) < L.length := by omega
        obtain rfl : i = L.length := by omega
        rw [List.take_length] at *
        obtain ⟨bL, hbL⟩ : ∃ b, L.any (fun q => inR q r c) = b := ⟨_, rfl⟩
        simp only [hbL]
        have HbL := hide hbL
        have HB7 := hide hB
        clear hbL hB hlt hi
        obtain ⟨wo, rfl⟩ : ∃ wo : World, wo = wr := ⟨_, rfl⟩
        go_wp2
        go_loopw [17, 19] (fun bv iv wr => ∃ i : Nat, iv = .int .i64 i ∧ bv = .bool ((M.take i).any (fun q => inR q u v)) ∧ i ≤ M.length ∧ Below w5.heap.size w5 wr) (fun _ iv _ => M.length - (intOf iv).toNat)
        case atStart => exact ⟨0, rfl, rfl, Nat.zero_le _, HB7.out⟩
        case round =>
          obtain ⟨i, rfl, rfl, hi, hB⟩ := hrel
          by_cases hlt : i < M.length
          · have g1 : (i : Int) < M.length := by omega
            obtain ⟨ri, hri⟩ : ∃ ri, M[i]? = some ri := ⟨_, List.getElem?_eq_getElem hlt⟩
            have htk := any_take (fun q => inR q u v) M i ri hri
            rcases HCM.out with rfl | ⟨g, rfl, hg⟩
            · exact absurd hlt (by simp)
            have HS : Hid (∀ W, Below w5.heap.size w5 W → Below w5.heap.size w5 W ∧ W.cell? ⟨g, i * 4, none⟩ = some (.int .i64 ri.1) ∧ W.cell? ⟨g, i * 4 + 1, none⟩ = some (.int .i64 ri.2.1) ∧ W.cell? ⟨g, i * 4 + 2, none⟩ = some (.int .i64 ri.2.2.1) ∧ W.cell? ⟨g, i * 4 + 3, none⟩ = some (.int .i64 ri.2.2.2) ∧ W.cell? ⟨w3.heap.size, 0, none⟩ = some (.int .i64 u) ∧ W.cell? ⟨w3.heap.size, 1, none⟩ = some (.int .i64 v)) := fun W hW => by
              obtain ⟨a1, a2, a3, a4⟩ := hg W (hW) i ri hri
              exact ⟨hW, a1, a2, a3, a4, HTc.out W hW⟩
            have hs0 := HS.out wr hB
            have HBi := hide hB
            generalize (M.take i).any (fun q => inR q u v) = bt at *
            clear hB hg hri
            cases bt
            · have HTK : Hid ((M.take (i + 1)).any (fun q => inR q u v) = inR ri u v) := hide (by rw [htk]; rfl)
              clear htk
              go_wp2
              go_region_held3 (fun W => Below w5.heap.size w5 W ∧ W.cell? ⟨g, i * 4, none⟩ = some (.int .i64 ri.1) ∧ W.cell? ⟨g, i * 4 + 1, none⟩ = some (.int .i64 ri.2.1) ∧ W.cell? ⟨g, i * 4 + 2, none⟩ = some (.int .i64 ri.2.2.1) ∧ W.cell? ⟨g, i * 4 + 3, none⟩ = some (.int .i64 ri.2.2.2) ∧ W.cell? ⟨w3.heap.size, 0, none⟩ = some (.int .i64 u) ∧ W.cell? ⟨w3.heap.size, 1, none⟩ = some (.int .i64 v)) (first | assumption | (refine HS.out _ ?_; first | exact HBi.out.drew | exact And.left (by assumption))) (first | (go_at_call 21; refine (HI.out ri u v _).mono ?_; rintro e w6 ⟨rfl, hb6⟩; have hs6 := HS.out w6 (HBi.out.drew.trans (hb6.mono HBi.out.drew.size)); have HB6 := hide hs6.1; clear hb6))
              go_wp2
              go_roundw
              case rel => exact ⟨i + 1, by go_num, by rw [HTK.out], by omega, HB6.out⟩
              case measure => simp [intOf]; omega
            · have HTK : Hid ((M.take (i + 1)).any (fun q => inR q u v) = true) := hide (by rw [htk]; rfl)
              clear htk hs0
              go_wp2
              refine wp_region_held_drew (S := fun W => Below w5.heap.size w5 W) (by kernel_rfl) ?_ (fun hHeld => ?_)
              · exact HBi.out.drew
              refine takeF 0 (some 78) ?_; refine takeF 1 (some 79) ?_; (refine skipE (i := 2) (some 80) rfl rfl (by kernel_rfl) rfl (by assumption) ?_; try simp only [Act.put, pA, pB, pC]); (refine skipE (i := 3) (some 81) rfl rfl (by kernel_rfl) rfl (by assumption) ?_; try simp only [Act.put, pA, pB, pC]); (refine skipE (i := 4) (some 82) rfl rfl (by kernel_rfl) rfl (by assumption) ?_; try simp only [Act.put, pA, pB, pC]); (refine skipE (i := 5) (some 83) rfl rfl (by kernel_rfl) rfl (by assumption) ?_; try simp only [Act.put, pA, pB, pC]); (refine skipE (i := 6) (some 84) rfl rfl (by kernel_rfl) rfl (by assumption) ?_; try simp only [Act.put, pA, pB, pC]); (refine skipE (i := 7) (some 85) rfl rfl (by kernel_rfl) rfl (by assumption) ?_; try simp only [Act.put, pA, pB, pC]); refine takeF 8 (some 86) ?_; refine takeF 9 (some 17) ?_; refine wpAnyH_done (by kernel_rfl) ?_ _
              go_wp2
              go_roundw
              case rel => exact ⟨i + 1, by go_num, by rw [HTK.out], by omega, HBi.out.drew⟩
              case measure => simp [intOf]; omega
          · have g1 : ¬ (i : Int) < M.length := by omega
            obtain rfl : i = M.length := by omega
            rw [List.take_length] at *
            obtain ⟨bM, hbM⟩ : ∃ b, M.any (fun q => inR q u v) = b := ⟨_, rfl⟩
            have e1 : bM = bL := by rw [← hbM, ← HbL.out]; exact HALL.out
            subst e1
            simp only [hbM]
            have HB8 := hide hB
            have hbb : (bM == bM) = true := by simp
            clear hbM hB hlt hi
            go_wp2_with (go_at_call 10; refine (HL.out _).mono ?_; rintro e w9 ⟨rfl, hb9⟩; have HB9 := hide (HB8.out.trans (hb9.mono HB8.out.size)); clear hb9)
            go_ret
            exact ⟨rfl, HB5.out.trans (HB9.out.mono HB5.out.size)⟩
end Go.Proofs.YtfpmmckpobpokaaGreat
