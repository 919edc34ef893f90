/-
  The walk of RewriteBack (made by backwgen.py).
-/
import Derived.Test.YtfpmmckpobpokaaGreatBRwB2
import Derived.Test.YtfpmmckpobpokaaGreatBVMv9
set_option maxRecDepth 100000
set_option maxHeartbeats 4000000
namespace Go.Proofs.YtfpmmckpobpokaaGreat
open Go.RowKit
theorem depth_bounds {k : Fo} (hd : depthN k ≠ 0) : k.many + 1 ≤ 4096 ∧ k.deep + 1 ≤ 160 := by
 unfold depthN at hd
 by_cases hq : k.many + 1 ≤ 4096 ∧ k.deep + 1 ≤ 160
 ·
  exact hq
 ·
  rw [if_neg hq] at hd
  exact absurd rfl hd
theorem same_all_of {W : World} (h : Hd) (k : Fo) (v v2 : Value) (h1 : Kv W (fun c => c < W.heap.size) v k) (h2 : Kv W (fun c => c < W.heap.size) v2 k) :
  Calls Tryz.prog 16 #[.agg (hdC h v).toArray, .agg (hdC h v2).toArray] W fun e w' => e = .returned (.bool true) ∧ Below W.heap.size W w' := same_any k _ _ h v v2 W (fun _ hc => hc) (fun _ hc => hc) h1 h2
theorem clip_told {k a n t l b r : Int} (he : Pla.editB k a n = true) (hr : rightR (t, l, b, r)) : (Pla.clipR k a n t l b r).2 = 0 := by
 obtain ⟨h1, h2, h3, h4⟩ := hr
 simp only at h1 h2 h3 h4
 have p1 := Pla.placeB_iff.1 h1
 have p2 := Pla.placeB_iff.1 h2
 have hR : Pla.rightB t l b r = true := Pla.rightB_iff.2 (by omega)
 unfold Pla.clipR
 rw [he, hR]
 rfl
theorem rewriteBack_walk (D : Nat → Prop) (h : Hd) (k : Fo) (a : Option Addr) (n cap : Nat) (ek ea en : Int) (w : World) (hD : ∀ c, D c → c < w.heap.size) (hk : Kv w D (.slice a n cap) k) (hv : h.vs.length ≤ maxLen) (ht : h.txt.length ≤ maxLen) (ho : okF k) :
  Calls Tryz.prog 6 #[.agg (hdC h (.slice a n cap)).toArray, .agg #[.int .i64 ek, .int .i64 ea, .int .i64 en]] w fun e w' => e = .returned (.bool true) ∧ Below w.heap.size w w' := by
 have HDp : Hid (∀ W : World, Below w.heap.size w W → Calls Tryz.prog 9 #[.agg (hdC h (.slice a n cap)).toArray] W fun e w' => e = .returned (.bool (decide (depthN k = 0))) ∧ Below W.heap.size W w') := fun W hW => deep10_any D h k a n cap W (fun c hc => Nat.lt_of_lt_of_le (hD c hc) hW.size) (kv_to hk (fun b hb => ⟨hb, hW.block b (hD b hb)⟩))
 have HL : Hid (∀ W : World, Calls Tryz.prog 10 #[] W fun e w' => e = .returned (.bool true) ∧ Below W.heap.size W w') := fun W => lives10_any W
 have HX0 := hide ((Box.new w (hdC h (.slice a n cap))).alloc (.cells #[.int .i64 ek, .int .i64 ea, .int .i64 en] 36))
 have HB0 := hide (((Below.refl _ w).alloc (Nat.le_refl _) (.cells (hdC h (.slice a n cap)).toArray 33)).alloc (by simp) (.cells #[.int .i64 ek, .int .i64 ea, .int .i64 en] 36))
 have HE0 : Hid (Pla.At3 ((w.alloc (.cells (hdC h (.slice a n cap)).toArray 33)).alloc (.cells #[.int .i64 ek, .int .i64 ea, .int .i64 en] 36)) (w.heap.size + 1) ek ea en) := by
  have := Pla.At3.new (w.alloc (.cells (hdC h (.slice a n cap)).toArray 33)) ek ea en 36
  exact hide (by simpa using this)
 have HG0 : Hid (0 = 0) := hide rfl
 by_cases hd : depthN k = 0
 ·
  rw [hd] at HDp
  simp only [decide_true] at HDp
  clear hd hv ht ho hk hD
  have ⟨ez0, ez1, ez2, ez3⟩ := HE0.out
  go_enter Tryz.func6, Tryz.ntmps6
  go_wp2_with (first | (with_reducible refine wpl_id ?_; refine wpl_load rfl _ rfl _ rfl (by ((repeat' (first | with_reducible (first | exact Hid.out (by assumption) | apply Box.set | exact Box.new _ _ | apply Box.other | apply Box.alloc | apply Box.drew | apply Box.drewN) | omega)); done)) ?_) | (with_reducible refine wpl_id ?_; refine wpl_loadW rfl _ rfl _ rfl (by ((repeat' (first | with_reducible (first | exact Hid.out (by assumption) | apply Box.set | exact Box.new _ _ | apply Box.other | apply Box.alloc | apply Box.drew | apply Box.drewN) | omega)); done)) ?_) | (have hneed := HG0; go_at_call 9; refine (HDp.out _ HB0.out).mono ?_; rintro e w1 ⟨rfl, hb⟩; have HX1 := hide (HX0.out.below hb); have HE1 := hide (HE0.out.below hb); have HB1 := hide (HB0.out.trans (hb.mono HB0.out.size)); clear hb hneed HG0 HB0 HX0 HE0 ez0 ez1 ez2 ez3; have ⟨ez0, ez1, ez2, ez3⟩ := HE1.out; have HG1 : Hid (0 = 0) := hide rfl) | (have hneed := HG1; go_at_call 10; refine (HL.out _).mono ?_; rintro e w2 ⟨rfl, hb⟩; have HX2 := hide (HX1.out.below hb); have HE2 := hide (HE1.out.below hb); have HB2 := hide (HB1.out.trans (hb.mono HB1.out.size)); clear hb hneed HG1 HB1 HX1 HE1 ez0 ez1 ez2 ez3; have ⟨ez0, ez1, ez2, ez3⟩ := HE2.out; have HG2 : Hid (0 = 0) := hide rfl))
  go_ret
  exact ⟨rfl, HB2.out⟩
 have hde : decide (depthN k = 0) = false := by simpa using hd
 rw [hde] at HDp
 obtain ⟨hm, hdp⟩ := depth_bounds hd
 have hF : Fine w D h k (.slice a n cap) := ⟨hD, hk, hm, hv, ht, ho⟩
 by_cases hi : ek = 1 ∨ ek = 3
 case neg =>
  have k1 : (ek != 1) = true := by simpa using fun e => hi (.inl e)
  have k3 : (ek != 3) = true := by simpa using fun e => hi (.inr e)
  clear hd hv ht ho hk hD hde hm hdp hF hi
  have ⟨ez0, ez1, ez2, ez3⟩ := HE0.out
  go_enter Tryz.func6, Tryz.ntmps6
  go_wp2_with (first | (with_reducible refine wpl_id ?_; refine wpl_load rfl _ rfl _ rfl (by ((repeat' (first | with_reducible (first | exact Hid.out (by assumption) | apply Box.set | exact Box.new _ _ | apply Box.other | apply Box.alloc | apply Box.drew | apply Box.drewN) | omega)); done)) ?_) | (with_reducible refine wpl_id ?_; refine wpl_loadW rfl _ rfl _ rfl (by ((repeat' (first | with_reducible (first | exact Hid.out (by assumption) | apply Box.set | exact Box.new _ _ | apply Box.other | apply Box.alloc | apply Box.drew | apply Box.drewN) | omega)); done)) ?_) | (have hneed := HG0; go_at_call 9; refine (HDp.out _ HB0.out).mono ?_; rintro e w1 ⟨rfl, hb⟩; have HX1 := hide (HX0.out.below hb); have HE1 := hide (HE0.out.below hb); have HB1 := hide (HB0.out.trans (hb.mono HB0.out.size)); clear hb hneed HG0 HB0 HX0 HE0 ez0 ez1 ez2 ez3; have ⟨ez0, ez1, ez2, ez3⟩ := HE1.out; have HG1 : Hid (0 = 0) := hide rfl) | (have hneed := HG1; go_at_call 10; refine (HL.out _).mono ?_; rintro e w2 ⟨rfl, hb⟩; have HX2 := hide (HX1.out.below hb); have HE2 := hide (HE1.out.below hb); have HB2 := hide (HB1.out.trans (hb.mono HB1.out.size)); clear hb hneed HG1 HB1 HX1 HE1 ez0 ez1 ez2 ez3; have ⟨ez0, ez1, ez2, ez3⟩ := HE2.out; have HG2 : Hid (0 = 0) := hide rfl))
  go_ret
  exact ⟨rfl, HB2.out⟩
 have hins : Pla.insB ek = true := by rcases hi with rfl | rfl <;> rfl
 have hik : (ek != 1) = false ∨ ((ek != 1) = true ∧ (ek != 3) = false) := by
  rcases hi with rfl | rfl
  ·
   exact .inl rfl
  ·
   exact .inr ⟨rfl, rfl⟩
 clear hi
 have HM : Hid (∀ W : World, Below w.heap.size w W → Calls Tryz.prog 12 #[.agg (hdC h (.slice a n cap)).toArray, .agg #[.int .i64 ek, .int .i64 ea, .int .i64 en]] W fun e w' => ∃ a' n' cap', e = .returned (.tuple #[.agg (hdC (doneH (moveD ek ea en) (doE (checkN h k) (Pla.editB ek ea en)) h) (.slice a' n' cap')).toArray, .int .i64 (doE (checkN h k) (Pla.editB ek ea en))]) ∧ Kv w' (fun c => c < w'.heap.size) (.slice a' n' cap') (doneK (moveD ek ea en) (doE (checkN h k) (Pla.editB ek ea en)) h k) ∧ Below W.heap.size W w') := fun W hW => move_all D h k a n cap ek ea en W (hF.below hW)
 have HBk : Hid (∀ W : World, Calls Tryz.prog 22 #[.agg #[.int .i64 ek, .int .i64 ea, .int .i64 en]] W fun e w' => e = .returned (.tuple #[.agg #[.int .i64 (Pla.backR ek ea en).1, .int .i64 (Pla.backR ek ea en).2.1, .int .i64 (Pla.backR ek ea en).2.2.1], .int .i64 (Pla.backR ek ea en).2.2.2]) ∧ Below W.heap.size W w') := fun W => Pla.back_any ek ea en W
 by_cases hx : doE (checkN h k) (Pla.editB ek ea en) = 0
 case neg =>
  have hx' : (doE (checkN h k) (Pla.editB ek ea en) != 0) = true := by simpa using hx
  generalize doE (checkN h k) (Pla.editB ek ea en) = X at *
  generalize doneH (moveD ek ea en) X h = H1 at *
  generalize doneK (moveD ek ea en) X h k = K1 at *
  generalize (Pla.backR ek ea en).2.2.2 = Y at *
  generalize (Pla.backR ek ea en).2.2.1 = bn at *
  generalize (Pla.backR ek ea en).2.1 = ba at *
  generalize (Pla.backR ek ea en).1 = bk at *
  clear hd hv ht ho hk hD hde hm hdp hF hx hins
  have ⟨ez0, ez1, ez2, ez3⟩ := HE0.out
  rcases hik with hik | ⟨hik, hik2⟩
  all_goals
   go_enter Tryz.func6, Tryz.ntmps6
   go_wp2_with (first | (with_reducible refine wpl_id ?_; refine wpl_load rfl _ rfl _ rfl (by ((repeat' (first | with_reducible (first | exact Hid.out (by assumption) | apply Box.set | exact Box.new _ _ | apply Box.other | apply Box.alloc | apply Box.drew | apply Box.drewN) | omega)); done)) ?_) | (with_reducible refine wpl_id ?_; refine wpl_loadW rfl _ rfl _ rfl (by ((repeat' (first | with_reducible (first | exact Hid.out (by assumption) | apply Box.set | exact Box.new _ _ | apply Box.other | apply Box.alloc | apply Box.drew | apply Box.drewN) | omega)); done)) ?_) | (have hneed := HG0; go_at_call 9; refine (HDp.out _ HB0.out).mono ?_; rintro e w1 ⟨rfl, hb⟩; have HX1 := hide (HX0.out.below hb); have HE1 := hide (HE0.out.below hb); have HB1 := hide (HB0.out.trans (hb.mono HB0.out.size)); clear hb hneed HG0 HB0 HX0 HE0 ez0 ez1 ez2 ez3; have ⟨ez0, ez1, ez2, ez3⟩ := HE1.out; have HG1 : Hid (0 = 0) := hide rfl) | (have hneed := HG1; go_at_call 12; refine (HM.out _ HB1.out).mono ?_; rintro e w2 ⟨a2, n2, c2, rfl, hk2, hb⟩; have HX2 := hide ((HX1.out.below hb).alloc (.cells (hdC H1 (.slice a2 n2 c2)).toArray 33)); have HE2 := hide ((HE1.out.below hb).alloc (.cells (hdC H1 (.slice a2 n2 c2)).toArray 33)); have HB2 := hide ((HB1.out.trans (hb.mono HB1.out.size)).alloc (HB1.out.trans (hb.mono HB1.out.size)).size (.cells (hdC H1 (.slice a2 n2 c2)).toArray 33)); have HN2 := hide (Nb.new (h := H1) hk2); clear hk2; clear hb hneed HG1 HB1 HX1 HE1 ez0 ez1 ez2 ez3; have ⟨ez0, ez1, ez2, ez3⟩ := HE2.out; have HNb2 := hide HN2.out.box; have HG2 : Hid (0 = 0) := hide rfl) | (have hneed := HG2; go_at_call 22; refine (HBk.out _).mono ?_; rintro e w3 ⟨rfl, hb⟩; have HX3 := hide ((HX2.out.below hb).alloc (.cells #[.int .i64 bk, .int .i64 ba, .int .i64 bn] 36)); have HE3 := hide ((HE2.out.below hb).alloc (.cells #[.int .i64 bk, .int .i64 ba, .int .i64 bn] 36)); have HN3 := hide ((HN2.out.below hb).alloc (.cells #[.int .i64 bk, .int .i64 ba, .int .i64 bn] 36)); have HB3 := hide ((HB2.out.trans (hb.mono HB2.out.size)).alloc (HB2.out.trans (hb.mono HB2.out.size)).size (.cells #[.int .i64 bk, .int .i64 ba, .int .i64 bn] 36)); have HT3 := hide (Pla.At3.new w3 bk ba bn 36); clear hb hneed HG2 HB2 HX2 HE2 ez0 ez1 ez2 ez3 HN2 HNb2; have ⟨ez0, ez1, ez2, ez3⟩ := HE3.out; have HNb3 := hide HN3.out.box; have ⟨tz0, tz1, tz2, tz3⟩ := HT3.out; have HG3 : Hid (0 = 0) := hide rfl) | (have hneed := HG3; go_at_call 10; refine (HL.out _).mono ?_; rintro e w4 ⟨rfl, hb⟩; have HX4 := hide (HX3.out.below hb); have HE4 := hide (HE3.out.below hb); have HN4 := hide (HN3.out.below hb); have HT4 := hide (HT3.out.below hb); have HB4 := hide (HB3.out.trans (hb.mono HB3.out.size)); clear hb hneed HG3 HB3 HX3 HE3 ez0 ez1 ez2 ez3 HN3 HNb3 HT3 tz0 tz1 tz2 tz3; have ⟨ez0, ez1, ez2, ez3⟩ := HE4.out; have HNb4 := hide HN4.out.box; have ⟨tz0, tz1, tz2, tz3⟩ := HT4.out; have HG4 : Hid (0 = 0) := hide rfl) | (with_reducible refine wpl_id ?_; refine wpl_newN rfl _ _ rfl rfl rfl rfl ?_))
   go_ret
   exact ⟨rfl, HB4.out⟩
 obtain ⟨hc, he⟩ := doE_zero hx
 obtain ⟨hc1, hm1⟩ := move_check he h k hc
 obtain ⟨hv1, ht1⟩ := rem_okH (moveD ek ea en) h ⟨hv, ht⟩
 have ho1 := rem_okK (moveD ek ea en) h k ho
 have hLn : (rectsN h k).length ≤ 4096 := Nat.le_trans (rectsN_len h k) hm
 rw [hx, show doneH (moveD ek ea en) 0 h = remH (moveD ek ea en) h from rfl, show doneK (moveD ek ea en) 0 h k = remK (moveD ek ea en) h k from rfl] at HM
 rw [Pla.backR_yes he] at HBk
 simp only at HBk
 have HRn : Hid (∀ W : World, Below w.heap.size w W → Calls Tryz.prog 20 #[.agg (hdC h (.slice a n cap)).toArray] W fun e w' => ∃ v, e = .returned (.tuple #[v, .int .i64 0]) ∧ Rcs w' v (rectsN h k) ∧ Below W.heap.size W w') := fun W hW => by
  refine (rects_any D h k a n cap W (fun c hc => Nat.lt_of_lt_of_le (hD c hc) hW.size) (kv_to hk (fun b hb => ⟨hb, hW.block b (hD b hb)⟩)) hm hv ht ho).mono ?_
  rintro e w' ⟨v, he, hown, hb⟩
  rw [hc] at he
  exact ⟨v, he, Rcs.of hown, hb⟩
 have HCl : Hid (∀ (q : Int × Int × Int × Int), rightR q → ∀ (W : World), Calls Tryz.prog 23 #[.agg #[.int .i64 ek, .int .i64 ea, .int .i64 en], .agg #[.int .i64 q.1, .int .i64 q.2.1, .int .i64 q.2.2.1, .int .i64 q.2.2.2]] W fun e w' => e = .returned (.tuple #[.bool (Pla.clipR ek ea en q.1 q.2.1 q.2.2.1 q.2.2.2).1, .int .i64 0]) ∧ Below W.heap.size W w') := fun q hq W => by
  have := Pla.clips_any ek ea en q.1 q.2.1 q.2.2.1 q.2.2.2 W
  rw [clip_told he hq] at this
  exact this
 have HU : Hid ((∀ s ∈ rectsN h k, (Pla.clipR ek ea en s.1 s.2.1 s.2.2.1 s.2.2.2).1 = false) → remH (moveD (Pla.backK ek) ea en) (remH (moveD ek ea en) h) = h ∧ remK (moveD (Pla.backK ek) ea en) (remH (moveD ek ea en) h) (remK (moveD ek ea en) h k) = k) := undo_node he hins h k hc
 have HM2 : Hid (∀ (W : World) (a' : Option Addr) (n' cap' : Nat), Kv W (fun c => c < W.heap.size) (.slice a' n' cap') (remK (moveD ek ea en) h k) → Calls Tryz.prog 12 #[.agg (hdC (remH (moveD ek ea en) h) (.slice a' n' cap')).toArray, .agg #[.int .i64 (Pla.backK ek), .int .i64 ea, .int .i64 en]] W fun e w' => ∃ a' n' cap', e = .returned (.tuple #[.agg (hdC (remH (moveD (Pla.backK ek) ea en) (remH (moveD ek ea en) h)) (.slice a' n' cap')).toArray, .int .i64 0]) ∧ Kv w' (fun c => c < w'.heap.size) (.slice a' n' cap') (remK (moveD (Pla.backK ek) ea en) (remH (moveD ek ea en) h) (remK (moveD ek ea en) h k)) ∧ Below W.heap.size W w') := fun W a' n' cap' hk' => by
  have := move_all (fun c => c < W.heap.size) (remH (moveD ek ea en) h) (remK (moveD ek ea en) h k) a' n' cap' (Pla.backK ek) ea en W ⟨fun _ hc => hc, hk', by omega, hv1, ht1, ho1⟩
  rw [hc1, Pla.edit_back he, show doE 0 true = 0 from rfl] at this
  exact this
 have HSm : Hid (∀ (W : World) (v v2 : Value), Kv W (fun c => c < W.heap.size) v k → Kv W (fun c => c < W.heap.size) v2 k → Calls Tryz.prog 16 #[.agg (hdC h v).toArray, .agg (hdC h v2).toArray] W fun e w' => e = .returned (.bool true) ∧ Below W.heap.size W w') := fun W v v2 h1 h2 => same_all_of h k v v2 h1 h2
 have HKn : Hid (∀ W : World, Below w.heap.size w W → Kv W (fun c => c < W.heap.size) (.slice a n cap) k) := fun W hW => kv_to hk (fun b hb => ⟨Nat.lt_of_lt_of_le (hD b hb) hW.size, hW.block b (hD b hb)⟩)
 have HRT := hide (rectsN_right h k)
 generalize rectsN h k = L at *
 generalize remH (moveD ek ea en) h = H1 at *
 generalize remK (moveD ek ea en) h k = K1 at *
 generalize Pla.backK ek = bk at *
 clear hd hv ht ho hk hD hde hm hdp hF hc he hx hins hc1 hm1 hv1 ht1 ho1
 have ⟨ez0, ez1, ez2, ez3⟩ := HE0.out
 rcases hik with hik | ⟨hik, hik2⟩
 all_goals
  go_enter Tryz.func6, Tryz.ntmps6
  go_wp2_with (first | (with_reducible refine wpl_id ?_; refine wpl_load rfl _ rfl _ rfl (by ((repeat' (first | with_reducible (first | exact Hid.out (by assumption) | apply Box.set | exact Box.new _ _ | apply Box.other | apply Box.alloc | apply Box.drew | apply Box.drewN) | omega)); done)) ?_) | (with_reducible refine wpl_id ?_; refine wpl_loadW rfl _ rfl _ rfl (by ((repeat' (first | with_reducible (first | exact Hid.out (by assumption) | apply Box.set | exact Box.new _ _ | apply Box.other | apply Box.alloc | apply Box.drew | apply Box.drewN) | omega)); done)) ?_) | (have hneed := HG0; go_at_call 9; refine (HDp.out _ HB0.out).mono ?_; rintro e w1 ⟨rfl, hb⟩; have HX1 := hide (HX0.out.below hb); have HE1 := hide (HE0.out.below hb); have HB1 := hide (HB0.out.trans (hb.mono HB0.out.size)); clear hb hneed HG0 HB0 HX0 HE0 ez0 ez1 ez2 ez3; have ⟨ez0, ez1, ez2, ez3⟩ := HE1.out; have HG1 : Hid (0 = 0) := hide rfl) | (have hneed := HG1; go_at_call 12; refine (HM.out _ HB1.out).mono ?_; rintro e w2 ⟨a2, n2, c2, rfl, hk2, hb⟩; have HX2 := hide ((HX1.out.below hb).alloc (.cells (hdC H1 (.slice a2 n2 c2)).toArray 33)); have HE2 := hide ((HE1.out.below hb).alloc (.cells (hdC H1 (.slice a2 n2 c2)).toArray 33)); have HB2 := hide ((HB1.out.trans (hb.mono HB1.out.size)).alloc (HB1.out.trans (hb.mono HB1.out.size)).size (.cells (hdC H1 (.slice a2 n2 c2)).toArray 33)); have HN2 := hide (Nb.new (h := H1) hk2); clear hk2; clear hb hneed HG1 HB1 HX1 HE1 ez0 ez1 ez2 ez3; have ⟨ez0, ez1, ez2, ez3⟩ := HE2.out; have HNb2 := hide HN2.out.box; have HG2 : Hid (0 = 0) := hide rfl) | (have hneed := HG2; go_at_call 22; refine (HBk.out _).mono ?_; rintro e w3 ⟨rfl, hb⟩; have HX3 := hide ((HX2.out.below hb).alloc (.cells #[.int .i64 bk, .int .i64 ea, .int .i64 en] 36)); have HE3 := hide ((HE2.out.below hb).alloc (.cells #[.int .i64 bk, .int .i64 ea, .int .i64 en] 36)); have HN3 := hide ((HN2.out.below hb).alloc (.cells #[.int .i64 bk, .int .i64 ea, .int .i64 en] 36)); have HB3 := hide ((HB2.out.trans (hb.mono HB2.out.size)).alloc (HB2.out.trans (hb.mono HB2.out.size)).size (.cells #[.int .i64 bk, .int .i64 ea, .int .i64 en] 36)); have HT3 := hide (Pla.At3.new w3 bk ea en 36); clear hb hneed HG2 HB2 HX2 HE2 ez0 ez1 ez2 ez3 HN2 HNb2; have ⟨ez0, ez1, ez2, ez3⟩ := HE3.out; have HNb3 := hide HN3.out.box; have ⟨tz0, tz1, tz2, tz3⟩ := HT3.out; have HG3 : Hid (0 = 0) := hide rfl) | (have hneed := HG3; go_at_call 20; refine (HRn.out _ HB3.out).mono ?_; rintro e w4 ⟨_, rfl, ⟨pL, capL, rfl, hcL⟩, hb⟩; have HX4 := hide (HX3.out.below hb); have HE4 := hide (HE3.out.below hb); have HN4 := hide (HN3.out.below hb); have HT4 := hide (HT3.out.below hb); have HB4 := hide (HB3.out.trans (hb.mono HB3.out.size)); have HCL := hide hcL; clear hcL; clear hb hneed HG3 HB3 HX3 HE3 ez0 ez1 ez2 ez3 HN3 HNb3 HT3 tz0 tz1 tz2 tz3; have ⟨ez0, ez1, ez2, ez3⟩ := HE4.out; have HNb4 := hide HN4.out.box; have ⟨tz0, tz1, tz2, tz3⟩ := HT4.out; have HG4 : Hid (0 = 0) := hide rfl) | (with_reducible refine wpl_id ?_; refine wpl_newN rfl _ _ rfl rfl rfl rfl ?_))
  have HXr : Hid (∀ W, Below w4.heap.size w4 W → Box W w.heap.size (hdC h (.slice a n cap))) := fun W hW => HX4.out.below hW
  have HEr : Hid (∀ W, Below w4.heap.size w4 W → Pla.At3 W (w.heap.size + 1) ek ea en) := fun W hW => HE4.out.below hW
  have HNr : Hid (∀ W, Below w4.heap.size w4 W → Nb W w2.heap.size H1 K1 (.slice a2 n2 c2)) := fun W hW => HN4.out.below hW
  have HTr : Hid (∀ W, Below w4.heap.size w4 W → Pla.At3 W w3.heap.size bk ea en) := fun W hW => HT4.out.below hW
  clear HX4 HE4 HN4 HT4 HNb4 ez0 ez1 ez2 ez3 tz0 tz1 tz2 tz3
  go_loopw [11] (fun iv wr => ∃ i : Nat, iv = .int .i64 i ∧ i ≤ L.length ∧ (∀ (j : Nat) (s : Int × Int × Int × Int), j < i → L[j]? = some s → (Pla.clipR ek ea en s.1 s.2.1 s.2.2.1 s.2.2.2).1 = false) ∧ Below w4.heap.size w4 wr) (fun iv _ => L.length - (intOf iv).toNat)
  case atStart => exact ⟨0, rfl, Nat.zero_le _, fun j s hj => absurd hj (Nat.not_lt_zero j), Below.refl _ _⟩
  case round =>
   obtain ⟨i, rfl, hi, hcl, hB⟩ := hrel
   by_cases hlt : i < L.length
   ·
    have g1 : (i : Int) < L.length := by omega
    obtain ⟨ri, hri⟩ : ∃ ri, L[i]? = some ri := ⟨_, List.getElem?_eq_getElem hlt⟩
    have HPC := hide (HCl.out ri (HRT.out ri (List.mem_of_getElem? hri)))
    rcases HCL.out with rfl | ⟨g, rfl, hg⟩
    ·
     exact absurd hlt (by simp)
    have HS : Hid (∀ W, Below w4.heap.size w4 W → Below w4.heap.size w4 W ∧ W.cell? ⟨g, i * 4, none⟩ = some (.int .i64 ri.1) ∧ W.cell? ⟨g, i * 4 + 1, none⟩ = some (.int .i64 ri.2.1) ∧ W.cell? ⟨g, i * 4 + 2, none⟩ = some (.int .i64 ri.2.2.1) ∧ W.cell? ⟨g, i * 4 + 3, none⟩ = some (.int .i64 ri.2.2.2) ∧ W.cell? ⟨w.heap.size + 1, 0, none⟩ = some (.int .i64 ek) ∧ W.cell? ⟨w.heap.size + 1, 1, none⟩ = some (.int .i64 ea) ∧ W.cell? ⟨w.heap.size + 1, 2, none⟩ = some (.int .i64 en)) := fun W hW => by
     obtain ⟨a1, a2', a3, a4⟩ := hg W hW i ri hri
     obtain ⟨_, e1, e2, e3⟩ := HEr.out W hW
     exact ⟨hW, a1, a2', a3, a4, e1, e2, e3⟩
    have hs0 := HS.out wr hB
    obtain ⟨ct, hct⟩ : ∃ b, (Pla.clipR ek ea en ri.1 ri.2.1 ri.2.2.1 ri.2.2.2).1 = b := ⟨_, rfl⟩
    rw [hct] at HPC
    have HCT : Hid (ct = false → ∀ (j : Nat) (s : Int × Int × Int × Int), j < i + 1 → L[j]? = some s → (Pla.clipR ek ea en s.1 s.2.1 s.2.2.1 s.2.2.2).1 = false) := fun hc j s hj hs => by
     by_cases hji : j = i
     ·
      subst hji
      obtain rfl : ri = s := Option.some.inj (hri.symm.trans hs)
      rw [hct, hc]
     ·
      exact hcl j s (by omega) hs
    have HBi := hide hB
    clear hB hg hri hct hcl
    cases ct
    ·
     go_wp2
     go_region_held3 (fun W => Below w4.heap.size w4 W ∧ W.cell? ⟨g, i * 4, none⟩ = some (.int .i64 ri.1) ∧ W.cell? ⟨g, i * 4 + 1, none⟩ = some (.int .i64 ri.2.1) ∧ W.cell? ⟨g, i * 4 + 2, none⟩ = some (.int .i64 ri.2.2.1) ∧ W.cell? ⟨g, i * 4 + 3, none⟩ = some (.int .i64 ri.2.2.2) ∧ W.cell? ⟨w.heap.size + 1, 0, none⟩ = some (.int .i64 ek) ∧ W.cell? ⟨w.heap.size + 1, 1, none⟩ = some (.int .i64 ea) ∧ W.cell? ⟨w.heap.size + 1, 2, none⟩ = some (.int .i64 en)) (first | assumption | (refine HS.out _ ?_; first | exact HBi.out.drew | exact And.left (by assumption))) (first | (go_at_call 23; refine (HPC.out _).mono ?_; rintro e w6 ⟨rfl, hb6⟩; have hs6 := HS.out w6 (HBi.out.drew.trans (hb6.mono HBi.out.drew.size)); have HB6 := hide hs6.1; clear hb6))
     go_wp2
     go_roundw
     case rel => exact ⟨i + 1, by go_num, by omega, by first | exact HCT.out trivial | exact HCT.out | exact HCT.out rfl, HB6.out⟩
     case measure => simp [intOf]; omega
    ·
     go_wp2
     go_region_held3 (fun W => Below w4.heap.size w4 W ∧ W.cell? ⟨g, i * 4, none⟩ = some (.int .i64 ri.1) ∧ W.cell? ⟨g, i * 4 + 1, none⟩ = some (.int .i64 ri.2.1) ∧ W.cell? ⟨g, i * 4 + 2, none⟩ = some (.int .i64 ri.2.2.1) ∧ W.cell? ⟨g, i * 4 + 3, none⟩ = some (.int .i64 ri.2.2.2) ∧ W.cell? ⟨w.heap.size + 1, 0, none⟩ = some (.int .i64 ek) ∧ W.cell? ⟨w.heap.size + 1, 1, none⟩ = some (.int .i64 ea) ∧ W.cell? ⟨w.heap.size + 1, 2, none⟩ = some (.int .i64 en)) (first | assumption | (refine HS.out _ ?_; first | exact HBi.out.drew | exact And.left (by assumption))) (first | (go_at_call 23; refine (HPC.out _).mono ?_; rintro e w6 ⟨rfl, hb6⟩; have hs6 := HS.out w6 (HBi.out.drew.trans (hb6.mono HBi.out.drew.size)); have HB6 := hide hs6.1; clear hb6))
     go_wp2_with ((go_at_call 10; refine (HL.out _).mono ?_; rintro e w9 ⟨rfl, hb9⟩; have HB9 := hide (HB6.out.trans (hb9.mono HB6.out.size)); clear hb9))
     go_ret
     exact ⟨rfl, HB4.out.trans (HB9.out.mono HB4.out.size)⟩
   ·
    have g1 : ¬ (i : Int) < L.length := by omega
    obtain rfl : i = L.length := by omega
    have hu := HU.out (fun s hs => by
     obtain ⟨j, hj⟩ := List.getElem?_of_mem hs
     exact hcl j s (List.getElem?_eq_some_iff.1 hj).1 hj)
    rw [hu.1, hu.2] at HM2
    have HX5 := hide (HXr.out wr hB)
    have HN5 := hide (HNr.out wr hB)
    have HT5 := hide (HTr.out wr hB)
    have HB5 := hide (HB4.out.trans (hB.mono HB4.out.size))
    have HG5 : Hid (0 = 0) := hide rfl
    clear hu hcl hB hlt hi
    have HNb5 := hide HN5.out.box; have ⟨tz0, tz1, tz2, tz3⟩ := HT5.out
    go_wp2_with (first | (with_reducible refine wpl_id ?_; refine wpl_load rfl _ rfl _ rfl (by ((repeat' (first | with_reducible (first | exact Hid.out (by assumption) | apply Box.set | exact Box.new _ _ | apply Box.other | apply Box.alloc | apply Box.drew | apply Box.drewN) | omega)); done)) ?_) | (with_reducible refine wpl_id ?_; refine wpl_loadW rfl _ rfl _ rfl (by ((repeat' (first | with_reducible (first | exact Hid.out (by assumption) | apply Box.set | exact Box.new _ _ | apply Box.other | apply Box.alloc | apply Box.drew | apply Box.drewN) | omega)); done)) ?_) | (have hneed := HG5; go_at_call 12; refine (HM2.out _ _ _ _ HN5.out.kv).mono ?_; rintro e w6 ⟨a6, n6, c6, rfl, hk6, hb⟩; have HX6 := hide ((HX5.out.below hb).alloc (.cells (hdC h (.slice a6 n6 c6)).toArray 33)); have HN6 := hide ((HN5.out.below hb).alloc (.cells (hdC h (.slice a6 n6 c6)).toArray 33)); have HT6 := hide ((HT5.out.below hb).alloc (.cells (hdC h (.slice a6 n6 c6)).toArray 33)); have HB6 := hide ((HB5.out.trans (hb.mono HB5.out.size)).alloc (HB5.out.trans (hb.mono HB5.out.size)).size (.cells (hdC h (.slice a6 n6 c6)).toArray 33)); have HK6 := hide (Nb.new (h := h) hk6); clear hk6; clear hb hneed HG5 HB5 HX5 HN5 HNb5 HT5 tz0 tz1 tz2 tz3; have HNb6 := hide HN6.out.box; have ⟨tz0, tz1, tz2, tz3⟩ := HT6.out; have HKb6 := hide HK6.out.box; have HG6 : Hid (0 = 0) := hide rfl) | (have hneed := HG6; go_at_call 16; refine (HSm.out _ _ _ HK6.out.kv (HKn.out _ HB6.out)).mono ?_; rintro e w7 ⟨rfl, hb⟩; have HX7 := hide (HX6.out.below hb); have HN7 := hide (HN6.out.below hb); have HT7 := hide (HT6.out.below hb); have HK7 := hide (HK6.out.below hb); have HB7 := hide (HB6.out.trans (hb.mono HB6.out.size)); clear hb hneed HG6 HB6 HX6 HN6 HNb6 HT6 tz0 tz1 tz2 tz3 HK6 HKb6; have HNb7 := hide HN7.out.box; have ⟨tz0, tz1, tz2, tz3⟩ := HT7.out; have HKb7 := hide HK7.out.box; have HG7 : Hid (0 = 0) := hide rfl) | (have hneed := HG7; go_at_call 10; refine (HL.out _).mono ?_; rintro e w8 ⟨rfl, hb⟩; have HX8 := hide (HX7.out.below hb); have HN8 := hide (HN7.out.below hb); have HT8 := hide (HT7.out.below hb); have HK8 := hide (HK7.out.below hb); have HB8 := hide (HB7.out.trans (hb.mono HB7.out.size)); clear hb hneed HG7 HB7 HX7 HN7 HNb7 HT7 tz0 tz1 tz2 tz3 HK7 HKb7; have HNb8 := hide HN8.out.box; have ⟨tz0, tz1, tz2, tz3⟩ := HT8.out; have HKb8 := hide HK8.out.box; have HG8 : Hid (0 = 0) := hide rfl) | (with_reducible refine wpl_id ?_; refine wpl_newN rfl _ _ rfl rfl rfl rfl ?_))
    go_ret
    exact ⟨rfl, HB8.out⟩
end Go.Proofs.YtfpmmckpobpokaaGreat
