/-
  The walk of RewriteAlike (made by alikegen10.py).
-/
import Derived.Test.YtfpmmckpobpokaaGreatRRwA2
set_option maxRecDepth 100000
set_option maxHeartbeats 4000000
namespace Go.Proofs.YtfpmmckpobpokaaGreat
open Go.RowKit
theorem depth_bounds {k : Fo} (hd : depthN k ≠ 0) : k.many + 1 ≤ 4096 ∧ k.deep + 1 ≤ 160 := by
  unfold depthN at hd
  by_cases hq : k.many + 1 ≤ 4096 ∧ k.deep + 1 ≤ 160
  · exact hq
  · rw [if_neg hq] at hd
    exact absurd rfl hd
theorem boxN_cells {W : World} {b : Nat} {h : Hd} {v : Value} (hb : Box W b (hdC h v)) : ∀ j, j < 16 → W.cell? ⟨b, 0 + j, none⟩ = (hdC h v)[j]? := fun j _ => by
 rw [Nat.zero_add]
 exact (cell_of_row _ _ _ _ _ _ hb).trans (by simp)
theorem same_all_of {W : World} (h : Hd) (k : Fo) (v v2 : Value) (h1 : Kv W (fun c => c < W.heap.size) v k) (h2 : Kv W (fun c => c < W.heap.size) v2 k) :
  Calls Tryz.prog 16 #[.agg (hdC h v).toArray, .agg (hdC h v2).toArray] W fun e w' => e = .returned (.bool true) ∧ Below W.heap.size W w' := same_any k _ _ h v v2 W (fun _ hc => hc) (fun _ hc => hc) h1 h2
theorem rewriteAlike_walk (D : Nat → Prop) (h : Hd) (k : Fo) (a : Option Addr) (n cap : Nat) (dr dc : Int) (w : World) (hD : ∀ c, D c → c < w.heap.size) (hk : Kv w D (.slice a n cap) k) (hv : h.vs.length ≤ maxLen) (ht : h.txt.length ≤ maxLen) (ho : okF k) :
    Calls Tryz.prog 7 #[.agg (hdC h (.slice a n cap)).toArray, .int .i64 dr, .int .i64 dc] w fun e w' => e = .returned (.bool true) ∧ Below w.heap.size w w' := by
  have HDp : Hid (∀ W : World, Below w.heap.size w W → Calls Tryz.prog 9 #[.agg (hdC h (.slice a n cap)).toArray] W fun e w' => e = .returned (.bool (decide (depthN k = 0))) ∧ Below W.heap.size W w') := fun W hW => deep10_any D h k a n cap W (fun c hc => Nat.lt_of_lt_of_le (hD c hc) hW.size) (kv_to hk (fun b hb => ⟨hb, hW.block b (hD b hb)⟩))
  have HL : Hid (∀ W : World, Calls Tryz.prog 10 #[] W fun e w' => e = .returned (.bool true) ∧ Below W.heap.size W w') := fun W => lives10_any W
  have HX := hide (Box.new w (hdC h (.slice a n cap)))
  have HB := hide ((Below.refl _ w).alloc (Nat.le_refl _) (.cells (hdC h (.slice a n cap)).toArray 33))
  have HG0 : Hid (0 = 0) := hide rfl
  by_cases hd : depthN k = 0
  · rw [hd] at HDp
    simp only [decide_true] at HDp
    clear hd hv ht ho hk hD
    go_enter Tryz.func7, Tryz.ntmps7
    go_wp2_with (first | (with_reducible refine wpl_id ?_; refine wpl_load rfl _ rfl _ rfl (by ((repeat' (first | with_reducible (first | exact Hid.out (by assumption) | apply Box.set | exact Box.new _ _ | apply Box.other | apply Box.alloc | apply Box.drew | apply Box.drewN) | omega)); done)) ?_) | (with_reducible refine wpl_id ?_; refine wpl_loadW rfl _ rfl _ rfl (by ((repeat' (first | with_reducible (first | exact Hid.out (by assumption) | apply Box.set | exact Box.new _ _ | apply Box.other | apply Box.alloc | apply Box.drew | apply Box.drewN) | omega)); done)) ?_) | (have hneed := HG0; go_at_call 9; refine (HDp.out _ HB.out).mono ?_; rintro e w1 ⟨rfl, hb1⟩; have HX1 := hide (HX.out.below hb1); have HB1 := hide (HB.out.trans (hb1.mono HB.out.size)); clear hb1 HX HB hneed HG0; have HG1 : Hid (0 = 0) := hide rfl) | (have hneed := HG1; go_at_call 10; refine (HL.out _).mono ?_; rintro e wz ⟨rfl, hb1⟩; have HBz := hide (HB1.out.trans (hb1.mono HB1.out.size)); clear hb1 hneed HG1))
    go_ret
    exact ⟨rfl, HBz.out⟩
  have hde : decide (depthN k = 0) = false := by simpa using hd
  rw [hde] at HDp
  obtain ⟨hm, hdp⟩ := depth_bounds hd
  have hF : Fine w D h k (.slice a n cap) := ⟨hD, hk, hm, hv, ht, ho⟩
  have HC : Hid (∀ W : World, Below w.heap.size w W → Calls Tryz.prog 24 #[.agg (hdC h (.slice a n cap)).toArray] W fun e w' => e = .returned (.int .i64 (checkN h k)) ∧ Below W.heap.size W w') := fun W hW => rcheck08_any D h k a n cap W (fun c hc => Nat.lt_of_lt_of_le (hD c hc) hW.size) (kv_to hk (fun b hb => ⟨hb, hW.block b (hD b hb)⟩)) hm hdp hv ht ho
  by_cases hc : checkN h k = 0
  case neg =>
    have hc' : (checkN h k != 0) = true := by simpa using hc
    generalize checkN h k = C at *
    clear hd hv ht ho hk hD hde hm hdp hF hc
    go_enter Tryz.func7, Tryz.ntmps7
    go_wp2_with (first | (with_reducible refine wpl_id ?_; refine wpl_load rfl _ rfl _ rfl (by ((repeat' (first | with_reducible (first | exact Hid.out (by assumption) | apply Box.set | exact Box.new _ _ | apply Box.other | apply Box.alloc | apply Box.drew | apply Box.drewN) | omega)); done)) ?_) | (with_reducible refine wpl_id ?_; refine wpl_loadW rfl _ rfl _ rfl (by ((repeat' (first | with_reducible (first | exact Hid.out (by assumption) | apply Box.set | exact Box.new _ _ | apply Box.other | apply Box.alloc | apply Box.drew | apply Box.drewN) | omega)); done)) ?_) | (have hneed := HG0; go_at_call 9; refine (HDp.out _ HB.out).mono ?_; rintro e w1 ⟨rfl, hb1⟩; have HX1 := hide (HX.out.below hb1); have HB1 := hide (HB.out.trans (hb1.mono HB.out.size)); clear hb1 HX HB hneed HG0; have HG1 : Hid (0 = 0) := hide rfl) | (have hneed := HG1; go_at_call 24; refine (HC.out _ HB1.out).mono ?_; rintro e w2 ⟨rfl, hb1⟩; have HX2 := hide (HX1.out.below hb1); have HB2 := hide (HB1.out.trans (hb1.mono HB1.out.size)); clear hb1 HX1 HB1 hneed HG1; have HG2 : Hid (0 = 0) := hide rfl) | (have hneed := HG2; go_at_call 10; refine (HL.out _).mono ?_; rintro e wz ⟨rfl, hb1⟩; have HBz := hide (HB2.out.trans (hb1.mono HB2.out.size)); clear hb1 hneed HG2))
    go_ret
    exact ⟨rfl, HBz.out⟩
  have hr := check_rightN hc
  have HKn : Hid (∀ W : World, Below w.heap.size w W → Kv W (fun c => c < W.heap.size) (.slice a n cap) k) := fun W hW => kv_to hk (fun b hb => ⟨Nat.lt_of_lt_of_le (hD b hb) hW.size, hW.block b (hD b hb)⟩)
  have HS0 : Hid (∀ W : World, Below w.heap.size w W → Calls Tryz.prog 17 #[.agg (hdC h (.slice a n cap)).toArray, .int .i64 0, .int .i64 0] W fun e w' => ∃ a' n' cap', e = .returned (.tuple #[.agg (hdC h (.slice a' n' cap')).toArray, .int .i64 0]) ∧ Kv w' (fun c => c < w'.heap.size) (.slice a' n' cap') k ∧ Below W.heap.size W w') := fun W hW => by
    have := shift_all D h k a n cap 0 0 W (hF.below hW)
    rw [hc, show doE 0 (withB 0 1048576 && withB 0 16384) = 0 by kernel_rfl, show doneH (shiftD 0 0) 0 h = remH (shiftD 0 0) h from rfl, show doneK (shiftD 0 0) 0 h k = remK (shiftD 0 0) h k from rfl, (still_node _ still_shift h k hr).1, (still_node _ still_shift h k hr).2] at this
    exact this
  have HSm : Hid (∀ (W : World) (v v2 : Value), Kv W (fun c => c < W.heap.size) v k → Kv W (fun c => c < W.heap.size) v2 k → Calls Tryz.prog 16 #[.agg (hdC h v).toArray, .agg (hdC h v2).toArray] W fun e w' => e = .returned (.bool true) ∧ Below W.heap.size W w') := fun W v v2 h1 h2 => same_all_of h k v v2 h1 h2
  have HLn : Hid (∀ W : World, Below w.heap.size w W → Calls Tryz.prog 25 #[.agg (hdC h (.slice a n cap)).toArray] W fun e w' => e = .returned (.int .i64 ((lost1 h + lostF k : Nat) : Int)) ∧ Below W.heap.size W w') := fun W hW => lost_count h k D _ W hm (fun c hc => Nat.lt_of_lt_of_le (hD c hc) hW.size) (kv_to hk (fun b hb => ⟨hb, hW.block b (hD b hb)⟩))
  by_cases hy : (withB dr 1048576 && withB dc 16384) = true
  case neg =>
    have hy' : (withB dr 1048576 && withB dc 16384) = false := by simpa using hy
    have HS1 : Hid (∀ W : World, Below w.heap.size w W → Calls Tryz.prog 17 #[.agg (hdC h (.slice a n cap)).toArray, .int .i64 dr, .int .i64 dc] W fun e w' => ∃ a' n' cap', e = .returned (.tuple #[.agg (hdC zh (.slice a' n' cap')).toArray, .int .i64 2]) ∧ Kv w' (fun c => c < w'.heap.size) (.slice a' n' cap') .nil ∧ Below W.heap.size W w') := fun W hW => by
      have := shift_all D h k a n cap dr dc W (hF.below hW)
      rw [hc, hy'] at this
      exact this
    rw [hc] at HC
    clear hd hv ht ho hk hD hde hm hdp hF hc hr hy hy' HLn
    generalize zh = Z at *
    go_enter Tryz.func7, Tryz.ntmps7
    go_wp2_with (first | (with_reducible refine wpl_id ?_; refine wpl_load rfl _ rfl _ rfl (by ((repeat' (first | with_reducible (first | exact Hid.out (by assumption) | apply Box.set | exact Box.new _ _ | apply Box.other | apply Box.alloc | apply Box.drew | apply Box.drewN) | omega)); done)) ?_) | (with_reducible refine wpl_id ?_; refine wpl_loadW rfl _ rfl _ rfl (by ((repeat' (first | with_reducible (first | exact Hid.out (by assumption) | apply Box.set | exact Box.new _ _ | apply Box.other | apply Box.alloc | apply Box.drew | apply Box.drewN) | omega)); done)) ?_) | (have hneed := HG0; go_at_call 9; refine (HDp.out _ HB.out).mono ?_; rintro e w1 ⟨rfl, hb1⟩; have HX1 := hide (HX.out.below hb1); have HB1 := hide (HB.out.trans (hb1.mono HB.out.size)); clear hb1 HX HB hneed HG0; have HG1 : Hid (0 = 0) := hide rfl) | (have hneed := HG1; go_at_call 24; refine (HC.out _ HB1.out).mono ?_; rintro e w2 ⟨rfl, hb1⟩; have HX2 := hide (HX1.out.below hb1); have HB2 := hide (HB1.out.trans (hb1.mono HB1.out.size)); clear hb1 HX1 HB1 hneed HG1; have HG2 : Hid (0 = 0) := hide rfl) | (have hneed := HG2; go_at_call 17; refine (HS0.out _ HB2.out).mono ?_; rintro e w3 ⟨a3, n3, c3, rfl, hk1, hb1⟩; have HN3 := hide (Nb.new (h := h) hk1); have HA3 := hide HN3.out.box; have HX3 := hide ((HX2.out.below hb1).alloc (.cells (hdC h (.slice a3 n3 c3)).toArray 33)); have HB3 := hide ((HB2.out.trans (hb1.mono HB2.out.size)).alloc (HB2.out.trans (hb1.mono HB2.out.size)).size (.cells (hdC h (.slice a3 n3 c3)).toArray 33)); clear hb1 hk1 HX2 HB2 hneed HG2; have HG3 : Hid (0 = 0) := hide rfl) | (have hneed := HG3; go_at_call 16; refine (HSm.out _ _ _ HN3.out.kv (HKn.out _ HB3.out)).mono ?_; rintro e w4 ⟨rfl, hb1⟩; have HX4 := hide (HX3.out.below hb1); have HB4 := hide (HB3.out.trans (hb1.mono HB3.out.size)); clear hb1 HX3 HB3 hneed HG3; have HG4 : Hid (0 = 0) := hide rfl) | (have hneed := HG4; go_at_call 17; refine (HS1.out _ HB4.out).mono ?_; rintro e w5 ⟨a5, n5, c5, rfl, hk1, hb1⟩; have HN5 := hide (Nb.new (h := Z) hk1); have HA5 := hide HN5.out.box; have HX5 := hide ((HX4.out.below hb1).alloc (.cells (hdC Z (.slice a5 n5 c5)).toArray 33)); have HB5 := hide ((HB4.out.trans (hb1.mono HB4.out.size)).alloc (HB4.out.trans (hb1.mono HB4.out.size)).size (.cells (hdC Z (.slice a5 n5 c5)).toArray 33)); clear hb1 hk1 HX4 HB4 hneed HG4; have HG5 : Hid (0 = 0) := hide rfl) | (have hneed := HG5; go_at_call 10; refine (HL.out _).mono ?_; rintro e wz ⟨rfl, hb1⟩; have HBz := hide (HB5.out.trans (hb1.mono HB5.out.size)); clear hb1 hneed HG5) | (with_reducible refine wpl_id ?_; refine wpl_newN rfl _ _ rfl rfl rfl rfl ?_))
    go_ret
    exact ⟨rfl, HBz.out⟩
  have hy2 : withB dr 1048576 = true ∧ withB dc 16384 = true := by simpa using hy
  have HS1 : Hid (∀ W : World, Below w.heap.size w W → Calls Tryz.prog 17 #[.agg (hdC h (.slice a n cap)).toArray, .int .i64 dr, .int .i64 dc] W fun e w' => ∃ a' n' cap', e = .returned (.tuple #[.agg (hdC (remH (shiftD dr dc) h) (.slice a' n' cap')).toArray, .int .i64 0]) ∧ Kv w' (fun c => c < w'.heap.size) (.slice a' n' cap') (remK (shiftD dr dc) h k) ∧ Below W.heap.size W w') := fun W hW => by
    have := shift_all D h k a n cap dr dc W (hF.below hW)
    rw [hc, hy] at this
    exact this
  obtain ⟨rc, rm⟩ := rem_check (shiftD dr dc) (sound_shift dr dc) h k hc
  have rh := rem_okH (shiftD dr dc) h ⟨hv, ht⟩
  have rk := rem_okK (shiftD dr dc) h k ho
  have HLb : Hid (∀ (W : World) (a' : Option Addr) (n' cap' : Nat), Kv W (fun c => c < W.heap.size) (.slice a' n' cap') (remK (shiftD dr dc) h k) → Calls Tryz.prog 25 #[.agg (hdC (remH (shiftD dr dc) h) (.slice a' n' cap')).toArray] W fun e w' => e = .returned (.int .i64 ((lost1 (remH (shiftD dr dc) h) + lostF (remK (shiftD dr dc) h k) : Nat) : Int)) ∧ Below W.heap.size W w') := fun W a' n' cap' hk' => lost_count _ _ _ _ W (by omega) (fun _ hc => hc) hk'
  have hbound := lostF_le k
  have hbound1 := lost1_le h
  by_cases hlo : lost1 h + lostF k < lost1 (remH (shiftD dr dc) h) + lostF (remK (shiftD dr dc) h k)
  case pos =>
    rw [hc] at HC
    generalize remH (shiftD dr dc) h = H1 at *
    generalize remK (shiftD dr dc) h k = K1 at *
    have hlo' : ((lost1 h + lostF k : Nat) : Int) < ((lost1 H1 + lostF K1 : Nat) : Int) := by omega
    generalize lost1 h + lostF k = l0 at *
    generalize lost1 H1 + lostF K1 = l1 at *
    clear hd hv ht ho hk hD hde hm hdp hF hc hr hy hy2 hlo rc rm rh rk hbound hbound1
    go_enter Tryz.func7, Tryz.ntmps7
    go_wp2_with (first | (with_reducible refine wpl_id ?_; refine wpl_load rfl _ rfl _ rfl (by ((repeat' (first | with_reducible (first | exact Hid.out (by assumption) | apply Box.set | exact Box.new _ _ | apply Box.other | apply Box.alloc | apply Box.drew | apply Box.drewN) | omega)); done)) ?_) | (with_reducible refine wpl_id ?_; refine wpl_loadW rfl _ rfl _ rfl (by ((repeat' (first | with_reducible (first | exact Hid.out (by assumption) | apply Box.set | exact Box.new _ _ | apply Box.other | apply Box.alloc | apply Box.drew | apply Box.drewN) | omega)); done)) ?_) | (have hneed := HG0; go_at_call 9; refine (HDp.out _ HB.out).mono ?_; rintro e w1 ⟨rfl, hb1⟩; have HX1 := hide (HX.out.below hb1); have HB1 := hide (HB.out.trans (hb1.mono HB.out.size)); clear hb1 HX HB hneed HG0; have HG1 : Hid (0 = 0) := hide rfl) | (have hneed := HG1; go_at_call 24; refine (HC.out _ HB1.out).mono ?_; rintro e w2 ⟨rfl, hb1⟩; have HX2 := hide (HX1.out.below hb1); have HB2 := hide (HB1.out.trans (hb1.mono HB1.out.size)); clear hb1 HX1 HB1 hneed HG1; have HG2 : Hid (0 = 0) := hide rfl) | (have hneed := HG2; go_at_call 17; refine (HS0.out _ HB2.out).mono ?_; rintro e w3 ⟨a3, n3, c3, rfl, hk1, hb1⟩; have HN3 := hide (Nb.new (h := h) hk1); have HA3 := hide HN3.out.box; have HX3 := hide ((HX2.out.below hb1).alloc (.cells (hdC h (.slice a3 n3 c3)).toArray 33)); have HB3 := hide ((HB2.out.trans (hb1.mono HB2.out.size)).alloc (HB2.out.trans (hb1.mono HB2.out.size)).size (.cells (hdC h (.slice a3 n3 c3)).toArray 33)); clear hb1 hk1 HX2 HB2 hneed HG2; have HG3 : Hid (0 = 0) := hide rfl) | (have hneed := HG3; go_at_call 16; refine (HSm.out _ _ _ HN3.out.kv (HKn.out _ HB3.out)).mono ?_; rintro e w4 ⟨rfl, hb1⟩; have HX4 := hide (HX3.out.below hb1); have HB4 := hide (HB3.out.trans (hb1.mono HB3.out.size)); clear hb1 HX3 HB3 hneed HG3; have HG4 : Hid (0 = 0) := hide rfl) | (have hneed := HG4; go_at_call 17; refine (HS1.out _ HB4.out).mono ?_; rintro e w5 ⟨a5, n5, c5, rfl, hk1, hb1⟩; have HN5 := hide (Nb.new (h := H1) hk1); have HA5 := hide HN5.out.box; have HX5 := hide ((HX4.out.below hb1).alloc (.cells (hdC H1 (.slice a5 n5 c5)).toArray 33)); have HB5 := hide ((HB4.out.trans (hb1.mono HB4.out.size)).alloc (HB4.out.trans (hb1.mono HB4.out.size)).size (.cells (hdC H1 (.slice a5 n5 c5)).toArray 33)); clear hb1 hk1 HX4 HB4 hneed HG4; have HG5 : Hid (0 = 0) := hide rfl) | (with_reducible refine wpl_id ?_; refine wpl_newN rfl _ _ rfl rfl rfl rfl ?_))
    generalize w5.alloc (.cells (hdC H1 (.slice a5 n5 c5)).toArray 33) = W0 at *
    have HSr : Hid (∀ W : World, Below W0.heap.size W0 W → Below W0.heap.size W0 W ∧ (∀ j, j < 16 → W.cell? ⟨w5.heap.size, 0 + j, none⟩ = (hdC H1 (.slice a5 n5 c5))[j]?) ∧ (∀ j, j < 16 → W.cell? ⟨w.heap.size, 0 + j, none⟩ = (hdC h (.slice a n cap))[j]?)) := fun W hW => ⟨hW, boxN_cells (HN5.out.box.below hW), boxN_cells (HX5.out.below hW)⟩
    have HBd : Hid (Below W0.heap.size W0 W0.drew) := (Below.refl _ _).drew
    refine wp_region_held_drew (S := fun W => Below W0.heap.size W0 W ∧ (∀ j, j < 16 → W.cell? ⟨w5.heap.size, 0 + j, none⟩ = (hdC H1 (.slice a5 n5 c5))[j]?) ∧ (∀ j, j < 16 → W.cell? ⟨w.heap.size, 0 + j, none⟩ = (hdC h (.slice a n cap))[j]?)) (by kernel_rfl) (HSr.out _ HBd.out) (fun hHeld => ?_)
    (refine takeE (i := 0) (some 48) rfl rfl (by kernel_rfl) (v := .agg (hdC H1 (.slice a5 n5 c5)).toArray) rfl (fun W hSW => exec_loadAt _ rfl w5.heap.size 0 rfl hSW.2.1) (by assumption) ?_; try simp only [Act.put, pA, pB, pC])
    (refine takeE (i := 2) (some 50) rfl rfl (by kernel_rfl) (v := .agg (hdC h (.slice a n cap)).toArray) rfl (fun W hSW => exec_loadAt _ rfl w.heap.size 0 rfl hSW.2.2) (by assumption) ?_; try simp only [Act.put, pA, pB, pC])
    (refine wpAnyH_ready (rs := [1]) (by kernel_rfl) (by simp) ?_; refine AllReadyH.cons (o := _) rfl (fun K hK => ?_) AllReadyH.nil; go_simp; (go_at_call 25; refine (HLb.out _ _ _ _ (HN5.out.below HBd.out).kv).mono ?_; rintro e w6 ⟨rfl, hb1⟩; have HQ6 := hide (HBd.out.trans (hb1.mono (Nat.le_refl _))); clear hb1); refine hK.out _ _ (HSr.out w6 HQ6.out) (fun hHeld => ?_); clear hK K; try simp only [Act.put, pA, pB, pC])
    (refine wpAnyH_ready (rs := [3]) (by kernel_rfl) (by simp) ?_; refine AllReadyH.cons (o := _) rfl (fun K hK => ?_) AllReadyH.nil; go_simp; (go_at_call 25; refine (HLn.out _ (HB5.out.trans (HQ6.out.mono HB5.out.size))).mono ?_; rintro e w7 ⟨rfl, hb1⟩; have HQ7 := hide (HQ6.out.trans (hb1.mono HQ6.out.size)); clear hb1); refine hK.out _ _ (HSr.out w7 HQ7.out) (fun hHeld => ?_); clear hK K; try simp only [Act.put, pA, pB, pC])
    refine takeF 4 (some 52) ?_
    refine wpAnyH_done (by kernel_rfl) ?_ _
    have HN5x := hide (HN5.out.below HQ7.out)
    have HX7 := hide (HX5.out.below HQ7.out)
    have HB7 := hide (HB5.out.trans (HQ7.out.mono HB5.out.size))
    clear HN5 HA5 HX5 HB5 HQ6 HQ7 HSr HBd HG5
    have HN5 := HN5x
    clear HN5x
    have HA5 := hide HN5.out.box
    have HG7 : Hid (0 = 0) := hide rfl
    go_wp2_with (first | (have hneed := HG7; go_at_call 10; refine (HL.out _).mono ?_; rintro e wz ⟨rfl, hb1⟩; have HBz := hide (HB7.out.trans (hb1.mono HB7.out.size)); clear hb1 hneed HG7) | (with_reducible refine wpl_id ?_; refine wpl_newN rfl _ _ rfl rfl rfl rfl ?_))
    go_ret
    exact ⟨rfl, HBz.out⟩
  have hw1 : IntKind.i64.wrap (-dr) = -dr := by have := withB_iff.1 hy2.1; rw [IntKind.wrap_i64]; omega
  have hw2 : IntKind.i64.wrap (-dc) = -dc := by have := withB_iff.1 hy2.2; rw [IntKind.wrap_i64]; omega
  have HS2 : Hid (∀ (W : World) (a2 : Option Addr) (n2 cap2 : Nat), Kv W (fun c => c < W.heap.size) (.slice a2 n2 cap2) (remK (shiftD dr dc) h k) → Calls Tryz.prog 17 #[.agg (hdC (remH (shiftD dr dc) h) (.slice a2 n2 cap2)).toArray, .int .i64 (-dr), .int .i64 (-dc)] W fun e w' => ∃ a' n' cap', e = .returned (.tuple #[.agg (hdC h (.slice a' n' cap')).toArray, .int .i64 0]) ∧ Kv w' (fun c => c < w'.heap.size) (.slice a' n' cap') k ∧ Below W.heap.size W w') := fun W a2 n2 cap2 hk2 => by
    have hb := back_node _ _ (back_shift dr dc) h k hr (by omega)
    have := shift_all (fun c => c < W.heap.size) _ _ a2 n2 cap2 (-dr) (-dc) W ⟨fun _ hc => hc, hk2, by omega, rh.1, rh.2, rk⟩
    rw [rc, show (withB (-dr) 1048576 && withB (-dc) 16384) = true by have h1 := withB_iff.1 hy2.1; have h2 := withB_iff.1 hy2.2; simp only [Bool.and_eq_true, withB_iff]; omega, show doE 0 true = 0 from rfl, show doneH (shiftD (-dr) (-dc)) 0 (remH (shiftD dr dc) h) = remH (shiftD (-dr) (-dc)) (remH (shiftD dr dc) h) from rfl, show doneK (shiftD (-dr) (-dc)) 0 (remH (shiftD dr dc) h) (remK (shiftD dr dc) h k) = remK (shiftD (-dr) (-dc)) (remH (shiftD dr dc) h) (remK (shiftD dr dc) h k) from rfl, hb.1, hb.2] at this
    exact this
  rw [hc] at HC
  generalize remH (shiftD dr dc) h = H1 at *
  generalize remK (shiftD dr dc) h k = K1 at *
  have hlo' : ¬ ((lost1 h + lostF k : Nat) : Int) < ((lost1 H1 + lostF K1 : Nat) : Int) := by omega
  generalize lost1 h + lostF k = l0 at *
  generalize lost1 H1 + lostF K1 = l1 at *
  clear hd hv ht ho hk hD hde hm hdp hF hc hr hy hy2 hlo rc rm rh rk hbound hbound1
  go_enter Tryz.func7, Tryz.ntmps7
  go_wp2_with (first | (with_reducible refine wpl_id ?_; refine wpl_load rfl _ rfl _ rfl (by ((repeat' (first | with_reducible (first | exact Hid.out (by assumption) | apply Box.set | exact Box.new _ _ | apply Box.other | apply Box.alloc | apply Box.drew | apply Box.drewN) | omega)); done)) ?_) | (with_reducible refine wpl_id ?_; refine wpl_loadW rfl _ rfl _ rfl (by ((repeat' (first | with_reducible (first | exact Hid.out (by assumption) | apply Box.set | exact Box.new _ _ | apply Box.other | apply Box.alloc | apply Box.drew | apply Box.drewN) | omega)); done)) ?_) | (have hneed := HG0; go_at_call 9; refine (HDp.out _ HB.out).mono ?_; rintro e w1 ⟨rfl, hb1⟩; have HX1 := hide (HX.out.below hb1); have HB1 := hide (HB.out.trans (hb1.mono HB.out.size)); clear hb1 HX HB hneed HG0; have HG1 : Hid (0 = 0) := hide rfl) | (have hneed := HG1; go_at_call 24; refine (HC.out _ HB1.out).mono ?_; rintro e w2 ⟨rfl, hb1⟩; have HX2 := hide (HX1.out.below hb1); have HB2 := hide (HB1.out.trans (hb1.mono HB1.out.size)); clear hb1 HX1 HB1 hneed HG1; have HG2 : Hid (0 = 0) := hide rfl) | (have hneed := HG2; go_at_call 17; refine (HS0.out _ HB2.out).mono ?_; rintro e w3 ⟨a3, n3, c3, rfl, hk1, hb1⟩; have HN3 := hide (Nb.new (h := h) hk1); have HA3 := hide HN3.out.box; have HX3 := hide ((HX2.out.below hb1).alloc (.cells (hdC h (.slice a3 n3 c3)).toArray 33)); have HB3 := hide ((HB2.out.trans (hb1.mono HB2.out.size)).alloc (HB2.out.trans (hb1.mono HB2.out.size)).size (.cells (hdC h (.slice a3 n3 c3)).toArray 33)); clear hb1 hk1 HX2 HB2 hneed HG2; have HG3 : Hid (0 = 0) := hide rfl) | (have hneed := HG3; go_at_call 16; refine (HSm.out _ _ _ HN3.out.kv (HKn.out _ HB3.out)).mono ?_; rintro e w4 ⟨rfl, hb1⟩; have HX4 := hide (HX3.out.below hb1); have HB4 := hide (HB3.out.trans (hb1.mono HB3.out.size)); clear hb1 HX3 HB3 hneed HG3; have HG4 : Hid (0 = 0) := hide rfl) | (have hneed := HG4; go_at_call 17; refine (HS1.out _ HB4.out).mono ?_; rintro e w5 ⟨a5, n5, c5, rfl, hk1, hb1⟩; have HN5 := hide (Nb.new (h := H1) hk1); have HA5 := hide HN5.out.box; have HX5 := hide ((HX4.out.below hb1).alloc (.cells (hdC H1 (.slice a5 n5 c5)).toArray 33)); have HB5 := hide ((HB4.out.trans (hb1.mono HB4.out.size)).alloc (HB4.out.trans (hb1.mono HB4.out.size)).size (.cells (hdC H1 (.slice a5 n5 c5)).toArray 33)); clear hb1 hk1 HX4 HB4 hneed HG4; have HG5 : Hid (0 = 0) := hide rfl) | (with_reducible refine wpl_id ?_; refine wpl_newN rfl _ _ rfl rfl rfl rfl ?_))
  generalize w5.alloc (.cells (hdC H1 (.slice a5 n5 c5)).toArray 33) = W0 at *
  have HSr : Hid (∀ W : World, Below W0.heap.size W0 W → Below W0.heap.size W0 W ∧ (∀ j, j < 16 → W.cell? ⟨w5.heap.size, 0 + j, none⟩ = (hdC H1 (.slice a5 n5 c5))[j]?) ∧ (∀ j, j < 16 → W.cell? ⟨w.heap.size, 0 + j, none⟩ = (hdC h (.slice a n cap))[j]?)) := fun W hW => ⟨hW, boxN_cells (HN5.out.box.below hW), boxN_cells (HX5.out.below hW)⟩
  have HBd : Hid (Below W0.heap.size W0 W0.drew) := (Below.refl _ _).drew
  refine wp_region_held_drew (S := fun W => Below W0.heap.size W0 W ∧ (∀ j, j < 16 → W.cell? ⟨w5.heap.size, 0 + j, none⟩ = (hdC H1 (.slice a5 n5 c5))[j]?) ∧ (∀ j, j < 16 → W.cell? ⟨w.heap.size, 0 + j, none⟩ = (hdC h (.slice a n cap))[j]?)) (by kernel_rfl) (HSr.out _ HBd.out) (fun hHeld => ?_)
  (refine takeE (i := 0) (some 48) rfl rfl (by kernel_rfl) (v := .agg (hdC H1 (.slice a5 n5 c5)).toArray) rfl (fun W hSW => exec_loadAt _ rfl w5.heap.size 0 rfl hSW.2.1) (by assumption) ?_; try simp only [Act.put, pA, pB, pC])
  (refine takeE (i := 2) (some 50) rfl rfl (by kernel_rfl) (v := .agg (hdC h (.slice a n cap)).toArray) rfl (fun W hSW => exec_loadAt _ rfl w.heap.size 0 rfl hSW.2.2) (by assumption) ?_; try simp only [Act.put, pA, pB, pC])
  (refine wpAnyH_ready (rs := [1]) (by kernel_rfl) (by simp) ?_; refine AllReadyH.cons (o := _) rfl (fun K hK => ?_) AllReadyH.nil; go_simp; (go_at_call 25; refine (HLb.out _ _ _ _ (HN5.out.below HBd.out).kv).mono ?_; rintro e w6 ⟨rfl, hb1⟩; have HQ6 := hide (HBd.out.trans (hb1.mono (Nat.le_refl _))); clear hb1); refine hK.out _ _ (HSr.out w6 HQ6.out) (fun hHeld => ?_); clear hK K; try simp only [Act.put, pA, pB, pC])
  (refine wpAnyH_ready (rs := [3]) (by kernel_rfl) (by simp) ?_; refine AllReadyH.cons (o := _) rfl (fun K hK => ?_) AllReadyH.nil; go_simp; (go_at_call 25; refine (HLn.out _ (HB5.out.trans (HQ6.out.mono HB5.out.size))).mono ?_; rintro e w7 ⟨rfl, hb1⟩; have HQ7 := hide (HQ6.out.trans (hb1.mono HQ6.out.size)); clear hb1); refine hK.out _ _ (HSr.out w7 HQ7.out) (fun hHeld => ?_); clear hK K; try simp only [Act.put, pA, pB, pC])
  refine takeF 4 (some 52) ?_
  refine wpAnyH_done (by kernel_rfl) ?_ _
  have HN5x := hide (HN5.out.below HQ7.out)
  have HX7 := hide (HX5.out.below HQ7.out)
  have HB7 := hide (HB5.out.trans (HQ7.out.mono HB5.out.size))
  clear HN5 HA5 HX5 HB5 HQ6 HQ7 HSr HBd HG5
  have HN5 := HN5x
  clear HN5x
  have HA5 := hide HN5.out.box
  have HG7 : Hid (0 = 0) := hide rfl
  go_wp2_with (first | (with_reducible refine wpl_id ?_; refine wpl_load rfl _ rfl _ rfl (by ((repeat' (first | with_reducible (first | exact Hid.out (by assumption) | apply Box.set | exact Box.new _ _ | apply Box.other | apply Box.alloc | apply Box.drew | apply Box.drewN) | omega)); done)) ?_) | (with_reducible refine wpl_id ?_; refine wpl_loadW rfl _ rfl _ rfl (by ((repeat' (first | with_reducible (first | exact Hid.out (by assumption) | apply Box.set | exact Box.new _ _ | apply Box.other | apply Box.alloc | apply Box.drew | apply Box.drewN) | omega)); done)) ?_) | (have hneed := HG7; go_at_call 17; refine (HS2.out _ _ _ _ HN5.out.kv).mono ?_; rintro e w8 ⟨a8, n8, c8, rfl, hk1, hb1⟩; have HN8 := hide (Nb.new (h := h) hk1); have HA8 := hide HN8.out.box; have HX8 := hide ((HX7.out.below hb1).alloc (.cells (hdC h (.slice a8 n8 c8)).toArray 33)); have HB8 := hide ((HB7.out.trans (hb1.mono HB7.out.size)).alloc (HB7.out.trans (hb1.mono HB7.out.size)).size (.cells (hdC h (.slice a8 n8 c8)).toArray 33)); clear hb1 hk1 HX7 HB7 hneed HG7; have HG8 : Hid (0 = 0) := hide rfl) | (have hneed := HG8; go_at_call 16; refine (HSm.out _ _ _ HN8.out.kv (HKn.out _ HB8.out)).mono ?_; rintro e w9 ⟨rfl, hb1⟩; have HX9 := hide (HX8.out.below hb1); have HB9 := hide (HB8.out.trans (hb1.mono HB8.out.size)); clear hb1 HX8 HB8 hneed HG8; have HG9 : Hid (0 = 0) := hide rfl) | (have hneed := HG9; go_at_call 10; refine (HL.out _).mono ?_; rintro e wz ⟨rfl, hb1⟩; have HBz := hide (HB9.out.trans (hb1.mono HB9.out.size)); clear hb1 hneed HG9) | (with_reducible refine wpl_id ?_; refine wpl_newN rfl _ _ rfl rfl rfl rfl ?_))
  go_ret
  exact ⟨rfl, HBz.out⟩
end Go.Proofs.YtfpmmckpobpokaaGreat
