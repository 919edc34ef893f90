/-
  The walk of WideMiddle where the row has 1 to 200 numbers, and times is from 1 to 200: it returns true.
-/
import Derived.Test.YtcabpcneiddgcaaWideMem2
import Derived.Test.YtcabpcneiddgcaaWideMiddleMath
import Derived.Test.YtcabpcneiddgcaaWide2
import Derived.Test.YtcabpcneiddgcaaWideMean
import Derived.Test.YtcabpcneiddgcaaWideOpenRow
import Derived.Deep.RegionHeld3
namespace Go.Proofs.Ytcabpcneiddgcaa
open Go.RowKit

set_option maxRecDepth 100000 in
set_option maxHeartbeats 16000000 in
theorem middle_some (n ts : Int) (b off len cap : Nat) (zs : List Int) (w : World) (k0 : 0 < len) (k1 : len ≤ 200) (t0 : 1 ≤ ts) (t1 : ts ≤ 200) (kc : len ≤ cap) (hz : zs.length = cap)
    (hcell0 : ∀ j, j < zs.length → w.cell? ⟨b, off + j, none⟩ = some (.int .i64 (zs.getD j 0))) :
    Calls Try.prog 8 #[.slice (some ⟨b, off, none⟩) len cap, .int .i64 n, .int .i64 ts] w fun e w' => e = .returned (.bool true) ∧ Below w.heap.size w w' := by
  have q0 : 0 < (len : Int) := by omega
  have q1 : (len : Int) ≤ 200 := by omega
  have q2 : ((len : Int) == 0) = false := by simp; omega
  have hcell := hide hcell0
  have y0 := hcell0 0 (by omega)
  clear hcell0
  have bw : b < w.heap.size := World.block_lt_of_cell? _ _ y0
  obtain ⟨f0, hf0⟩ : ∃ p, zs.getD 0 0 = p := ⟨_, rfl⟩
  rw [hf0] at y0
  have HF0 := hide hf0
  clear hf0
  go_enter Try.func8, Try.ntmps8
  go_wp2_with fail
  have hW0 : Has ((w.alloc (.cells #[.int .i64 0, .int .i64 0] 23)).alloc (.cells #[.int .i64 0, .int .i64 0] 23)) w.heap.size 0 0 := (Has.fresh w 23).alloc _
  have hV0 : Has ((w.alloc (.cells #[.int .i64 0, .int .i64 0] 23)).alloc (.cells #[.int .i64 0, .int .i64 0] 23)) (w.heap.size + 1) 0 0 := Has.at _ _ 0 0 23 (by simp)
  have B0 : Below w.heap.size w ((w.alloc (.cells #[.int .i64 0, .int .i64 0] 23)).alloc (.cells #[.int .i64 0, .int .i64 0] 23)) := by
    repeat' (first | with_reducible exact Below.refl _ _ | with_reducible refine Below.setCell ?_ ?_ _ | with_reducible refine Below.alloc ?_ ?_ _ | with_reducible refine below_drewN ?_ _ | with_reducible refine Below.drew ?_ | with_reducible refine Below.trans ?_ (Below.mono (by assumption) ?_) | with_reducible exact Nat.le_refl _ | with_reducible refine Nat.le_trans ?_ (Below.size (by assumption)) | with_reducible refine Nat.le_trans ?_ (size_alloc _ _) | with_reducible refine Nat.le_trans ?_ (size_set _ _ _) | with_reducible refine Nat.le_trans ?_ (size_drewN _ _) | with_reducible refine Nat.le_trans ?_ (size_drew _) | (simp; done) | (simp; omega) | omega)
  have y1 := row_below hcell.out B0 0 (by omega)
  rw [HF0.out, Nat.add_zero] at y1
  obtain ⟨bV, hbV⟩ : ∃ x, w.heap.size + 1 = x := ⟨_, rfl⟩
  rw [hbV] at hV0 ⊢
  have gV : w.heap.size < bV := by omega
  clear hbV
  generalize (w.alloc (.cells #[.int .i64 0, .int .i64 0] 23)).alloc (.cells #[.int .i64 0, .int .i64 0] 23) = W0 at hW0 hV0 B0 y1 ⊢
  apply wp_cut0 (F := fun w' => Has w' w.heap.size 0 0 ∧ Has w' bV 0 0 ∧ Below w.heap.size w w')
  case hr =>
    go_quiet (fail)
    exact ⟨rfl, hW0.drewN _, hV0.drewN _, below_drewN B0 _⟩
  intro W1 ⟨hW1, hV1, B1⟩
  clear hW0 hV0 B0 y1 y0
  go_wp2
  go_loopw [9, 10, 11] (fun lo hi i wr => ∃ (k : Nat) (wh wl p q : Int), k ≤ len ∧ i = .int .i64 k ∧ lo = .int .i64 p ∧ hi = .int .i64 q ∧ Has wr w.heap.size wh wl ∧ Has wr bV 0 0 ∧ Below w.heap.size w wr ∧ rightB wh wl = true ∧ valW wh wl = sumTo (fun j => zs.getD j 0) k ∧ (∀ j, j < k → fitsB (zs.getD j 0) = true) ∧ (∀ j, j < k → p ≤ zs.getD j 0 ∧ zs.getD j 0 ≤ q) ∧ (k = 0 → p = f0 ∧ q = f0) ∧ (0 < k → fitsB p = true ∧ fitsB q = true)) (fun _ _ i _ => len - (intOf i).toNat)
  case atStart => exact ⟨0, 0, 0, f0, f0, Nat.zero_le _, rfl, rfl, rfl, hW1, hV1, B1, by decide, by simp [sumTo, valW], fun j hj => absurd hj (by omega), fun j hj => absurd hj (by omega), fun _ => ⟨rfl, rfl⟩, fun k => absurd k (by omega)⟩
  case round =>
    clear hW1 hV1 B1
    obtain ⟨k, wh, wl, lo, hi, hk, rfl, rfl, rfl, hW, hV, hB, rw', vw, hf, hlh, hz0, hfit⟩ := hrel
    have VW := hide vw
    have HF := hide hf
    have HL := hide hlh
    have HZ := hide hz0
    have HT := hide hfit
    clear vw hf hlh hz0 hfit
    obtain ⟨⟨Wl, Wx, Wy⟩, Wf, Wg⟩ := id hW
    obtain ⟨⟨Vl, Vx, Vy⟩, Vf, Vg⟩ := id hV
    by_cases hlt : k < len
    · have ek : (k : Int) < (len : Int) := by omega
      have z1 := row_below hcell.out hB k (by omega)
      have bl : b < wr.heap.size := World.block_lt_of_cell? _ _ z1
      obtain ⟨p, hp⟩ : ∃ p, zs.getD k 0 = p := ⟨_, rfl⟩
      rw [hp] at z1
      have HA : Hid (∀ W : World, Calls Try.prog 9 #[.agg #[.int .i64 wh, .int .i64 wl], .int .i64 p] W fun e w' => e = .returned (.tuple #[.agg #[.int .i64 (addW wh wl p).1, .int .i64 (addW wh wl p).2.1], .int .i64 (addW wh wl p).2.2]) ∧ Below W.heap.size W w') := fun W => addW_any wh wl p W
      have HFit : Hid (∀ W : World, Calls Try.prog 25 #[.int .i64 p] W fun e w' => e = .returned (.bool (fitsB p)) ∧ w' = W) := fun W => fits_any p W
      cases fp : fitsB p
      · rw [addW_no2 fp] at HA
        rw [fp] at HFit
        go_wp2_with fail
        have HS1 : Hid (∀ w', Below wr.heap.size wr w' → w'.cell? ⟨w.heap.size, 0, none⟩ = some (.int .i64 wh) ∧ w'.cell? ⟨w.heap.size, 1, none⟩ = some (.int .i64 wl) ∧ w'.cell? ⟨b, off + k, none⟩ = some (.int .i64 p) ∧ Below wr.heap.size wr w') := fun w' hb => ⟨(hW.below hb).1.2.1, (hW.below hb).1.2.2, by rw [hb.cell (p := ⟨b, off + k, none⟩) bl]; exact z1, hb⟩
        have hS1 := HS1.out wr (Below.refl _ _)
        apply wp_cutT (F := fun cA w' => Has w' w.heap.size wh wl ∧ Has w' bV 0 0 ∧ Has w' cA 0 0 ∧ cA ≠ bV ∧ w.heap.size < cA ∧ Below w.heap.size w w')
        case hr =>
          go_region_held3 (fun w' => w'.cell? ⟨w.heap.size, 0, none⟩ = some (.int .i64 wh) ∧ w'.cell? ⟨w.heap.size, 1, none⟩ = some (.int .i64 wl) ∧ w'.cell? ⟨b, off + k, none⟩ = some (.int .i64 p) ∧ Below wr.heap.size wr w') (first | assumption | (refine HS1.out _ ?_; repeat' (first | with_reducible exact And.right (And.right (And.right (by assumption))) | with_reducible refine Below.setCell ?_ ?_ _ | with_reducible refine Below.alloc ?_ ?_ _ | with_reducible refine Below.drew ?_ | exact Nat.le_refl _ | assumption | exact Below.size (And.right (And.right (And.right (by assumption)))) | (simp; omega)))) (first | (go_at_call 9; refine (HA.out _).mono ?_; rintro e w1 ⟨rfl, hb1⟩; have hs1 := HS1.out w1 (Below.trans (And.right (And.right (And.right (by assumption)))) (hb1.mono (Below.size (And.right (And.right (And.right (by assumption))))))); have sz1 := Below.size (And.right (And.right (And.right (hs1)))); have N1 : Has w1 wr.heap.size 0 0 := Has.below (by (first | exact Has.fresh wr _ | exact Has.fresh wr.drew _)) hb1; obtain ⟨⟨Nl, Nx, Ny⟩, Nf, Ng⟩ := id N1) | (go_at_call 9; refine (HA.out _).mono ?_; rintro e w1 ⟨rfl, hb1⟩; have hs1 := HS1.out w1 (Below.trans (And.right (And.right (And.right (by assumption)))) (hb1.mono (Below.size (And.right (And.right (And.right (by assumption))))))); have sz1 := Below.size (And.right (And.right (And.right (hs1))))))
          all_goals
            first | (refine ⟨w1.heap.size, ?_, hW.below (And.right (And.right (And.right (by assumption)))), hV.below (And.right (And.right (And.right (by assumption)))), Has.at w1 _ 0 0 23 rfl, by omega, by omega, hB.trans (Below.mono (And.right (And.right (And.right (by assumption)))) hB.size)⟩; generalize w1.heap.size = cc; rfl) | (refine ⟨wr.heap.size, ?_, hW.below (And.right (And.right (And.right (by assumption)))), hV.below (And.right (And.right (And.right (by assumption)))), N1.set 0 0, by omega, by omega, hB.trans (Below.mono (And.right (And.right (And.right (by assumption)))) hB.size)⟩; generalize wr.heap.size = cc; rfl)
        intro cA w1 ⟨W2, V2, A1, nV, gA, B2⟩
        have z2 := row_below hcell.out B2 k (by omega)
        rw [hp] at z2
        have bl2 : b < w1.heap.size := World.block_lt_of_cell? _ _ z2
        clear HS1 hS1 hW hV hB Wl Wx Wy Wf Wg Vl Vx Vy Vf Vg z1 bl
        go_wp2_with (first | (go_at_call 25; refine (HFit.out _).mono ?_; rintro e wz ⟨rfl, hz⟩; subst wz) | (go_at_call 17; refine (lives3_any _).mono ?_; rintro e w9 ⟨rfl, hb9⟩))
        go_ret
        exact ⟨rfl, B2.trans (hb9.mono B2.size)⟩
      · obtain ⟨s0, s1⟩ := sum_small (f := fun j => zs.getD j 0) (n := k) (by omega) HF.out
        rw [← VW.out] at s0 s1
        obtain ⟨e1, e3, e4⟩ := addW_small rw' s0 s1 fp
        have VA := hide e4
        rw [e1] at HA
        clear HFit e1 e4 s0 s1
        generalize (addW wh wl p).1 = a0 at *
        generalize (addW wh wl p).2.1 = a1 at *
        go_wp2_with fail
        have HS1 : Hid (∀ w', Below wr.heap.size wr w' → w'.cell? ⟨w.heap.size, 0, none⟩ = some (.int .i64 wh) ∧ w'.cell? ⟨w.heap.size, 1, none⟩ = some (.int .i64 wl) ∧ w'.cell? ⟨b, off + k, none⟩ = some (.int .i64 p) ∧ Below wr.heap.size wr w') := fun w' hb => ⟨(hW.below hb).1.2.1, (hW.below hb).1.2.2, by rw [hb.cell (p := ⟨b, off + k, none⟩) bl]; exact z1, hb⟩
        have hS1 := HS1.out wr (Below.refl _ _)
        apply wp_cutT (F := fun cA w' => Has w' w.heap.size wh wl ∧ Has w' bV 0 0 ∧ Has w' cA a0 a1 ∧ cA ≠ bV ∧ w.heap.size < cA ∧ Below w.heap.size w w')
        case hr =>
          go_region_held3 (fun w' => w'.cell? ⟨w.heap.size, 0, none⟩ = some (.int .i64 wh) ∧ w'.cell? ⟨w.heap.size, 1, none⟩ = some (.int .i64 wl) ∧ w'.cell? ⟨b, off + k, none⟩ = some (.int .i64 p) ∧ Below wr.heap.size wr w') (first | assumption | (refine HS1.out _ ?_; repeat' (first | with_reducible exact And.right (And.right (And.right (by assumption))) | with_reducible refine Below.setCell ?_ ?_ _ | with_reducible refine Below.alloc ?_ ?_ _ | with_reducible refine Below.drew ?_ | exact Nat.le_refl _ | assumption | exact Below.size (And.right (And.right (And.right (by assumption)))) | (simp; omega)))) (first | (go_at_call 9; refine (HA.out _).mono ?_; rintro e w1 ⟨rfl, hb1⟩; have hs1 := HS1.out w1 (Below.trans (And.right (And.right (And.right (by assumption)))) (hb1.mono (Below.size (And.right (And.right (And.right (by assumption))))))); have sz1 := Below.size (And.right (And.right (And.right (hs1)))); have N1 : Has w1 wr.heap.size 0 0 := Has.below (by (first | exact Has.fresh wr _ | exact Has.fresh wr.drew _)) hb1; obtain ⟨⟨Nl, Nx, Ny⟩, Nf, Ng⟩ := id N1) | (go_at_call 9; refine (HA.out _).mono ?_; rintro e w1 ⟨rfl, hb1⟩; have hs1 := HS1.out w1 (Below.trans (And.right (And.right (And.right (by assumption)))) (hb1.mono (Below.size (And.right (And.right (And.right (by assumption))))))); have sz1 := Below.size (And.right (And.right (And.right (hs1))))))
          all_goals
            first | (refine ⟨w1.heap.size, ?_, hW.below (And.right (And.right (And.right (by assumption)))), hV.below (And.right (And.right (And.right (by assumption)))), Has.at w1 _ a0 a1 23 rfl, by omega, by omega, hB.trans (Below.mono (And.right (And.right (And.right (by assumption)))) hB.size)⟩; generalize w1.heap.size = cc; rfl) | (refine ⟨wr.heap.size, ?_, hW.below (And.right (And.right (And.right (by assumption)))), hV.below (And.right (And.right (And.right (by assumption)))), N1.set a0 a1, by omega, by omega, hB.trans (Below.mono (And.right (And.right (And.right (by assumption)))) hB.size)⟩; generalize wr.heap.size = cc; rfl)
        intro cA w1 ⟨W2, V2, A1, nV, gA, B2⟩
        have z2 := row_below hcell.out B2 k (by omega)
        rw [hp] at z2
        clear HS1 hS1 hW hV hB Wl Wx Wy Wf Wg Vl Vx Vy Vf Vg z1 bl HA
        obtain ⟨⟨Wl, Wx, Wy⟩, Wf, Wg⟩ := id W2
        obtain ⟨⟨Al, Ax, Ay⟩, Af, Ag⟩ := id A1
        have hS3 := row_cell A1.1 z2
        go_wp2_with fail
        apply wp_cut0 (F := fun w' => Has w' w.heap.size a0 a1 ∧ Has w' bV 0 0 ∧ Below w.heap.size w w')
        case hr =>
          go_region_held3 (fun w' => w'.cell? ⟨cA, 0, none⟩ = some (.int .i64 a0) ∧ w'.cell? ⟨cA, 1, none⟩ = some (.int .i64 a1) ∧ w'.cell? ⟨b, off + k, none⟩ = some (.int .i64 p)) (first | assumption | (refine row_cell ?_ ?_ <;> repeat' (first | exact A1.1 | exact z2 | with_reducible refine At.drew1 ?_ | with_reducible refine At.other ?_ ?_ _ _ | with_reducible refine cell_drew ?_ | with_reducible refine cell_far ?_ ?_ | omega))) (fail)
          all_goals refine ⟨rfl, W2.set a0 a1, (V2.other (by omega) _ _).other (by omega) _ _, ?_⟩
          all_goals repeat' (first | with_reducible exact B2 | with_reducible refine Below.drew ?_ | with_reducible refine Below.setCell ?_ ?_ _ | exact Nat.le_refl _)
        intro w3 ⟨W3, V3, B3⟩
        have HP := hide hp
        have E3 := hide e3
        have FP := hide fp
        clear hp e3 fp hS3 z2 nV gA W2 V2 A1 B2 Wl Wx Wy Wf Wg Al Ax Ay Af Ag rw'
        have L1 : Hid (min lo p ≤ lo ∧ min lo p ≤ p ∧ (min lo p = lo ∨ min lo p = p)) := hide (by omega)
        have L2 : Hid (hi ≤ max hi p ∧ p ≤ max hi p ∧ (max hi p = hi ∨ max hi p = p)) := hide (by omega)
        generalize min lo p = lo2 at *
        generalize max hi p = hi2 at *
        go_wp2
        go_round
        case rel => exact ⟨k + 1, a0, a1, lo2, hi2, by omega, by go_num, rfl, rfl, W3, V3, B3, E3.out, by rw [VA.out, VW.out]; show _ = _ + zs.getD k 0; rw [HP.out], fun j hj => by
            by_cases e : j = k
            · rw [e, HP.out]; exact FP.out
            · exact HF.out j (by omega), fun j hj => by
            by_cases e : j = k
            · rw [e, HP.out]; have := L1.out; have := L2.out; omega
            · have := HL.out j (by omega); have := L1.out; have := L2.out; omega, fun e => absurd e (by omega), fun _ => by
            have l1 := L1.out.2.2
            have l2 := L2.out.2.2
            by_cases e : k = 0
            · have q := HZ.out e
              have e5 : p = f0 := by rw [← HP.out, e, HF0.out]
              have a : lo2 = p := by rw [q.1] at l1; omega
              have c : hi2 = p := by rw [q.2] at l2; omega
              rw [a, c]; exact ⟨FP.out, FP.out⟩
            · have q := HT.out (by omega)
              exact ⟨fits_or l1 q.1 FP.out, fits_or l2 q.2 FP.out⟩⟩
        case measure => simp [intOf]; omega
    · obtain rfl : k = len := by omega
      have q := HT.out (by omega)
      have sb := sum_bd k (HL.out)
      rw [← VW.out] at sb
      obtain ⟨m0, m1⟩ := mean_between (c := (k : Int)) (by omega) sb.1 sb.2
      have f1 := fitsB_true q.1
      have f2 := fitsB_true q.2
      have em := meanW_told rw' (c := (k : Int)) (by omega) (by omega) (fitsB_of (by omega) (by omega))
      have HM : Hid (∀ W : World, Calls Try.prog 20 #[.agg #[.int .i64 wh, .int .i64 wl], .int .i64 (k : Int)] W fun e w' => e = .returned (.tuple #[.int .i64 (meanW wh wl k).1, .int .i64 (meanW wh wl k).2]) ∧ Below W.heap.size W w') := fun W => meanW_any wh wl k W
      rw [em] at HM
      clear em sb q f1 f2 VW HF HL HZ HT
      generalize halfEven (valW wh wl) (k : Int) = x at *
      go_wp2_with (go_at_call 20; refine (HM.out _).mono ?_; rintro e w1 ⟨rfl, hb1⟩)
      have V1 := hV.below hb1
      have B1 := hB.trans (hb1.mono hB.size)
      clear hV hW hB hb1 HM Wl Wx Wy Wf Wg Vl Vx Vy Vf Vg rw'
      go_loopw [16] (fun i wr => ∃ (m : Nat) (vh vl : Int), (m : Int) ≤ ts ∧ i = .int .i64 m ∧ Has wr bV vh vl ∧ Below w.heap.size w wr ∧ rightB vh vl = true ∧ valW vh vl = n * m ∧ (0 < m → fitsB n = true)) (fun i _ => (ts - intOf i).toNat)
      case atStart => exact ⟨0, 0, 0, by omega, rfl, V1, B1, by decide, by simp [valW], fun k => absurd k (by omega)⟩
      case round =>
        clear V1 B1
        obtain ⟨m, vh, vl, hm, rfl, hV, hB, rv, vv, hn⟩ := hrel
        have VV := hide vv
        have HN := hide hn
        clear vv hn
        obtain ⟨⟨Vl, Vx, Vy⟩, Vf, Vg⟩ := id hV
        by_cases hmt : (m : Int) < ts
        · have HA : Hid (∀ W : World, Calls Try.prog 9 #[.agg #[.int .i64 vh, .int .i64 vl], .int .i64 n] W fun e w' => e = .returned (.tuple #[.agg #[.int .i64 (addW vh vl n).1, .int .i64 (addW vh vl n).2.1], .int .i64 (addW vh vl n).2.2]) ∧ Below W.heap.size W w') := fun W => addW_any vh vl n W
          have HFit : Hid (∀ W : World, Calls Try.prog 25 #[.int .i64 n] W fun e w' => e = .returned (.bool (fitsB n)) ∧ w' = W) := fun W => fits_any n W
          cases fp : fitsB n
          · rw [addW_no2 fp] at HA
            rw [fp] at HFit
            go_wp2_with fail
            refine (HA.out _).mono ?_
            rintro e w2 ⟨rfl, hb2⟩
            have B2 := hB.trans (hb2.mono hB.size)
            clear hb2 hV hB Vl Vx Vy Vf Vg
            go_wp2_with (first | (go_at_call 25; refine (HFit.out _).mono ?_; rintro e wz ⟨rfl, hz⟩; subst wz) | (go_at_call 17; refine (lives3_any _).mono ?_; rintro e w9 ⟨rfl, hb9⟩))
            go_ret
            refine ⟨rfl, ?_⟩
            repeat' (first | with_reducible exact Below.refl _ _ | with_reducible refine Below.setCell ?_ ?_ _ | with_reducible refine Below.alloc ?_ ?_ _ | with_reducible refine below_drewN ?_ _ | with_reducible refine Below.drew ?_ | with_reducible refine Below.trans ?_ (Below.mono (by assumption) ?_) | with_reducible exact Nat.le_refl _ | with_reducible refine Nat.le_trans ?_ (Below.size (by assumption)) | with_reducible refine Nat.le_trans ?_ (size_alloc _ _) | with_reducible refine Nat.le_trans ?_ (size_set _ _ _) | with_reducible refine Nat.le_trans ?_ (size_drewN _ _) | with_reducible refine Nat.le_trans ?_ (size_drew _) | (simp; done) | (simp; omega) | omega)
          · obtain ⟨s0, s1⟩ := times_bd (m := m) fp (by omega)
            rw [← VV.out] at s0 s1
            obtain ⟨e1, e3, e4⟩ := addW_small rv s0 s1 fp
            have VA := hide e4
            rw [e1] at HA
            clear HFit e1 e4 s0 s1
            generalize (addW vh vl n).1 = a0 at *
            generalize (addW vh vl n).2.1 = a1 at *
            go_wp2_with fail
            refine (HA.out _).mono ?_
            rintro e w2 ⟨rfl, hb2⟩
            have V2 := hV.below hb2
            have B2 := hB.trans (hb2.mono hB.size)
            clear hb2 hV hB Vl Vx Vy Vf Vg HA
            obtain ⟨⟨Vl, Vx, Vy⟩, Vf, Vg⟩ := id V2
            go_wp2
            go_round
            case rel => exact ⟨m + 1, a0, a1, by omega, by go_num, (V2.set a0 a1).alloc _, ((B2.setCell (Nat.le_of_lt gV) _).setCell (Nat.le_of_lt gV) _).alloc (by have := B2.size; simp; omega) _, e3, by rw [VA.out, VV.out, show ((m + 1 : Nat) : Int) = (m : Int) + 1 by omega, Int.mul_add, Int.mul_one], fun _ => by first | exact fp | trivial⟩
            case measure => simp [intOf]; omega
        · have em : (m : Int) = ts := by omega
          have fn := HN.out (by omega)
          rw [em] at VV
          have eh : halfEven (valW vh vl) ts = n := by rw [VV.out]; exact mean_alike n ts t0
          have mt := meanW_told rv (c := ts) t0 (by omega) (by rw [eh]; exact fn)
          rw [eh] at mt
          have HM : Hid (∀ W : World, Calls Try.prog 20 #[.agg #[.int .i64 vh, .int .i64 vl], .int .i64 ts] W fun e w' => e = .returned (.tuple #[.int .i64 (meanW vh vl ts).1, .int .i64 (meanW vh vl ts).2]) ∧ Below W.heap.size W w') := fun W => meanW_any vh vl ts W
          rw [mt] at HM
          clear mt eh fn VV HN em
          go_wp2_with (go_at_call 20; refine (HM.out _).mono ?_; rintro e w2 ⟨rfl, hb2⟩)
          have B2 := hB.trans (hb2.mono hB.size)
          clear hB hb2 hV Vl Vx Vy Vf Vg
          go_wp2_with (go_at_call 17; refine (lives3_any _).mono ?_; rintro e w9 ⟨rfl, hb9⟩)
          go_ret
          exact ⟨rfl, B2.trans (hb9.mono B2.size)⟩
end Go.Proofs.Ytcabpcneiddgcaa
