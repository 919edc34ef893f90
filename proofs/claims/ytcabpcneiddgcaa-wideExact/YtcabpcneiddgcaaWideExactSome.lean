/-
  The walk of WideExact where the sum is right and the row has at most 200 numbers: it returns true.
-/
import Derived.Test.YtcabpcneiddgcaaWideMem
import Derived.Test.YtcabpcneiddgcaaWideExactMath
import Derived.Test.YtcabpcneiddgcaaWide2
import Derived.Test.YtcabpcneiddgcaaWide3
import Derived.Test.YtcabpcneiddgcaaWideOpenRow
import Derived.Deep.RegionHeld3
namespace Go.Proofs.Ytcabpcneiddgcaa
open Go.RowKit

set_option maxHeartbeats 16000000 in
theorem exact_some (h l : Int) (a : Option Addr) (b off len cap : Nat) (zs : List Int) (w : World) (r : rightB h l = true) (k1 : len ≤ 200) (kc : len ≤ cap) (hz : zs.length = cap) (ha : Hid (0 < len → a = some ⟨b, off, none⟩))
    (hcell : ∀ j, j < zs.length → w.cell? ⟨b, off + j, none⟩ = some (.int .i64 (zs.getD j 0))) :
    Calls Try.prog 6 #[.agg #[.int .i64 h, .int .i64 l], .slice a len cap] w fun e w' => e = .returned (.bool true) ∧ Below w.heap.size w w' := by
  have HC : Hid (∀ W : World, Calls Try.prog 15 #[.agg #[.int .i64 h, .int .i64 l]] W fun e w' => e = .returned (.int .i64 (checkR h l)) ∧ w' = W.alloc (.cells #[.int .i64 h, .int .i64 l] 23)) := fun W => check_any h l W
  rw [checkR_yes r] at HC
  have q1 : (len : Int) ≤ 200 := by omega
  go_enter Try.func6, Try.ntmps6
  go_wp2_with (go_at_call 15; refine (HC.out _).mono ?_; rintro e w1 ⟨rfl, rfl⟩)
  clear HC
  apply wp_cutT2 (F := fun bX bY w' => At w' w.heap.size h l ∧ Has w' bX h l ∧ Has w' bY h l ∧ Below w.heap.size w w' ∧ bX ≠ bY ∧ w.heap.size < bX ∧ w.heap.size < bY)
  case hr =>
    go_region
    · refine ⟨w.heap.size + 1 + 1, w.heap.size + 1 + 1 + 1, ?_, (((At.new w h l 23).alloc _).alloc _).alloc _, (Has.at ((w.alloc (.cells #[.int .i64 h, .int .i64 l] 23)).alloc (.cells #[.int .i64 h, .int .i64 l] 23)) _ h l 23 (by simp)).alloc _, Has.at (((w.alloc (.cells #[.int .i64 h, .int .i64 l] 23)).alloc (.cells #[.int .i64 h, .int .i64 l] 23)).alloc (.cells #[.int .i64 h, .int .i64 l] 23)) _ h l 23 (by simp), ?_, by omega, by omega, by omega⟩
      · generalize w.heap.size + 1 + 1 + 1 = j
        generalize w.heap.size + 1 + 1 = i
        rfl
      · repeat' (first | with_reducible exact Below.refl _ _ | with_reducible refine Below.setCell ?_ ?_ _ | with_reducible refine Below.alloc ?_ ?_ _ | with_reducible refine below_drewN ?_ _ | with_reducible refine Below.drew ?_ | with_reducible refine Below.trans ?_ (Below.mono (by assumption) ?_) | with_reducible exact Nat.le_refl _ | with_reducible refine Nat.le_trans ?_ (Below.size (by assumption)) | with_reducible refine Nat.le_trans ?_ (size_alloc _ _) | with_reducible refine Nat.le_trans ?_ (size_set _ _ _) | with_reducible refine Nat.le_trans ?_ (size_drewN _ _) | with_reducible refine Nat.le_trans ?_ (size_drew _) | (simp; done) | (simp; omega) | omega)
    · refine ⟨w.heap.size + 1 + 1 + 1, w.heap.size + 1 + 1, ?_, (((At.new w h l 23).alloc _).alloc _).alloc _, Has.at (((w.alloc (.cells #[.int .i64 h, .int .i64 l] 23)).alloc (.cells #[.int .i64 h, .int .i64 l] 23)).alloc (.cells #[.int .i64 h, .int .i64 l] 23)) _ h l 23 (by simp), (Has.at ((w.alloc (.cells #[.int .i64 h, .int .i64 l] 23)).alloc (.cells #[.int .i64 h, .int .i64 l] 23)) _ h l 23 (by simp)).alloc _, ?_, by omega, by omega, by omega⟩
      · generalize w.heap.size + 1 + 1 + 1 = j
        generalize w.heap.size + 1 + 1 = i
        rfl
      · repeat' (first | with_reducible exact Below.refl _ _ | with_reducible refine Below.setCell ?_ ?_ _ | with_reducible refine Below.alloc ?_ ?_ _ | with_reducible refine below_drewN ?_ _ | with_reducible refine Below.drew ?_ | with_reducible refine Below.trans ?_ (Below.mono (by assumption) ?_) | with_reducible exact Nat.le_refl _ | with_reducible refine Nat.le_trans ?_ (Below.size (by assumption)) | with_reducible refine Nat.le_trans ?_ (size_alloc _ _) | with_reducible refine Nat.le_trans ?_ (size_set _ _ _) | with_reducible refine Nat.le_trans ?_ (size_drewN _ _) | with_reducible refine Nat.le_trans ?_ (size_drew _) | (simp; done) | (simp; omega) | omega)
  intro bX bY W0 ⟨hP, hX0, hY0, B0, nXY, gX, gY⟩
  go_wp2
  go_loopw [7] (fun i wr => ∃ (k : Nat) (xh xl yh yl : Int), k ≤ len ∧ i = .int .i64 k ∧ At wr w.heap.size h l ∧ Has wr bX xh xl ∧ Has wr bY yh yl ∧ Below w.heap.size w wr ∧ rightB xh xl = true ∧ rightB yh yl = true ∧ valW xh xl = valW h l + sumTo (fun j => zs.getD j 0) k ∧ valW yh yl = valW h l + sumTo (fun j => zs.getD (len - 1 - j) 0) k ∧ ∀ j, j < k → fitsB (zs.getD j 0) = true) (fun i _ => len - (intOf i).toNat)
  case atStart => exact ⟨0, h, l, h, l, Nat.zero_le _, rfl, hP, hX0, hY0, B0, r, r, by simp [sumTo], by simp [sumTo], fun j hj => absurd hj (by omega)⟩
  case round =>
    clear hP hX0 hY0 B0
    obtain ⟨k, xh, xl, yh, yl, hk, rfl, hP, hX, hY, hB, rx, ry, vx, vy, hf⟩ := hrel
    have VX := hide vx
    have VY := hide vy
    have HF := hide hf
    clear vx vy hf
    obtain ⟨Pl, Px, Py⟩ := id hP
    obtain ⟨⟨Xl, Xx, Xy⟩, Xf, Xg⟩ := id hX
    obtain ⟨⟨Yl, Yx, Yy⟩, Yf, Yg⟩ := id hY
    by_cases hlt : k < len
    · obtain rfl := ha.out (by omega)
      have ek : (k : Int) < (len : Int) := by omega
      have ml : ((len - 1 - k : Nat) : Int) < (len : Int) := by omega
      have m0 : 0 ≤ ((len - 1 - k : Nat) : Int) := by omega
      have eA : (len : Int) - 1 - (k : Int) = ((len - 1 - k : Nat) : Int) := by omega
      have ew1 : IntKind.i64.wrap ((len : Int) - 1) = (len : Int) - 1 := Go.IntWalk.i64_in _ (by omega)
      have ew2 : IntKind.i64.wrap ((len - 1 - k : Nat) : Int) = ((len - 1 - k : Nat) : Int) := Go.IntWalk.i64_in _ (by omega)
      have z1 := row_below hcell hB k (by omega)
      have bl : b < wr.heap.size := World.block_lt_of_cell? _ _ z1
      obtain ⟨p, hp⟩ : ∃ p, zs.getD k 0 = p := ⟨_, rfl⟩
      obtain ⟨q, hq⟩ : ∃ q, zs.getD (len - 1 - k) 0 = q := ⟨_, rfl⟩
      rw [hp] at z1
      have HA : Hid (∀ W : World, Calls Try.prog 9 #[.agg #[.int .i64 xh, .int .i64 xl], .int .i64 p] W fun e w' => e = .returned (.tuple #[.agg #[.int .i64 (addW xh xl p).1, .int .i64 (addW xh xl p).2.1], .int .i64 (addW xh xl p).2.2]) ∧ Below W.heap.size W w') := fun W => addW_any xh xl p W
      have HG : Hid (∀ W : World, Calls Try.prog 9 #[.agg #[.int .i64 yh, .int .i64 yl], .int .i64 q] W fun e w' => e = .returned (.tuple #[.agg #[.int .i64 (addW yh yl q).1, .int .i64 (addW yh yl q).2.1], .int .i64 (addW yh yl q).2.2]) ∧ Below W.heap.size W w') := fun W => addW_any yh yl q W
      have ca := hide (addW_cases (n := p) rx)
      have cg := hide (addW_cases (n := q) ry)
      generalize (addW xh xl p).1 = a0 at *
      generalize (addW xh xl p).2.1 = a1 at *
      generalize (addW xh xl p).2.2 = a2 at *
      generalize (addW yh yl q).1 = g0 at *
      generalize (addW yh yl q).2.1 = g1 at *
      generalize (addW yh yl q).2.2 = g2 at *
      go_wp2_with fail
      have HS1 : Hid (∀ w', Below wr.heap.size wr w' → w'.cell? ⟨bX, 0, none⟩ = some (.int .i64 xh) ∧ w'.cell? ⟨bX, 1, none⟩ = some (.int .i64 xl) ∧ w'.cell? ⟨b, off + k, none⟩ = some (.int .i64 p) ∧ Below wr.heap.size wr w') := fun w' hb => ⟨(hX.below hb).1.2.1, (hX.below hb).1.2.2, by rw [hb.cell (p := ⟨b, off + k, none⟩) bl]; exact z1, hb⟩
      have hS1 := HS1.out wr (Below.refl _ _)
      apply wp_cutT (F := fun cA w' => At w' w.heap.size h l ∧ Has w' bX xh xl ∧ Has w' bY yh yl ∧ Has w' cA a0 a1 ∧ cA ≠ bX ∧ cA ≠ bY ∧ w.heap.size < cA ∧ Below w.heap.size w w')
      case hr =>
        go_region_held3 (fun w' => w'.cell? ⟨bX, 0, none⟩ = some (.int .i64 xh) ∧ w'.cell? ⟨bX, 1, none⟩ = some (.int .i64 xl) ∧ w'.cell? ⟨b, off + k, none⟩ = some (.int .i64 p) ∧ Below wr.heap.size wr w') (first | assumption | (refine HS1.out _ ?_; repeat' (first | with_reducible exact And.right (And.right (And.right (by assumption))) | with_reducible refine Below.setCell ?_ ?_ _ | with_reducible refine Below.alloc ?_ ?_ _ | with_reducible refine Below.drew ?_ | exact Nat.le_refl _ | assumption | exact Below.size (And.right (And.right (And.right (by assumption)))) | (simp; omega)))) (first | (go_at_call 9; refine (HA.out _).mono ?_; rintro e w1 ⟨rfl, hb1⟩; have hs1 := HS1.out w1 (Below.trans (And.right (And.right (And.right (by assumption)))) (hb1.mono (Below.size (And.right (And.right (And.right (by assumption))))))); have sz1 := Below.size (And.right (And.right (And.right (hs1)))); have N1 : Has w1 wr.heap.size 0 0 := Has.below (by (first | exact Has.fresh wr _ | exact Has.fresh wr.drew _)) hb1; obtain ⟨⟨Nl, Nx, Ny⟩, Nf, Ng⟩ := id N1) | (go_at_call 9; refine (HA.out _).mono ?_; rintro e w1 ⟨rfl, hb1⟩; have hs1 := HS1.out w1 (Below.trans (And.right (And.right (And.right (by assumption)))) (hb1.mono (Below.size (And.right (And.right (And.right (by assumption))))))); have sz1 := Below.size (And.right (And.right (And.right (hs1))))))
        all_goals
          first | (refine ⟨w1.heap.size, ?_, hP.below (And.right (And.right (And.right (by assumption)))), hX.below (And.right (And.right (And.right (by assumption)))), hY.below (And.right (And.right (And.right (by assumption)))), Has.at w1 _ a0 a1 23 rfl, by omega, by omega, by omega, hB.trans (Below.mono (And.right (And.right (And.right (by assumption)))) hB.size)⟩; generalize w1.heap.size = cc; rfl) | (refine ⟨wr.heap.size, ?_, hP.below (And.right (And.right (And.right (by assumption)))), hX.below (And.right (And.right (And.right (by assumption)))), hY.below (And.right (And.right (And.right (by assumption)))), N1.set a0 a1, by omega, by omega, by omega, hB.trans (Below.mono (And.right (And.right (And.right (by assumption)))) hB.size)⟩; generalize wr.heap.size = cc; rfl)
      intro cA w1 ⟨P1, X1, Y1, A1, nX, nY, gA, B1⟩
      clear HS1 hS1 hP hX hY hB Pl Px Py Xl Xx Xy Xf Xg Yl Yx Yy Yf Yg z1 bl
      have hB := B1
      clear B1
      have z2 := row_below hcell hB (len - 1 - k) (by omega)
      have bl : b < w1.heap.size := World.block_lt_of_cell? _ _ z2
      rw [hq] at z2
      obtain ⟨Pl, Px, Py⟩ := id P1
      obtain ⟨⟨Xl, Xx, Xy⟩, Xf, Xg⟩ := id X1
      obtain ⟨⟨Yl, Yx, Yy⟩, Yf, Yg⟩ := id Y1
      obtain ⟨⟨Al, Ax, Ay⟩, Af, Ag⟩ := id A1
      go_wp2_with fail
      have HS2 : Hid (∀ w', Below w1.heap.size w1 w' → w'.cell? ⟨bY, 0, none⟩ = some (.int .i64 yh) ∧ w'.cell? ⟨bY, 1, none⟩ = some (.int .i64 yl) ∧ w'.cell? ⟨b, off + (len - 1 - k), none⟩ = some (.int .i64 q) ∧ Below w1.heap.size w1 w') := fun w' hb => ⟨(Y1.below hb).1.2.1, (Y1.below hb).1.2.2, by rw [hb.cell (p := ⟨b, off + (len - 1 - k), none⟩) bl]; exact z2, hb⟩
      have hS2 := HS2.out w1 (Below.refl _ _)
      apply wp_cutT (F := fun cG w' => At w' w.heap.size h l ∧ Has w' bX xh xl ∧ Has w' bY yh yl ∧ Has w' cA a0 a1 ∧ Has w' cG g0 g1 ∧ cG ≠ bX ∧ cG ≠ bY ∧ cG ≠ cA ∧ w.heap.size < cG ∧ Below w.heap.size w w')
      case hr =>
        go_region_held3 (fun w' => w'.cell? ⟨bY, 0, none⟩ = some (.int .i64 yh) ∧ w'.cell? ⟨bY, 1, none⟩ = some (.int .i64 yl) ∧ w'.cell? ⟨b, off + (len - 1 - k), none⟩ = some (.int .i64 q) ∧ Below w1.heap.size w1 w') (first | assumption | (refine HS2.out _ ?_; repeat' (first | with_reducible exact And.right (And.right (And.right (by assumption))) | with_reducible refine Below.setCell ?_ ?_ _ | with_reducible refine Below.alloc ?_ ?_ _ | with_reducible refine Below.drew ?_ | exact Nat.le_refl _ | assumption | exact Below.size (And.right (And.right (And.right (by assumption)))) | (simp; omega)))) (first | (go_at_call 9; refine (HG.out _).mono ?_; rintro e w2 ⟨rfl, hb2⟩; have hs2 := HS2.out w2 (Below.trans (And.right (And.right (And.right (by assumption)))) (hb2.mono (Below.size (And.right (And.right (And.right (by assumption))))))); have sz2 := Below.size (And.right (And.right (And.right (hs2)))); have N2 : Has w2 w1.heap.size 0 0 := Has.below (by (first | exact Has.fresh w1 _ | exact Has.fresh w1.drew _)) hb2; obtain ⟨⟨Nl, Nx, Ny⟩, Nf, Ng⟩ := id N2) | (go_at_call 9; refine (HG.out _).mono ?_; rintro e w2 ⟨rfl, hb2⟩; have hs2 := HS2.out w2 (Below.trans (And.right (And.right (And.right (by assumption)))) (hb2.mono (Below.size (And.right (And.right (And.right (by assumption))))))); have sz2 := Below.size (And.right (And.right (And.right (hs2))))))
        all_goals
          first | (refine ⟨w2.heap.size, ?_, P1.below (And.right (And.right (And.right (by assumption)))), X1.below (And.right (And.right (And.right (by assumption)))), Y1.below (And.right (And.right (And.right (by assumption)))), A1.below (And.right (And.right (And.right (by assumption)))), Has.at w2 _ g0 g1 23 rfl, by omega, by omega, by omega, by omega, hB.trans (Below.mono (And.right (And.right (And.right (by assumption)))) hB.size)⟩; generalize w2.heap.size = cc; rfl) | (refine ⟨w1.heap.size, ?_, P1.below (And.right (And.right (And.right (by assumption)))), X1.below (And.right (And.right (And.right (by assumption)))), Y1.below (And.right (And.right (And.right (by assumption)))), A1.below (And.right (And.right (And.right (by assumption)))), N2.set g0 g1, by omega, by omega, by omega, by omega, hB.trans (Below.mono (And.right (And.right (And.right (by assumption)))) hB.size)⟩; generalize w1.heap.size = cc; rfl)
      intro cG w2 ⟨P2, X2, Y2, A2, G2, mX, mY, mA, gG, B2⟩
      clear HS2 hS2 P1 X1 Y1 A1 hB Pl Px Py Xl Xx Xy Xf Xg Yl Yx Yy Yf Yg Al Ax Ay Af Ag z2 bl ew1 ew2 eA ml m0
      have hB := B2
      clear B2
      obtain ⟨Pl, Px, Py⟩ := id P2
      obtain ⟨⟨Xl, Xx, Xy⟩, Xf, Xg⟩ := id X2
      obtain ⟨⟨Yl, Yx, Yy⟩, Yf, Yg⟩ := id Y2
      obtain ⟨⟨Al, Ax, Ay⟩, Af, Ag⟩ := id A2
      obtain ⟨⟨Gl, Gx, Gy⟩, Gf, Gg⟩ := id G2
      rcases ca.out with ⟨a3, a4, a5, a6⟩ | ⟨a3, a4, a5⟩
      · rcases cg.out with ⟨g3, g4, g5, g6⟩ | ⟨g3, g4, g5⟩
        · have VA := hide a6
          have VG := hide g6
          clear a6 g6 ca cg HA HG
          subst a3; subst g3
          go_wp2_with fail
          apply wp_cut0 (F := fun w' => At w' w.heap.size h l ∧ Has w' bX a0 a1 ∧ Has w' bY g0 g1 ∧ Below w.heap.size w w')
          case hr =>
            go_region_held3 (fun w' => w'.cell? ⟨cA, 0, none⟩ = some (.int .i64 a0) ∧ w'.cell? ⟨cA, 1, none⟩ = some (.int .i64 a1) ∧ w'.cell? ⟨cG, 0, none⟩ = some (.int .i64 g0) ∧ w'.cell? ⟨cG, 1, none⟩ = some (.int .i64 g1)) (first | assumption | (refine two_cells ?_ ?_ <;> repeat' (first | exact A2.1 | exact G2.1 | with_reducible refine At.drew1 ?_ | with_reducible refine At.other ?_ ?_ _ _ | omega))) (fail)
            all_goals refine ⟨rfl, (((P2.other (by omega) _ _).other (by omega) _ _).other (by omega) _ _).other (by omega) _ _, ((X2.set a0 a1).other (by omega) _ _).other (by omega) _ _, ((Y2.other (by omega) _ _).other (by omega) _ _).set g0 g1, ?_⟩
            all_goals repeat' (first | with_reducible exact hB | with_reducible refine Below.drew ?_ | with_reducible refine Below.setCell ?_ ?_ _ | exact Nat.le_of_lt gX | exact Nat.le_of_lt gY)
          intro w3 ⟨P3, X3, Y3, B3⟩
          go_wp2
          go_round
          case rel => exact ⟨k + 1, a0, a1, g0, g1, by omega, by go_num, P3, X3, Y3, B3, a5, g5, by rw [VA.out, VX.out]; show _ = _ + (_ + zs.getD k 0); rw [hp]; omega, by rw [VG.out, VY.out]; show _ = _ + (_ + zs.getD (len - 1 - k) 0); rw [hq]; omega, fun j hj => by
            by_cases e : j = k
            · rw [e, hp]; exact a4
            · exact HF.out j (by omega)⟩
          case measure => simp [intOf]; omega
        · subst g4; subst g5
          clear a4 a5 a6 ca cg HA HG VX VY HF
          subst a3
          go_wp2_with (go_at_call 17; refine (lives3_any _).mono ?_; rintro e w9 ⟨rfl, hb9⟩)
          go_ret
          exact ⟨rfl, hB.trans (hb9.mono hB.size)⟩
      · subst a4; subst a5
        have a7 : (a2 != 0) = true := by simp [bne, a3]
        clear VX VY HF
        rcases cg.out with ⟨g3, g4, g5, g6⟩ | ⟨g3, g4, g5⟩
        · clear g4 g5 g6 ca cg HA HG
          subst g3
          go_wp2_with (go_at_call 17; refine (lives3_any _).mono ?_; rintro e w9 ⟨rfl, hb9⟩)
          go_ret
          exact ⟨rfl, hB.trans (hb9.mono hB.size)⟩
        · subst g4; subst g5
          clear ca cg HA HG
          go_wp2_with (go_at_call 17; refine (lives3_any _).mono ?_; rintro e w9 ⟨rfl, hb9⟩)
          go_ret
          exact ⟨rfl, hB.trans (hb9.mono hB.size)⟩
    · obtain rfl : k = len := by omega
      have e0 : valW yh yl = valW xh xl := by rw [VX.out, VY.out, sumTo_back k (fun j => zs.getD j 0)]
      obtain ⟨rfl, rfl⟩ := valW_one ry rx e0
      clear e0 VY ry
      go_wp2
      go_loopw [12] (fun i wr => ∃ (m : Nat) (ph pl : Int), m ≤ k ∧ i = .int .i64 m ∧ At wr w.heap.size h l ∧ Has wr bX ph pl ∧ Below w.heap.size w wr ∧ rightB ph pl = true ∧ valW ph pl = valW h l + sumTo (fun j => zs.getD j 0) k - sumTo (fun j => zs.getD j 0) m) (fun i _ => k - (intOf i).toNat)
      case atStart => exact ⟨0, yh, yl, Nat.zero_le _, rfl, hP, hX, hB, rx, by rw [VX.out]; simp [sumTo]⟩
      case round =>
        clear hP hX hY hB Pl Px Py Xl Xx Xy Xf Xg Yl Yx Yy Yf Yg VX rx
        obtain ⟨m, ph, pl, hm, rfl, hP, hX, hB, rx, vx⟩ := hrel
        have VX := hide vx
        clear vx
        obtain ⟨Pl, Px, Py⟩ := id hP
        obtain ⟨⟨Xl, Xx, Xy⟩, Xf, Xg⟩ := id hX
        by_cases hmt : m < k
        · obtain rfl := ha.out (by omega)
          have ek : (m : Int) < (k : Int) := by omega
          have z1 := row_below hcell hB m (by omega)
          have bl : b < wr.heap.size := World.block_lt_of_cell? _ _ z1
          have fm := HF.out m hmt
          obtain ⟨p, hp⟩ : ∃ p, zs.getD m 0 = p := ⟨_, rfl⟩
          rw [hp] at z1 fm
          have HA : Hid (∀ W : World, Calls Try.prog 11 #[.agg #[.int .i64 ph, .int .i64 pl], .int .i64 p] W fun e w' => e = .returned (.tuple #[.agg #[.int .i64 (subW ph pl p).1, .int .i64 (subW ph pl p).2.1], .int .i64 (subW ph pl p).2.2]) ∧ Below W.heap.size W w') := fun W => subW_any ph pl p W
          have ca := hide (subW_cases rx fm)
          generalize (subW ph pl p).1 = a0 at *
          generalize (subW ph pl p).2.1 = a1 at *
          generalize (subW ph pl p).2.2 = a2 at *
          go_wp2_with fail
          have HS1 : Hid (∀ w', Below wr.heap.size wr w' → w'.cell? ⟨bX, 0, none⟩ = some (.int .i64 ph) ∧ w'.cell? ⟨bX, 1, none⟩ = some (.int .i64 pl) ∧ w'.cell? ⟨b, off + m, none⟩ = some (.int .i64 p) ∧ Below wr.heap.size wr w') := fun w' hb => ⟨(hX.below hb).1.2.1, (hX.below hb).1.2.2, by rw [hb.cell (p := ⟨b, off + m, none⟩) bl]; exact z1, hb⟩
          have hS1 := HS1.out wr (Below.refl _ _)
          apply wp_cutT (F := fun cA w' => At w' w.heap.size h l ∧ Has w' bX ph pl ∧ Has w' cA a0 a1 ∧ cA ≠ bX ∧ w.heap.size < cA ∧ Below w.heap.size w w')
          case hr =>
            go_region_held3 (fun w' => w'.cell? ⟨bX, 0, none⟩ = some (.int .i64 ph) ∧ w'.cell? ⟨bX, 1, none⟩ = some (.int .i64 pl) ∧ w'.cell? ⟨b, off + m, none⟩ = some (.int .i64 p) ∧ Below wr.heap.size wr w') (first | assumption | (refine HS1.out _ ?_; repeat' (first | with_reducible exact And.right (And.right (And.right (by assumption))) | with_reducible refine Below.setCell ?_ ?_ _ | with_reducible refine Below.alloc ?_ ?_ _ | with_reducible refine Below.drew ?_ | exact Nat.le_refl _ | assumption | exact Below.size (And.right (And.right (And.right (by assumption)))) | (simp; omega)))) (first | (go_at_call 11; refine (HA.out _).mono ?_; rintro e w1 ⟨rfl, hb1⟩; have hs1 := HS1.out w1 (Below.trans (And.right (And.right (And.right (by assumption)))) (hb1.mono (Below.size (And.right (And.right (And.right (by assumption))))))); have sz1 := Below.size (And.right (And.right (And.right (hs1)))); have N1 : Has w1 wr.heap.size 0 0 := Has.below (by (first | exact Has.fresh wr _ | exact Has.fresh wr.drew _)) hb1; obtain ⟨⟨Nl, Nx, Ny⟩, Nf, Ng⟩ := id N1) | (go_at_call 11; refine (HA.out _).mono ?_; rintro e w1 ⟨rfl, hb1⟩; have hs1 := HS1.out w1 (Below.trans (And.right (And.right (And.right (by assumption)))) (hb1.mono (Below.size (And.right (And.right (And.right (by assumption))))))); have sz1 := Below.size (And.right (And.right (And.right (hs1))))))
            all_goals
              first | (refine ⟨w1.heap.size, ?_, hP.below (And.right (And.right (And.right (by assumption)))), hX.below (And.right (And.right (And.right (by assumption)))), Has.at w1 _ a0 a1 23 rfl, by omega, by omega, hB.trans (Below.mono (And.right (And.right (And.right (by assumption)))) hB.size)⟩; generalize w1.heap.size = cc; rfl) | (refine ⟨wr.heap.size, ?_, hP.below (And.right (And.right (And.right (by assumption)))), hX.below (And.right (And.right (And.right (by assumption)))), N1.set a0 a1, by omega, by omega, hB.trans (Below.mono (And.right (And.right (And.right (by assumption)))) hB.size)⟩; generalize wr.heap.size = cc; rfl)
          intro cA w1 ⟨P1, X1, A1, nX, gA, B1⟩
          clear HS1 hS1 hP hX hB Pl Px Py Xl Xx Xy Xf Xg z1 bl
          have hB := B1
          clear B1
          obtain ⟨Pl, Px, Py⟩ := id P1
          obtain ⟨⟨Xl, Xx, Xy⟩, Xf, Xg⟩ := id X1
          obtain ⟨⟨Al, Ax, Ay⟩, Af, Ag⟩ := id A1
          rcases ca.out with ⟨a3, a5, a6⟩ | a3
          · have VA := hide a6
            clear a6 ca HA
            subst a3
            go_wp2
            go_round
            case rel => exact ⟨m + 1, a0, a1, by omega, by go_num, (P1.other (by omega) _ _).other (by omega) _ _, X1.set a0 a1, (hB.setCell (Nat.le_of_lt gX) _).setCell (Nat.le_of_lt gX) _, a5, by rw [VA.out, VX.out]; show _ = _ - (_ + zs.getD m 0); rw [hp]; omega⟩
            case measure => simp [intOf]; omega
          · subst a3
            clear ca HA VX
            go_wp2_with (go_at_call 17; refine (lives3_any _).mono ?_; rintro e w9 ⟨rfl, hb9⟩)
            go_ret
            exact ⟨rfl, hB.trans (hb9.mono hB.size)⟩
        · obtain rfl : m = k := by omega
          have e0 : valW ph pl = valW h l := by rw [VX.out]; omega
          obtain ⟨rfl, rfl⟩ := valW_one rx r e0
          clear e0 VX
          go_wp2_with (go_at_call 17; refine (lives3_any _).mono ?_; rintro e w9 ⟨rfl, hb9⟩)
          go_ret
          exact ⟨rfl, hB.trans (hb9.mono hB.size)⟩
end Go.Proofs.Ytcabpcneiddgcaa
