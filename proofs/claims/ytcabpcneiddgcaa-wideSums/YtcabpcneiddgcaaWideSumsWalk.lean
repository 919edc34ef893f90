/-
  The walk of WideSums: for every two sums and every number it returns true.
-/
import Derived.Test.YtcabpcneiddgcaaWideLaws
import Derived.Test.YtcabpcneiddgcaaWide2
import Derived.Test.YtcabpcneiddgcaaRefWide2
import Derived.Test.YtcabpcneiddgcaaRefWide4
import Derived.Test.YtcabpcneiddgcaaRefWide5
namespace Go.Proofs.Ytcabpcneiddgcaa
open Go.RowKit

/-- What stands while the last statement of WideSums runs. -/
abbrev SumS (w0 : World) (b0 b1 b2 b3 b4 b5 b6 : Nat) (h l a0 a1 c0 c1 x0 x1 : Int) (w' : World) : Prop :=
  w'.cell? ⟨b0, 0, none⟩ = some (.int .i64 h) ∧ w'.cell? ⟨b0, 1, none⟩ = some (.int .i64 l) ∧ w'.cell? ⟨b1, 0, none⟩ = some (.int .i64 a0) ∧ w'.cell? ⟨b1, 1, none⟩ = some (.int .i64 a1) ∧ w'.cell? ⟨b2, 0, none⟩ = some (.int .i64 a0) ∧ w'.cell? ⟨b2, 1, none⟩ = some (.int .i64 a1) ∧ w'.cell? ⟨b3, 0, none⟩ = some (.int .i64 c0) ∧ w'.cell? ⟨b3, 1, none⟩ = some (.int .i64 c1) ∧ w'.cell? ⟨b4, 0, none⟩ = some (.int .i64 c0) ∧ w'.cell? ⟨b4, 1, none⟩ = some (.int .i64 c1) ∧ w'.cell? ⟨b5, 0, none⟩ = some (.int .i64 x0) ∧ w'.cell? ⟨b5, 1, none⟩ = some (.int .i64 x1) ∧ w'.cell? ⟨b6, 0, none⟩ = some (.int .i64 x0) ∧ w'.cell? ⟨b6, 1, none⟩ = some (.int .i64 x1) ∧ b6 < w'.heap.size ∧ Below w0.heap.size w0 w'
theorem SumS.drew {w0 : World} {b0 b1 b2 b3 b4 b5 b6 : Nat} {h l a0 a1 c0 c1 x0 x1 : Int} {w : World} (s : SumS w0 b0 b1 b2 b3 b4 b5 b6 h l a0 a1 c0 c1 x0 x1 w) : SumS w0 b0 b1 b2 b3 b4 b5 b6 h l a0 a1 c0 c1 x0 x1 w.drew := by
  obtain ⟨s0, s1, s2, s3, s4, s5, s6, s7, s8, s9, t0, t1, t2, t3, z, b⟩ := s
  exact ⟨s0, s1, s2, s3, s4, s5, s6, s7, s8, s9, t0, t1, t2, t3, z, b.drew⟩
theorem SumS.below {w0 : World} {b0 b1 b2 b3 b4 b5 b6 : Nat} {h l a0 a1 c0 c1 x0 x1 : Int} {w w' : World} (s : SumS w0 b0 b1 b2 b3 b4 b5 b6 h l a0 a1 c0 c1 x0 x1 w) (k : Below w.heap.size w w')
    (l0 : b0 < b6) (l1 : b1 < b6) (l2 : b2 < b6) (l3 : b3 < b6) (l4 : b4 < b6) (l5 : b5 < b6) : SumS w0 b0 b1 b2 b3 b4 b5 b6 h l a0 a1 c0 c1 x0 x1 w' := by
  obtain ⟨s0, s1, s2, s3, s4, s5, s6, s7, s8, s9, t0, t1, t2, t3, z, b⟩ := s
  have A0 : At w' b0 h l := At.below ⟨by omega, s0, s1⟩ k
  have A1 : At w' b1 a0 a1 := At.below ⟨by omega, s2, s3⟩ k
  have A2 : At w' b2 a0 a1 := At.below ⟨by omega, s4, s5⟩ k
  have A3 : At w' b3 c0 c1 := At.below ⟨by omega, s6, s7⟩ k
  have A4 : At w' b4 c0 c1 := At.below ⟨by omega, s8, s9⟩ k
  have A5 : At w' b5 x0 x1 := At.below ⟨by omega, t0, t1⟩ k
  have A6 : At w' b6 x0 x1 := At.below ⟨by omega, t2, t3⟩ k
  exact ⟨A0.2.1, A0.2.2, A1.2.1, A1.2.2, A2.2.1, A2.2.2, A3.2.1, A3.2.2, A4.2.1, A4.2.2, A5.2.1, A5.2.2, A6.2.1, A6.2.2, A6.1, b.trans (k.mono b.size)⟩
theorem SumS.out {w0 : World} {b0 b1 b2 b3 b4 b5 b6 : Nat} {h l a0 a1 c0 c1 x0 x1 : Int} {w : World} (s : SumS w0 b0 b1 b2 b3 b4 b5 b6 h l a0 a1 c0 c1 x0 x1 w) : Below w0.heap.size w0 w := by
  obtain ⟨s0, s1, s2, s3, s4, s5, s6, s7, s8, s9, t0, t1, t2, t3, z, b⟩ := s
  exact b

set_option maxHeartbeats 4000000 in
theorem wideSums_walk (h l n g k : Int) (w : World) (_ : (Lit.int .i64 h).wf = true) (_ : (Lit.int .i64 l).wf = true) (_ : (Lit.int .i64 n).wf = true) (_ : (Lit.int .i64 g).wf = true) (_ : (Lit.int .i64 k).wf = true) :
    Calls Try.prog 3 #[.agg #[.int .i64 h, .int .i64 l], .int .i64 n, .agg #[.int .i64 g, .int .i64 k]] w fun e w' => e = .returned (.bool true) ∧ Below w.heap.size w w' := by
  have H1 : Hid (∀ W : World, Calls Try.prog 9 #[.agg #[.int .i64 h, .int .i64 l], .int .i64 n] W fun e w' => e = .returned (.tuple #[.agg #[.int .i64 (addW h l n).1, .int .i64 (addW h l n).2.1], .int .i64 (addW h l n).2.2]) ∧ Below W.heap.size W w') := fun W => addW_any h l n W
  have H2 : Hid (∀ W : World, Calls Try.prog 10 #[.agg #[.int .i64 h, .int .i64 l], .int .i64 n] W fun e w' => e = .returned (.tuple #[.agg #[.int .i64 (addW h l n).1, .int .i64 (addW h l n).2.1], .int .i64 (addW h l n).2.2]) ∧ Below W.heap.size W w') := fun W => raddW_any h l n W
  have H3 : Hid (∀ W : World, Calls Try.prog 11 #[.agg #[.int .i64 h, .int .i64 l], .int .i64 n] W fun e w' => e = .returned (.tuple #[.agg #[.int .i64 (subW h l n).1, .int .i64 (subW h l n).2.1], .int .i64 (subW h l n).2.2]) ∧ Below W.heap.size W w') := fun W => subW_any h l n W
  have H4 : Hid (∀ W : World, Calls Try.prog 12 #[.agg #[.int .i64 h, .int .i64 l], .int .i64 n] W fun e w' => e = .returned (.tuple #[.agg #[.int .i64 (subW h l n).1, .int .i64 (subW h l n).2.1], .int .i64 (subW h l n).2.2]) ∧ Below W.heap.size W w') := fun W => rsubW_any h l n W
  have H5 : Hid (∀ W : World, Calls Try.prog 13 #[.agg #[.int .i64 h, .int .i64 l], .agg #[.int .i64 g, .int .i64 k]] W fun e w' => e = .returned (.tuple #[.agg #[.int .i64 (joinW h l g k).1, .int .i64 (joinW h l g k).2.1], .int .i64 (joinW h l g k).2.2]) ∧ Below W.heap.size W w') := fun W => joinW_any h l g k W
  have H6 : Hid (∀ W : World, Calls Try.prog 14 #[.agg #[.int .i64 h, .int .i64 l], .agg #[.int .i64 g, .int .i64 k]] W fun e w' => e = .returned (.tuple #[.agg #[.int .i64 (joinW h l g k).1, .int .i64 (joinW h l g k).2.1], .int .i64 (joinW h l g k).2.2]) ∧ Below W.heap.size W w') := fun W => rjoinW_any h l g k W
  have H7 : Hid (∀ W : World, Calls Try.prog 15 #[.agg #[.int .i64 h, .int .i64 l]] W fun e w' => e = .returned (.int .i64 (checkR h l)) ∧ Below W.heap.size W w') := fun W => (check_any h l W).mono (by rintro e w' ⟨rfl, rfl⟩; exact ⟨rfl, (Below.refl _ _).alloc (Nat.le_refl _) _⟩)
  have H8 : Hid (∀ W : World, Calls Try.prog 16 #[.agg #[.int .i64 h, .int .i64 l]] W fun e w' => e = .returned (.int .i64 (checkR h l)) ∧ Below W.heap.size W w') := fun W => rcheck_any h l W
  generalize (addW h l n).1 = a0 at *
  generalize (addW h l n).2.1 = a1 at *
  generalize (addW h l n).2.2 = a2 at *
  generalize (subW h l n).1 = c0 at *
  generalize (subW h l n).2.1 = c1 at *
  generalize (subW h l n).2.2 = c2 at *
  generalize (joinW h l g k).1 = x0 at *
  generalize (joinW h l g k).2.1 = x1 at *
  generalize (joinW h l g k).2.2 = x2 at *
  generalize checkR h l = z at *
  go_enter Try.func3, Try.ntmps3
  go_wp2_with fail
  refine (H1.out _).mono ?_
  rintro e w1 ⟨rfl, hb1⟩
  have P1 := ((At.new w h l 23).alloc (.cells #[.int .i64 g, .int .i64 k] 23)).below hb1
  have Q1 := (At.at (w.alloc (.cells #[.int .i64 h, .int .i64 l] 23)) (w.heap.size + 1) g k 23 (by simp)).below hb1
  have B1 : Below w.heap.size w w1 := by
    repeat' (first | with_reducible exact Below.refl _ _ | with_reducible refine Below.setCell ?_ ?_ _ | with_reducible refine Below.alloc ?_ ?_ _ | with_reducible refine below_drewN ?_ _ | with_reducible refine Below.drew ?_ | with_reducible refine Below.trans ?_ (Below.mono (by assumption) ?_) | with_reducible exact Nat.le_refl _ | with_reducible refine Nat.le_trans ?_ (Below.size (by assumption)) | (simp; done) | (simp; omega) | omega)
  clear hb1
  obtain ⟨Pl, Px, Py⟩ := id P1
  obtain ⟨Ql, Qx, Qy⟩ := id Q1
  go_wp2_with fail
  refine (H2.out _).mono ?_
  rintro e w2 ⟨rfl, hb2⟩
  have P2 := (P1.alloc _).below hb2
  have Q2 := (Q1.alloc _).below hb2
  have R1_2 := (At.new w1 a0 a1 23).below hb2
  have B2 : Below w.heap.size w w2 := B1.trans (((Below.refl w1.heap.size w1).alloc (Nat.le_refl _) _).trans (hb2.mono (by simp)) |>.mono B1.size)
  clear hb2 B1 P1 Pl Px Py Q1 Ql Qx Qy
  obtain ⟨Pl, Px, Py⟩ := id P2
  obtain ⟨Ql, Qx, Qy⟩ := id Q2
  obtain ⟨R1_l, R1_x, R1_y⟩ := id R1_2
  go_wp2_with fail
  refine (H3.out _).mono ?_
  rintro e w3 ⟨rfl, hb3⟩
  have P3 := (P2.alloc _).below hb3
  have Q3 := (Q2.alloc _).below hb3
  have R1_3 := (R1_2.alloc _).below hb3
  have R2_3 := (At.new w2 a0 a1 23).below hb3
  have B3 : Below w.heap.size w w3 := B2.trans (((Below.refl w2.heap.size w2).alloc (Nat.le_refl _) _).trans (hb3.mono (by simp)) |>.mono B2.size)
  clear hb3 B2 P2 Pl Px Py Q2 Ql Qx Qy R1_2 R1_l R1_x R1_y
  obtain ⟨Pl, Px, Py⟩ := id P3
  obtain ⟨Ql, Qx, Qy⟩ := id Q3
  obtain ⟨R1_l, R1_x, R1_y⟩ := id R1_3
  obtain ⟨R2_l, R2_x, R2_y⟩ := id R2_3
  go_wp2_with fail
  refine (H4.out _).mono ?_
  rintro e w4 ⟨rfl, hb4⟩
  have P4 := (P3.alloc _).below hb4
  have Q4 := (Q3.alloc _).below hb4
  have R1_4 := (R1_3.alloc _).below hb4
  have R2_4 := (R2_3.alloc _).below hb4
  have R3_4 := (At.new w3 c0 c1 23).below hb4
  have B4 : Below w.heap.size w w4 := B3.trans (((Below.refl w3.heap.size w3).alloc (Nat.le_refl _) _).trans (hb4.mono (by simp)) |>.mono B3.size)
  clear hb4 B3 P3 Pl Px Py Q3 Ql Qx Qy R1_3 R1_l R1_x R1_y R2_3 R2_l R2_x R2_y
  obtain ⟨Pl, Px, Py⟩ := id P4
  obtain ⟨Ql, Qx, Qy⟩ := id Q4
  obtain ⟨R1_l, R1_x, R1_y⟩ := id R1_4
  obtain ⟨R2_l, R2_x, R2_y⟩ := id R2_4
  obtain ⟨R3_l, R3_x, R3_y⟩ := id R3_4
  go_wp2_with fail
  refine (H5.out _).mono ?_
  rintro e w5 ⟨rfl, hb5⟩
  have P5 := (P4.alloc _).below hb5
  have Q5 := (Q4.alloc _).below hb5
  have R1_5 := (R1_4.alloc _).below hb5
  have R2_5 := (R2_4.alloc _).below hb5
  have R3_5 := (R3_4.alloc _).below hb5
  have R4_5 := (At.new w4 c0 c1 23).below hb5
  have B5 : Below w.heap.size w w5 := B4.trans (((Below.refl w4.heap.size w4).alloc (Nat.le_refl _) _).trans (hb5.mono (by simp)) |>.mono B4.size)
  clear hb5 B4 P4 Pl Px Py Q4 Ql Qx Qy R1_4 R1_l R1_x R1_y R2_4 R2_l R2_x R2_y R3_4 R3_l R3_x R3_y
  obtain ⟨Pl, Px, Py⟩ := id P5
  obtain ⟨Ql, Qx, Qy⟩ := id Q5
  obtain ⟨R1_l, R1_x, R1_y⟩ := id R1_5
  obtain ⟨R2_l, R2_x, R2_y⟩ := id R2_5
  obtain ⟨R3_l, R3_x, R3_y⟩ := id R3_5
  obtain ⟨R4_l, R4_x, R4_y⟩ := id R4_5
  go_wp2_with fail
  refine (H6.out _).mono ?_
  rintro e w6 ⟨rfl, hb6⟩
  have P6 := (P5.alloc _).below hb6
  have Q6 := (Q5.alloc _).below hb6
  have R1_6 := (R1_5.alloc _).below hb6
  have R2_6 := (R2_5.alloc _).below hb6
  have R3_6 := (R3_5.alloc _).below hb6
  have R4_6 := (R4_5.alloc _).below hb6
  have R5_6 := (At.new w5 x0 x1 23).below hb6
  have B6 : Below w.heap.size w w6 := B5.trans (((Below.refl w5.heap.size w5).alloc (Nat.le_refl _) _).trans (hb6.mono (by simp)) |>.mono B5.size)
  clear hb6 B5 P5 Pl Px Py Q5 Ql Qx Qy R1_5 R1_l R1_x R1_y R2_5 R2_l R2_x R2_y R3_5 R3_l R3_x R3_y R4_5 R4_l R4_x R4_y
  obtain ⟨Pl, Px, Py⟩ := id P6
  obtain ⟨Ql, Qx, Qy⟩ := id Q6
  obtain ⟨R1_l, R1_x, R1_y⟩ := id R1_6
  obtain ⟨R2_l, R2_x, R2_y⟩ := id R2_6
  obtain ⟨R3_l, R3_x, R3_y⟩ := id R3_6
  obtain ⟨R4_l, R4_x, R4_y⟩ := id R4_6
  obtain ⟨R5_l, R5_x, R5_y⟩ := id R5_6
  go_wp2_with fail
  have hS : SumS w w.heap.size w1.heap.size w2.heap.size w3.heap.size w4.heap.size w5.heap.size w6.heap.size h l a0 a1 c0 c1 x0 x1 (w6.alloc (.cells #[.int .i64 x0, .int .i64 x1] 23)) := by
    have R6_6 := At.new w6 x0 x1 23
    exact ⟨(P6.alloc _).2.1, (P6.alloc _).2.2, (R1_6.alloc _).2.1, (R1_6.alloc _).2.2, (R2_6.alloc _).2.1, (R2_6.alloc _).2.2, (R3_6.alloc _).2.1, (R3_6.alloc _).2.2, (R4_6.alloc _).2.1, (R4_6.alloc _).2.2, (R5_6.alloc _).2.1, (R5_6.alloc _).2.2, R6_6.2.1, R6_6.2.2, R6_6.1, B6.alloc B6.size _⟩
  clear B6 Q6 Ql Qx Qy P6 Px Py R1_6 R1_x R1_y R2_6 R2_x R2_y R3_6 R3_x R3_y R4_6 R4_x R4_y R5_6 R5_x R5_y
  go_region_held3 (fun w' => w'.cell? ⟨w.heap.size, 0, none⟩ = some (.int .i64 h) ∧ w'.cell? ⟨w.heap.size, 1, none⟩ = some (.int .i64 l) ∧ w'.cell? ⟨w1.heap.size, 0, none⟩ = some (.int .i64 a0) ∧ w'.cell? ⟨w1.heap.size, 1, none⟩ = some (.int .i64 a1) ∧ w'.cell? ⟨w2.heap.size, 0, none⟩ = some (.int .i64 a0) ∧ w'.cell? ⟨w2.heap.size, 1, none⟩ = some (.int .i64 a1) ∧ w'.cell? ⟨w3.heap.size, 0, none⟩ = some (.int .i64 c0) ∧ w'.cell? ⟨w3.heap.size, 1, none⟩ = some (.int .i64 c1) ∧ w'.cell? ⟨w4.heap.size, 0, none⟩ = some (.int .i64 c0) ∧ w'.cell? ⟨w4.heap.size, 1, none⟩ = some (.int .i64 c1) ∧ w'.cell? ⟨w5.heap.size, 0, none⟩ = some (.int .i64 x0) ∧ w'.cell? ⟨w5.heap.size, 1, none⟩ = some (.int .i64 x1) ∧ w'.cell? ⟨w6.heap.size, 0, none⟩ = some (.int .i64 x0) ∧ w'.cell? ⟨w6.heap.size, 1, none⟩ = some (.int .i64 x1) ∧ w6.heap.size < w'.heap.size ∧ Below w.heap.size w w') (first | assumption | exact SumS.drew (by assumption)) (first | (go_at_call 15; refine (H7.out _).mono ?_; rintro e w7 ⟨rfl, hb7⟩; have hs7 := SumS.below (by assumption) hb7 Pl R1_l R2_l R3_l R4_l R5_l) | (go_at_call 16; refine (H8.out _).mono ?_; rintro e w8 ⟨rfl, hb8⟩; have hs8 := SumS.below (by assumption) hb8 Pl R1_l R2_l R3_l R4_l R5_l) | (go_at_call 17; refine (lives3_any _).mono ?_; rintro e w9 ⟨rfl, hb9⟩; have hs9 := SumS.below (by assumption) hb9 Pl R1_l R2_l R3_l R4_l R5_l))
  all_goals go_wp2
  all_goals go_ret
  all_goals exact ⟨by simp, SumS.out (by assumption)⟩
end Go.Proofs.Ytcabpcneiddgcaa
