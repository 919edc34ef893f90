/-
  The walk of WideMeans: for every sum and every count it returns true.
-/
import Derived.Test.YtcabpcneiddgcaaWideLaws
import Derived.Test.YtcabpcneiddgcaaRefWide3
import Derived.Test.YtcabpcneiddgcaaRefMean2
namespace Go.Proofs.Ytcabpcneiddgcaa
open Go.RowKit

set_option maxHeartbeats 2000000 in
theorem wideMeans_walk (h l c : Int) (w : World) (_ : (Lit.int .i64 h).wf = true) (_ : (Lit.int .i64 l).wf = true) (_ : (Lit.int .i64 c).wf = true) :
    Calls Try.prog 4 #[.agg #[.int .i64 h, .int .i64 l], .int .i64 c] w fun e w' => e = .returned (.bool true) ∧ Below w.heap.size w w' := by
  have HA : Hid (∀ W : World, Calls Try.prog 18 #[.agg #[.int .i64 h, .int .i64 l]] W fun e w' => e = .returned (.tuple #[.int .i64 (totalW h l).1, .int .i64 (totalW h l).2]) ∧ Below W.heap.size W w') := fun W => totalW_any h l W
  have HB : Hid (∀ W : World, Calls Try.prog 19 #[.agg #[.int .i64 h, .int .i64 l]] W fun e w' => e = .returned (.tuple #[.int .i64 (totalW h l).1, .int .i64 (totalW h l).2]) ∧ Below W.heap.size W w') := fun W => rtotalW_any h l W
  have HC : Hid (∀ W : World, Calls Try.prog 20 #[.agg #[.int .i64 h, .int .i64 l], .int .i64 c] W fun e w' => e = .returned (.tuple #[.int .i64 (meanW h l c).1, .int .i64 (meanW h l c).2]) ∧ Below W.heap.size W w') := fun W => meanW_any h l c W
  have HD : Hid (∀ W : World, Calls Try.prog 21 #[.agg #[.int .i64 h, .int .i64 l], .int .i64 c] W fun e w' => e = .returned (.tuple #[.int .i64 (meanW h l c).1, .int .i64 (meanW h l c).2]) ∧ Below W.heap.size W w') := fun W => rmeanW_any h l c W
  generalize (totalW h l).1 = x at *
  generalize (totalW h l).2 = y at *
  generalize (meanW h l c).1 = z at *
  generalize (meanW h l c).2 = u at *
  go_enter Try.func4, Try.ntmps4
  go_wp2_with fail
  refine (HA.out _).mono ?_
  rintro e w1 ⟨rfl, hb1⟩
  have P1 := (At.new w h l 23).below hb1
  have B1 : Below w.heap.size w w1 := by
    repeat' (first | with_reducible exact Below.refl _ _ | with_reducible refine Below.setCell ?_ ?_ _ | with_reducible refine Below.alloc ?_ ?_ _ | with_reducible refine below_drewN ?_ _ | with_reducible refine Below.drew ?_ | with_reducible refine Below.trans ?_ (Below.mono (by assumption) ?_) | with_reducible exact Nat.le_refl _ | with_reducible refine Nat.le_trans ?_ (Below.size (by assumption)) | (simp; done) | (simp; omega) | omega)
  clear hb1
  have P1' := P1
  obtain ⟨lp, p0, p1⟩ := P1'
  go_wp2_with fail
  refine (HB.out _).mono ?_
  rintro e w2 ⟨rfl, hb2⟩
  have B2 := B1.trans (hb2.mono B1.size)
  have P2 := P1.below hb2
  clear hb2 B1 P1 lp p0 p1
  have P2' := P2
  obtain ⟨lp, p0, p1⟩ := P2'
  go_wp2_with fail
  refine (HC.out _).mono ?_
  rintro e w3 ⟨rfl, hb3⟩
  have B3 := B2.trans (hb3.mono B2.size)
  have P3 := P2.below hb3
  clear hb3 B2 P2 lp p0 p1
  obtain ⟨lp, p0, p1⟩ := P3
  go_wp2_with fail
  refine (HD.out _).mono ?_
  rintro e w4 ⟨rfl, hb4⟩
  have B4 := B3.trans (hb4.mono B3.size)
  clear hb4 B3 lp p0 p1
  go_wp2_with (go_at_call 17; refine (lives3_any _).mono ?_; rintro e w5 ⟨rfl, hb5⟩)
  go_ret
  refine ⟨rfl, ?_⟩
  repeat' (first | with_reducible exact Below.refl _ _ | with_reducible refine Below.setCell ?_ ?_ _ | with_reducible refine Below.alloc ?_ ?_ _ | with_reducible refine below_drewN ?_ _ | with_reducible refine Below.drew ?_ | with_reducible refine Below.trans ?_ (Below.mono (by assumption) ?_) | with_reducible exact Nat.le_refl _ | with_reducible refine Nat.le_trans ?_ (Below.size (by assumption)) | (simp; done) | (simp; omega) | omega)
end Go.Proofs.Ytcabpcneiddgcaa
