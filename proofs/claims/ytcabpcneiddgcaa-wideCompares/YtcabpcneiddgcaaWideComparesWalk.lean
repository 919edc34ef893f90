/-
  The walk of WideCompares: for every two sums it returns true.
-/
import Derived.Test.YtcabpcneiddgcaaWideLaws
import Derived.Test.YtcabpcneiddgcaaRefWide3
namespace Go.Proofs.Ytcabpcneiddgcaa
open Go.RowKit

set_option maxHeartbeats 2000000 in
theorem wideCompares_walk (h l g k : Int) (w : World) (_ : (Lit.int .i64 h).wf = true) (_ : (Lit.int .i64 l).wf = true) (_ : (Lit.int .i64 g).wf = true) (_ : (Lit.int .i64 k).wf = true) :
    Calls Try.prog 5 #[.agg #[.int .i64 h, .int .i64 l], .agg #[.int .i64 g, .int .i64 k]] w fun e w' => e = .returned (.bool true) ∧ Below w.heap.size w w' := by
  have HA : Hid (∀ W : World, Calls Try.prog 22 #[.agg #[.int .i64 h, .int .i64 l], .agg #[.int .i64 g, .int .i64 k]] W fun e w' => e = .returned (.tuple #[.int .i64 (compW h l g k).1, .int .i64 (compW h l g k).2]) ∧ Below W.heap.size W w') := fun W => compW_any h l g k W
  have HB : Hid (∀ W : World, Calls Try.prog 23 #[.agg #[.int .i64 h, .int .i64 l], .agg #[.int .i64 g, .int .i64 k]] W fun e w' => e = .returned (.tuple #[.int .i64 (compW h l g k).1, .int .i64 (compW h l g k).2]) ∧ Below W.heap.size W w') := fun W => rcompW_any h l g k W
  generalize (compW h l g k).1 = x at *
  generalize (compW h l g k).2 = y at *
  go_enter Try.func5, Try.ntmps5
  go_wp2_with fail
  refine (HA.out _).mono ?_
  rintro e w1 ⟨rfl, hb1⟩
  have P1 := ((At.new w h l 23).alloc (.cells #[.int .i64 g, .int .i64 k] 23)).below hb1
  have Q1 := (At.at (w.alloc (.cells #[.int .i64 h, .int .i64 l] 23)) (w.heap.size + 1) g k 23 (by simp)).below hb1
  have B1 : Below w.heap.size w w1 := by
    repeat' (first | with_reducible exact Below.refl _ _ | with_reducible refine Below.setCell ?_ ?_ _ | with_reducible refine Below.alloc ?_ ?_ _ | with_reducible refine below_drewN ?_ _ | with_reducible refine Below.drew ?_ | with_reducible refine Below.trans ?_ (Below.mono (by assumption) ?_) | with_reducible exact Nat.le_refl _ | with_reducible refine Nat.le_trans ?_ (Below.size (by assumption)) | (simp; done) | (simp; omega) | omega)
  clear hb1
  obtain ⟨lp, p0, p1⟩ := P1
  obtain ⟨lq, q0, q1⟩ := Q1
  go_wp2_with fail
  refine (HB.out _).mono ?_
  rintro e w2 ⟨rfl, hb2⟩
  have B2 := B1.trans (hb2.mono B1.size)
  clear hb2 B1 lp p0 p1 lq q0 q1
  go_wp2_with (go_at_call 17; refine (lives3_any _).mono ?_; rintro e w3 ⟨rfl, hb3⟩)
  go_ret
  refine ⟨rfl, ?_⟩
  repeat' (first | with_reducible exact Below.refl _ _ | with_reducible refine Below.setCell ?_ ?_ _ | with_reducible refine Below.alloc ?_ ?_ _ | with_reducible refine below_drewN ?_ _ | with_reducible refine Below.drew ?_ | with_reducible refine Below.trans ?_ (Below.mono (by assumption) ?_) | with_reducible exact Nat.le_refl _ | with_reducible refine Nat.le_trans ?_ (Below.size (by assumption)) | (simp; done) | (simp; omega) | omega)
end Go.Proofs.Ytcabpcneiddgcaa
