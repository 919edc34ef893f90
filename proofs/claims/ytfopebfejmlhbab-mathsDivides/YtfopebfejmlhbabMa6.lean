/-
  The contracts of maths.Up, Down, Ceiling, Floor.
-/
import Derived.Test.YtfopebfejmlhbabMa5
namespace Go.Proofs.Ytfopebfejmlhbab
open Go.RowKit

set_option maxHeartbeats 1000000 in
theorem Up_any (n p : Int) (w : World) (p1 : -9223372036854775808 ≤ p) (p2 : p ≤ 9223372036854775807) :
    Calls Try.prog 12 #[.int .i64 n, .int .i64 p] w fun e w' => e = .returned (.tuple #[.int .i64 (shown1 n (placesR outR n p)).1, .int .i64 (shown1 n (placesR outR n p)).2]) ∧ Below w.heap.size w w' := by
  have HP := hide (fun W : World => toPlaces_any p 25 W)
  have HT : Hid (∀ w1 : World, w1.heap.size = w.heap.size + 2 → w1.cell? ⟨w.heap.size, 0, none⟩ = some (.int .i64 p) → w1.cell? ⟨w.heap.size + 1, 0, none⟩ = some (.func (.func 25) #[] #[]) → Calls Try.prog 17 #[.agg #[.int .i64 n], .func (.func 46) #[] #[.pointer (some ⟨w.heap.size, 0, none⟩), .pointer (some ⟨w.heap.size + 1, 0, none⟩)]] w1 fun e w' => e = .returned (.tuple #[.int .i64 (shown1 n (placesR outR n p)).1, .int .i64 (shown1 n (placesR outR n p)).2]) ∧ Below w1.heap.size w1 w') := by
    intro w1 hz c1 c2
    refine told1_any n (placesR outR n p) 46 _ w1 (fun _ _ => by kernel_rfl) (fun hf W hb => ?_)
    have hs := hb.size
    exact places_any n p 25 outR w.heap.size (w.heap.size + 1) W (fitsB_true hf).1 (fitsB_true hf).2 p1 p2 way_out (by omega) (by omega) (by rw [hb.cell (by show w.heap.size < _; omega)]; exact c1) (by rw [hb.cell (by show w.heap.size + 1 < _; omega)]; exact c2)
  generalize shown1 n (placesR outR n p) = x at *
  obtain ⟨x1, x2⟩ := x
  go_enter Try.func12, Try.ntmps12
  go_wp2_with (first | (go_at_call 24; refine (HP.out _).mono ?_; rintro e w1 ⟨rfl, hb1, hz1, hc1, hc2⟩) | (go_at_call 17; refine (HT.out _ hz1 hc1 hc2).mono ?_; rintro e w2 ⟨rfl, hb2⟩))
  go_ret2
  exact ⟨rfl, up hb1 hb2⟩

set_option maxHeartbeats 1000000 in
theorem Ceiling_any (n s : Int) (w : World) :
    Calls Try.prog 15 #[.int .i64 n, .int .i64 s] w fun e w' => e = .returned (.tuple #[.int .i64 (shown2 n s (stepsR upwR n s)).1, .int .i64 (shown2 n s (stepsR upwR n s)).2]) ∧ Below w.heap.size w w' := by
  have HP := hide (fun W : World => toStep_any 29 W)
  have HT : Hid (∀ w1 : World, w1.heap.size = w.heap.size + 1 → w1.cell? ⟨w.heap.size, 0, none⟩ = some (.func (.func 29) #[] #[]) → Calls Try.prog 19 #[.agg #[.int .i64 n, .int .i64 s], .func (.func 49) #[] #[.pointer (some ⟨w.heap.size, 0, none⟩)]] w1 fun e w' => e = .returned (.tuple #[.int .i64 (shown2 n s (stepsR upwR n s)).1, .int .i64 (shown2 n s (stepsR upwR n s)).2]) ∧ Below w1.heap.size w1 w') := by
    intro w1 hz c1
    refine told2_any n s (stepsR upwR n s) 49 _ w1 (fun _ _ => by kernel_rfl) (fun hf hg W hb => ?_)
    have hs := hb.size
    exact msteps_any n s 29 upwR w.heap.size W (fitsB_true hf).1 (fitsB_true hf).2 (fitsB_true hg).1 (fitsB_true hg).2 way_up (by omega) (by rw [hb.cell (by show w.heap.size < _; omega)]; exact c1)
  generalize shown2 n s (stepsR upwR n s) = x at *
  obtain ⟨x1, x2⟩ := x
  go_enter Try.func15, Try.ntmps15
  go_wp2_with (first | (go_at_call 27; refine (HP.out _).mono ?_; rintro e w1 ⟨rfl, hb1, hz1, hc1⟩) | (go_at_call 19; refine (HT.out _ hz1 hc1).mono ?_; rintro e w2 ⟨rfl, hb2⟩))
  go_ret2
  exact ⟨rfl, up hb1 hb2⟩

set_option maxHeartbeats 1000000 in
theorem Floor_any (n s : Int) (w : World) :
    Calls Try.prog 14 #[.int .i64 n, .int .i64 s] w fun e w' => e = .returned (.tuple #[.int .i64 (shown2 n s (stepsR dwnR n s)).1, .int .i64 (shown2 n s (stepsR dwnR n s)).2]) ∧ Below w.heap.size w w' := by
  have HP := hide (fun W : World => toStep_any 28 W)
  have HT : Hid (∀ w1 : World, w1.heap.size = w.heap.size + 1 → w1.cell? ⟨w.heap.size, 0, none⟩ = some (.func (.func 28) #[] #[]) → Calls Try.prog 19 #[.agg #[.int .i64 n, .int .i64 s], .func (.func 49) #[] #[.pointer (some ⟨w.heap.size, 0, none⟩)]] w1 fun e w' => e = .returned (.tuple #[.int .i64 (shown2 n s (stepsR dwnR n s)).1, .int .i64 (shown2 n s (stepsR dwnR n s)).2]) ∧ Below w1.heap.size w1 w') := by
    intro w1 hz c1
    refine told2_any n s (stepsR dwnR n s) 49 _ w1 (fun _ _ => by kernel_rfl) (fun hf hg W hb => ?_)
    have hs := hb.size
    exact msteps_any n s 28 dwnR w.heap.size W (fitsB_true hf).1 (fitsB_true hf).2 (fitsB_true hg).1 (fitsB_true hg).2 way_down (by omega) (by rw [hb.cell (by show w.heap.size < _; omega)]; exact c1)
  generalize shown2 n s (stepsR dwnR n s) = x at *
  obtain ⟨x1, x2⟩ := x
  go_enter Try.func14, Try.ntmps14
  go_wp2_with (first | (go_at_call 27; refine (HP.out _).mono ?_; rintro e w1 ⟨rfl, hb1, hz1, hc1⟩) | (go_at_call 19; refine (HT.out _ hz1 hc1).mono ?_; rintro e w2 ⟨rfl, hb2⟩))
  go_ret2
  exact ⟨rfl, up hb1 hb2⟩
end Go.Proofs.Ytfopebfejmlhbab
