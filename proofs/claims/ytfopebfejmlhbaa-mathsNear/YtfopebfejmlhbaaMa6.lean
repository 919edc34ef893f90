/-
  The contracts of maths.Up, Down, Ceiling, Floor.
-/
import Derived.Test.YtfopebfejmlhbaaMa5
namespace Go.Proofs.Ytfopebfejmlhbaa
open Go.RowKit

set_option maxHeartbeats 1000000 in
theorem Up_any (n p : Int) (w : World) (p1 : -9223372036854775808 ≤ p) (p2 : p ≤ 9223372036854775807) :
    Calls Try.prog 9 #[.int .i64 n, .int .i64 p] w fun e w' => e = .returned (.tuple #[.int .i64 (shown1 n (placesR outR n p)).1, .int .i64 (shown1 n (placesR outR n p)).2]) ∧ Below w.heap.size w w' := by
  have HP := hide (fun W : World => toPlaces_any p 43 W)
  have HT : Hid (∀ w1 : World, w1.heap.size = w.heap.size + 2 → w1.cell? ⟨w.heap.size, 0, none⟩ = some (.int .i64 p) → w1.cell? ⟨w.heap.size + 1, 0, none⟩ = some (.func (.func 43) #[] #[]) → Calls Try.prog 41 #[.agg #[.int .i64 n], .func (.func 74) #[] #[.pointer (some ⟨w.heap.size, 0, none⟩), .pointer (some ⟨w.heap.size + 1, 0, none⟩)]] w1 fun e w' => e = .returned (.tuple #[.int .i64 (shown1 n (placesR outR n p)).1, .int .i64 (shown1 n (placesR outR n p)).2]) ∧ Below w1.heap.size w1 w') := by
    intro w1 hz c1 c2
    refine told1_any n (placesR outR n p) 74 _ w1 (fun _ _ => by kernel_rfl) (fun hf W hb => ?_)
    have hs := hb.size
    exact places_any n p 43 outR w.heap.size (w.heap.size + 1) W (fitsB_true hf).1 (fitsB_true hf).2 p1 p2 way_out (by omega) (by omega) (by rw [hb.cell (by show w.heap.size < _; omega)]; exact c1) (by rw [hb.cell (by show w.heap.size + 1 < _; omega)]; exact c2)
  generalize shown1 n (placesR outR n p) = x at *
  obtain ⟨x1, x2⟩ := x
  go_enter Try.func9, Try.ntmps9
  go_wp2_with (first | (go_at_call 42; refine (HP.out _).mono ?_; rintro e w1 ⟨rfl, hb1, hz1, hc1, hc2⟩) | (go_at_call 41; refine (HT.out _ hz1 hc1 hc2).mono ?_; rintro e w2 ⟨rfl, hb2⟩))
  go_ret2
  exact ⟨rfl, up hb1 hb2⟩

set_option maxHeartbeats 1000000 in
theorem Down_any (n p : Int) (w : World) (p1 : -9223372036854775808 ≤ p) (p2 : p ≤ 9223372036854775807) :
    Calls Try.prog 11 #[.int .i64 n, .int .i64 p] w fun e w' => e = .returned (.tuple #[.int .i64 (shown1 n (placesR inR n p)).1, .int .i64 (shown1 n (placesR inR n p)).2]) ∧ Below w.heap.size w w' := by
  have HP := hide (fun W : World => toPlaces_any p 46 W)
  have HT : Hid (∀ w1 : World, w1.heap.size = w.heap.size + 2 → w1.cell? ⟨w.heap.size, 0, none⟩ = some (.int .i64 p) → w1.cell? ⟨w.heap.size + 1, 0, none⟩ = some (.func (.func 46) #[] #[]) → Calls Try.prog 41 #[.agg #[.int .i64 n], .func (.func 74) #[] #[.pointer (some ⟨w.heap.size, 0, none⟩), .pointer (some ⟨w.heap.size + 1, 0, none⟩)]] w1 fun e w' => e = .returned (.tuple #[.int .i64 (shown1 n (placesR inR n p)).1, .int .i64 (shown1 n (placesR inR n p)).2]) ∧ Below w1.heap.size w1 w') := by
    intro w1 hz c1 c2
    refine told1_any n (placesR inR n p) 74 _ w1 (fun _ _ => by kernel_rfl) (fun hf W hb => ?_)
    have hs := hb.size
    exact places_any n p 46 inR w.heap.size (w.heap.size + 1) W (fitsB_true hf).1 (fitsB_true hf).2 p1 p2 way_in (by omega) (by omega) (by rw [hb.cell (by show w.heap.size < _; omega)]; exact c1) (by rw [hb.cell (by show w.heap.size + 1 < _; omega)]; exact c2)
  generalize shown1 n (placesR inR n p) = x at *
  obtain ⟨x1, x2⟩ := x
  go_enter Try.func11, Try.ntmps11
  go_wp2_with (first | (go_at_call 42; refine (HP.out _).mono ?_; rintro e w1 ⟨rfl, hb1, hz1, hc1, hc2⟩) | (go_at_call 41; refine (HT.out _ hz1 hc1 hc2).mono ?_; rintro e w2 ⟨rfl, hb2⟩))
  go_ret2
  exact ⟨rfl, up hb1 hb2⟩

set_option maxHeartbeats 1000000 in
theorem Ceiling_any (n s : Int) (w : World) :
    Calls Try.prog 22 #[.int .i64 n, .int .i64 s] w fun e w' => e = .returned (.tuple #[.int .i64 (shown2 n s (stepsR upwR n s)).1, .int .i64 (shown2 n s (stepsR upwR n s)).2]) ∧ Below w.heap.size w w' := by
  have HP := hide (fun W : World => toStep_any 55 W)
  have HT : Hid (∀ w1 : World, w1.heap.size = w.heap.size + 1 → w1.cell? ⟨w.heap.size, 0, none⟩ = some (.func (.func 55) #[] #[]) → Calls Try.prog 53 #[.agg #[.int .i64 n, .int .i64 s], .func (.func 77) #[] #[.pointer (some ⟨w.heap.size, 0, none⟩)]] w1 fun e w' => e = .returned (.tuple #[.int .i64 (shown2 n s (stepsR upwR n s)).1, .int .i64 (shown2 n s (stepsR upwR n s)).2]) ∧ Below w1.heap.size w1 w') := by
    intro w1 hz c1
    refine told2_any n s (stepsR upwR n s) 77 _ w1 (fun _ _ => by kernel_rfl) (fun hf hg W hb => ?_)
    have hs := hb.size
    exact msteps_any n s 55 upwR w.heap.size W (fitsB_true hf).1 (fitsB_true hf).2 (fitsB_true hg).1 (fitsB_true hg).2 way_up (by omega) (by rw [hb.cell (by show w.heap.size < _; omega)]; exact c1)
  generalize shown2 n s (stepsR upwR n s) = x at *
  obtain ⟨x1, x2⟩ := x
  go_enter Try.func22, Try.ntmps22
  go_wp2_with (first | (go_at_call 54; refine (HP.out _).mono ?_; rintro e w1 ⟨rfl, hb1, hz1, hc1⟩) | (go_at_call 53; refine (HT.out _ hz1 hc1).mono ?_; rintro e w2 ⟨rfl, hb2⟩))
  go_ret2
  exact ⟨rfl, up hb1 hb2⟩

set_option maxHeartbeats 1000000 in
theorem Floor_any (n s : Int) (w : World) :
    Calls Try.prog 24 #[.int .i64 n, .int .i64 s] w fun e w' => e = .returned (.tuple #[.int .i64 (shown2 n s (stepsR dwnR n s)).1, .int .i64 (shown2 n s (stepsR dwnR n s)).2]) ∧ Below w.heap.size w w' := by
  have HP := hide (fun W : World => toStep_any 56 W)
  have HT : Hid (∀ w1 : World, w1.heap.size = w.heap.size + 1 → w1.cell? ⟨w.heap.size, 0, none⟩ = some (.func (.func 56) #[] #[]) → Calls Try.prog 53 #[.agg #[.int .i64 n, .int .i64 s], .func (.func 77) #[] #[.pointer (some ⟨w.heap.size, 0, none⟩)]] w1 fun e w' => e = .returned (.tuple #[.int .i64 (shown2 n s (stepsR dwnR n s)).1, .int .i64 (shown2 n s (stepsR dwnR n s)).2]) ∧ Below w1.heap.size w1 w') := by
    intro w1 hz c1
    refine told2_any n s (stepsR dwnR n s) 77 _ w1 (fun _ _ => by kernel_rfl) (fun hf hg W hb => ?_)
    have hs := hb.size
    exact msteps_any n s 56 dwnR w.heap.size W (fitsB_true hf).1 (fitsB_true hf).2 (fitsB_true hg).1 (fitsB_true hg).2 way_down (by omega) (by rw [hb.cell (by show w.heap.size < _; omega)]; exact c1)
  generalize shown2 n s (stepsR dwnR n s) = x at *
  obtain ⟨x1, x2⟩ := x
  go_enter Try.func24, Try.ntmps24
  go_wp2_with (first | (go_at_call 54; refine (HP.out _).mono ?_; rintro e w1 ⟨rfl, hb1, hz1, hc1⟩) | (go_at_call 53; refine (HT.out _ hz1 hc1).mono ?_; rintro e w2 ⟨rfl, hb2⟩))
  go_ret2
  exact ⟨rfl, up hb1 hb2⟩
end Go.Proofs.Ytfopebfejmlhbaa
