/-
  The contracts of maths' exported functions: Abs, Sign, Up, Down, Even, Odd, Ceiling, Floor, Quotient.
-/
import Derived.Test.YtfopebfejmlhbaaMa4
namespace Go.Proofs.Ytfopebfejmlhbaa
open Go.RowKit

theorem Enters.of {g : Nat} (h : Enters g) : Enters g := h

set_option maxHeartbeats 1000000 in
theorem Abs_any (n : Int) (w : World) :
    Calls Try.prog 17 #[.int .i64 n] w fun e w' => e = .returned (.tuple #[.int .i64 (shown1 n (absI n, 0)).1, .int .i64 (shown1 n (absI n, 0)).2]) ∧ Below w.heap.size w w' := by
  have HT := hide (fun W : World => told1_any n (absI n, 0) 50 #[] W (fun _ _ => by kernel_rfl) (fun hf W' _ => unsigned_any n W' (fitsB_true hf).1 (fitsB_true hf).2))
  generalize shown1 n (absI n, 0) = x at *
  obtain ⟨x1, x2⟩ := x
  go_enter Try.func17, Try.ntmps17
  go_wp2_with (go_at_call 41; refine (HT.out _).mono ?_; rintro e w1 ⟨rfl, hb1⟩)
  go_ret2
  exact ⟨rfl, hb1⟩

set_option maxHeartbeats 1000000 in
theorem Sign_any (n : Int) (w : World) :
    Calls Try.prog 19 #[.int .i64 n] w fun e w' => e = .returned (.tuple #[.int .i64 (shown1 n (msignR n, 0)).1, .int .i64 (shown1 n (msignR n, 0)).2]) ∧ Below w.heap.size w w' := by
  have HT := hide (fun W : World => told1_any n (msignR n, 0) 52 #[] W (fun _ _ => by kernel_rfl) (fun _ W' _ => msign_any n W'))
  generalize shown1 n (msignR n, 0) = x at *
  obtain ⟨x1, x2⟩ := x
  go_enter Try.func19, Try.ntmps19
  go_wp2_with (go_at_call 41; refine (HT.out _).mono ?_; rintro e w1 ⟨rfl, hb1⟩)
  go_ret2
  exact ⟨rfl, hb1⟩

set_option maxHeartbeats 1000000 in
theorem Even_any (n : Int) (w : World) :
    Calls Try.prog 13 #[.int .i64 n] w fun e w' => e = .returned (.tuple #[.int .i64 (shown1 n (mevenR n)).1, .int .i64 (shown1 n (mevenR n)).2]) ∧ Below w.heap.size w w' := by
  have HT := hide (fun W : World => told1_any n (mevenR n) 48 #[] W (fun _ _ => by kernel_rfl) (fun hf W' _ => meven_any n W' (fitsB_true hf).1 (fitsB_true hf).2))
  generalize shown1 n (mevenR n) = x at *
  obtain ⟨x1, x2⟩ := x
  go_enter Try.func13, Try.ntmps13
  go_wp2_with (go_at_call 41; refine (HT.out _).mono ?_; rintro e w1 ⟨rfl, hb1⟩)
  go_ret2
  exact ⟨rfl, hb1⟩

set_option maxHeartbeats 1000000 in
theorem Odd_any (n : Int) (w : World) :
    Calls Try.prog 15 #[.int .i64 n] w fun e w' => e = .returned (.tuple #[.int .i64 (shown1 n (moddR n)).1, .int .i64 (shown1 n (moddR n)).2]) ∧ Below w.heap.size w w' := by
  have HT := hide (fun W : World => told1_any n (moddR n) 49 #[] W (fun _ _ => by kernel_rfl) (fun hf W' _ => modd_any n W' (fitsB_true hf).1 (fitsB_true hf).2))
  generalize shown1 n (moddR n) = x at *
  obtain ⟨x1, x2⟩ := x
  go_enter Try.func15, Try.ntmps15
  go_wp2_with (go_at_call 41; refine (HT.out _).mono ?_; rintro e w1 ⟨rfl, hb1⟩)
  go_ret2
  exact ⟨rfl, hb1⟩

set_option maxHeartbeats 1000000 in
theorem Quotient_any (a b : Int) (w : World) :
    Calls Try.prog 26 #[.int .i64 a, .int .i64 b] w fun e w' => e = .returned (.tuple #[.int .i64 (shown2 a b (mquotR a b)).1, .int .i64 (shown2 a b (mquotR a b)).2]) ∧ Below w.heap.size w w' := by
  have HT := hide (fun W : World => told2_any a b (mquotR a b) 57 #[] W (fun _ _ => by kernel_rfl) (fun hf _ W' _ => mquot_any a b W' (fitsB_true hf).1 (fitsB_true hf).2))
  generalize shown2 a b (mquotR a b) = x at *
  obtain ⟨x1, x2⟩ := x
  go_enter Try.func26, Try.ntmps26
  go_wp2_with (go_at_call 53; refine (HT.out _).mono ?_; rintro e w1 ⟨rfl, hb1⟩)
  go_ret2
  exact ⟨rfl, hb1⟩

set_option maxHeartbeats 1000000 in
theorem toPlaces_any (p : Int) (f : Nat) (w : World) :
    Calls Try.prog 42 #[.int .i64 p, .func (.func f) #[] #[]] w fun e w' => e = .returned (.func (.func 74) #[] #[.pointer (some ⟨w.heap.size, 0, none⟩), .pointer (some ⟨w.heap.size + 1, 0, none⟩)]) ∧ Below w.heap.size w w' ∧ w'.heap.size = w.heap.size + 2 ∧ w'.cell? ⟨w.heap.size, 0, none⟩ = some (.int .i64 p) ∧ w'.cell? ⟨w.heap.size + 1, 0, none⟩ = some (.func (.func f) #[] #[]) := by
  go_enter Try.func42, Try.ntmps42
  go_wp2
  go_ret
  refine ⟨rfl, by repeat' (first | with_reducible exact Below.refl _ _ | with_reducible refine Below.setCell ?_ ?_ _ | with_reducible refine Below.alloc ?_ ?_ _ | with_reducible refine below_drewN ?_ _ | with_reducible refine Below.drew ?_ | with_reducible refine Below.trans ?_ (Below.mono (by assumption) ?_) | with_reducible exact Nat.le_refl _ | with_reducible refine Nat.le_trans ?_ (Below.size (by assumption)) | with_reducible refine Nat.le_trans ?_ (size_alloc _ _) | with_reducible refine Nat.le_trans ?_ (size_set _ _ _) | with_reducible refine Nat.le_trans ?_ (size_drewN _ _) | with_reducible refine Nat.le_trans ?_ (size_drew _) | (simp; done) | (simp; omega) | omega), by simp, by simp [go_sem], by simp [go_sem]⟩

set_option maxHeartbeats 1000000 in
theorem toStep_any (f : Nat) (w : World) :
    Calls Try.prog 54 #[.func (.func f) #[] #[]] w fun e w' => e = .returned (.func (.func 77) #[] #[.pointer (some ⟨w.heap.size, 0, none⟩)]) ∧ Below w.heap.size w w' ∧ w'.heap.size = w.heap.size + 1 ∧ w'.cell? ⟨w.heap.size, 0, none⟩ = some (.func (.func f) #[] #[]) := by
  go_enter Try.func54, Try.ntmps54
  go_wp2
  go_ret
  refine ⟨rfl, by repeat' (first | with_reducible exact Below.refl _ _ | with_reducible refine Below.setCell ?_ ?_ _ | with_reducible refine Below.alloc ?_ ?_ _ | with_reducible refine below_drewN ?_ _ | with_reducible refine Below.drew ?_ | with_reducible refine Below.trans ?_ (Below.mono (by assumption) ?_) | with_reducible exact Nat.le_refl _ | with_reducible refine Nat.le_trans ?_ (Below.size (by assumption)) | with_reducible refine Nat.le_trans ?_ (size_alloc _ _) | with_reducible refine Nat.le_trans ?_ (size_set _ _ _) | with_reducible refine Nat.le_trans ?_ (size_drewN _ _) | with_reducible refine Nat.le_trans ?_ (size_drew _) | (simp; done) | (simp; omega) | omega), by simp, by simp [go_sem]⟩
end Go.Proofs.Ytfopebfejmlhbaa
