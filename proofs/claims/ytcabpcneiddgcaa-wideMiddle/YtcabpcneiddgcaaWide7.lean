/-
  The contracts of wide.scaled and divided.
-/
import Derived.Test.YtcabpcneiddgcaaWide1
import Derived.Test.YtcabpcneiddgcaaDiv64Any
import Derived.Deep.RegionHeld3
namespace Go.Proofs.Ytcabpcneiddgcaa
open Go.RowKit

theorem add64_run (x y : Int) (w : World) (hx : 0 ≤ x) (hy : 0 ≤ y) (S C : Int) (e1 : (x + y) % 18446744073709551616 = S) (e2 : (x + y) / 18446744073709551616 = C) :
    (callFunc 41 #[.int .u64 x, .int .u64 y, .int .u64 0]).run Try.prog w = .ok (.value (.tuple #[.int .u64 S, .int .u64 C])) w := by
  rw [run_callFunc_extern Try.func41 (by kernel_rfl) (by kernel_rfl) (by kernel_rfl) (e := add64Entry) (by kernel_rfl), run_add64 x y 0 hx hy (by omega) (by omega)]
  simp only [Result.andThen, Int.add_zero, e1, e2]

theorem scale_math (m l : Int) :
    m * 1000000000000000000 / 18446744073709551616 + (m * 1000000000000000000 % 18446744073709551616 + l) / 18446744073709551616 = (m * 1000000000000000000 + l) / 18446744073709551616 ∧
    (m * 1000000000000000000 % 18446744073709551616 + l) % 18446744073709551616 = (m * 1000000000000000000 + l) % 18446744073709551616 := by
  constructor <;> omega

set_option maxHeartbeats 1000000 in
theorem scaled_any (m l : Int) (w : World) (m0 : 0 ≤ m) (m1 : m ≤ 2147483648) (l0 : 0 ≤ l) (l1 : l < 1000000000000000000) :
    Calls Try.prog 38 #[.int .i64 m, .int .i64 l] w fun e w' => e = .returned (.agg #[.int .u64 ((m * 1000000000000000000 + l) / 18446744073709551616), .int .u64 ((m * 1000000000000000000 + l) % 18446744073709551616)]) ∧ Below w.heap.size w w' := by
  have HM : Hid (∀ W : World, Calls Try.prog 40 #[.int .u64 m, .int .u64 1000000000000000000] W fun e w' => e = .returned (.tuple #[.int .u64 (m * 1000000000000000000 / 18446744073709551616), .int .u64 (m * 1000000000000000000 % 18446744073709551616)]) ∧ w' = W) := fun W => mul64_any m 1000000000000000000 W m0 (by omega) (by omega) (by omega)
  obtain ⟨h1, h2⟩ := scale_math m l
  rw [← h1, ← h2]
  clear h1 h2
  have b1 : 0 ≤ m * 1000000000000000000 / 18446744073709551616 ∧ m * 1000000000000000000 / 18446744073709551616 ≤ 2147483648 := by omega
  have b2 : 0 ≤ m * 1000000000000000000 % 18446744073709551616 ∧ m * 1000000000000000000 % 18446744073709551616 < 18446744073709551616 := by omega
  generalize m * 1000000000000000000 / 18446744073709551616 = hi at *
  generalize m * 1000000000000000000 % 18446744073709551616 = lo at *
  have b3 : 0 ≤ (lo + l) / 18446744073709551616 ∧ (lo + l) / 18446744073709551616 ≤ 1 := by omega
  have b4 : 0 ≤ (lo + l) % 18446744073709551616 ∧ (lo + l) % 18446744073709551616 < 18446744073709551616 := by omega
  obtain ⟨S, e1⟩ : ∃ S, (lo + l) % 18446744073709551616 = S := ⟨_, rfl⟩
  obtain ⟨C, e2⟩ : ∃ C, (lo + l) / 18446744073709551616 = C := ⟨_, rfl⟩
  have hadd := fun W : World => add64_run lo l W b2.1 l0 S C e1 e2
  rw [e1, e2]
  rw [e1] at b4
  rw [e2] at b3
  clear e1 e2
  go_enter Try.func38, Try.ntmps38
  go_wp2_with (go_at_call 40; refine (HM.out _).mono ?_; rintro e w1 ⟨rfl, rfl⟩)
  refine bodyPost_ret (v := .agg #[.int .u64 (hi + C), .int .u64 S]) (by simp [results, Try.results38, go_sem]) rfl ⟨rfl, ?_⟩
  repeat' (first | with_reducible exact Below.refl _ _ | with_reducible refine Below.setCell ?_ ?_ _ | with_reducible refine Below.alloc ?_ ?_ _ | with_reducible refine below_drewN ?_ _ | with_reducible refine Below.drew ?_ | with_reducible refine Below.trans ?_ (Below.mono (by assumption) ?_) | with_reducible exact Nat.le_refl _ | (simp; done) | (simp; omega) | omega)

set_option maxHeartbeats 1000000 in
theorem divided_any (N d : Int) (w : World) (n0 : 0 ≤ N) (d0 : 1 ≤ d) (d1 : d ≤ 2147483648) (hN : N < d * 1000000000000000000) :
    Calls Try.prog 37 #[.agg #[.int .u64 (N / 18446744073709551616), .int .u64 (N % 18446744073709551616)], .int .i64 d] w fun e w' => e = .returned (.tuple #[.int .i64 (N / d), .int .i64 (N % d)]) ∧ Below w.heap.size w w' := by
  have k1 : N / 18446744073709551616 < d := by
    have : N < d * 18446744073709551616 := by omega
    exact Int.ediv_lt_of_lt_mul (by decide) this
  have k0 : 0 ≤ N / 18446744073709551616 := by omega
  have k2 : 0 ≤ N % 18446744073709551616 ∧ N % 18446744073709551616 < 18446744073709551616 := by omega
  have hd := div64_any (N / 18446744073709551616) (N % 18446744073709551616) d k0 k1 (by omega) k2.1 k2.2
  unfold DivAt at hd
  rw [show N / 18446744073709551616 * 18446744073709551616 + N % 18446744073709551616 = N by omega] at hd
  have q0 : 0 ≤ N / d := Int.ediv_nonneg n0 (by omega)
  have q1 : N / d < 1000000000000000000 := Int.ediv_lt_of_lt_mul (by omega) (by rw [Int.mul_comm]; exact hN)
  have r0 : 0 ≤ N % d := Int.emod_nonneg _ (by omega)
  have r1 : N % d < d := Int.emod_lt_of_pos _ (by omega)
  have HD : Hid (∀ w : World, Calls Try.prog 39 #[.int .u64 (N / 18446744073709551616), .int .u64 (N % 18446744073709551616), .int .u64 d] w fun e w' => e = .returned (.tuple #[.int .u64 (N / d), .int .u64 (N % d)]) ∧ Below w.heap.size w w') := hd
  clear hd
  generalize N / d = q at *
  generalize N % d = r at *
  generalize N / 18446744073709551616 = hi at *
  generalize N % 18446744073709551616 = lo at *
  clear hN
  go_enter Try.func37, Try.ntmps37
  go_wp2_with (go_at_call 39; refine (HD.out _).mono ?_; rintro e w1 ⟨rfl, hb1⟩)
  go_ret2
  refine ⟨rfl, ?_⟩
  repeat' (first | with_reducible exact Below.refl _ _ | with_reducible refine Below.setCell ?_ ?_ _ | with_reducible refine Below.alloc ?_ ?_ _ | with_reducible refine below_drewN ?_ _ | with_reducible refine Below.drew ?_ | with_reducible refine Below.trans ?_ (Below.mono (by assumption) ?_) | with_reducible exact Nat.le_refl _ | (simp; done) | (simp; omega) | omega)
end Go.Proofs.Ytcabpcneiddgcaa
