/-
  The contract of wide.nearest.
-/
import Derived.Test.YtcabpcneiddgcaaWide7
namespace Go.Proofs.Ytcabpcneiddgcaa
open Go.RowKit

set_option maxHeartbeats 4000000 in
theorem nearW_tail (h l c H m q r x y z : Int) (w : World) (c0 : 1 ≤ c) (c1 : c ≤ 2147483648) (H0 : -2147483648 ≤ H) (H1 : H < 2147483648) (r0 : 0 ≤ r) (r1 : r < c) (q0 : 0 ≤ q) (q1 : q < 1000000000000000000)
    (HP : Hid (∀ W : World, Calls Try.prog 36 #[.int .i64 h, .int .i64 c] W fun e w' => e = .returned (.tuple #[.int .i64 H, .int .i64 m]) ∧ ∃ n, w' = W.drewN n))
    (hi lo : Int)
    (HS : Hid (∀ W : World, Calls Try.prog 38 #[.int .i64 m, .int .i64 l] W fun e w' => e = .returned (.agg #[.int .u64 hi, .int .u64 lo]) ∧ Below W.heap.size W w'))
    (HD : Hid (∀ W : World, Calls Try.prog 37 #[.agg #[.int .u64 hi, .int .u64 lo], .int .i64 c] W fun e w' => e = .returned (.tuple #[.int .i64 q, .int .i64 r]) ∧ Below W.heap.size W w'))
    (HW : Hid (∀ W : World, Calls Try.prog 27 #[.int .i64 x] W fun e w' => e = .returned (.agg #[.int .i64 y, .int .i64 z]) ∧ ∃ n, w' = (((W.alloc (.cells #[.int .i64 0, .int .i64 0] 23)).drewN n).setCell ⟨W.heap.size, 0, none⟩ (.int .i64 y)).setCell ⟨W.heap.size, 1, none⟩ (.int .i64 z)))
    (hx : Hid (x = if c < 2 * r ∨ (2 * r = c ∧ q % 2 = 1) then q + 1 else q)) (y0 : 0 ≤ y) (y1 : y ≤ 1) :
    Calls Try.prog 33 #[.agg #[.int .i64 h, .int .i64 l], .int .i64 c] w fun e w' => e = .returned (.agg #[.int .i64 (y + H), .int .i64 z]) ∧ Below w.heap.size w w' := by
  have hx := hx.out
  by_cases d1 : c < 2 * r
  · rw [if_pos (Or.inl d1)] at hx
    have hx2 := hx.symm
    clear hx
    go_enter Try.func33, Try.ntmps33
    go_wp2_with (first | (go_at_call 36; refine (HP.out _).mono ?_; rintro e w1 ⟨rfl, n1, rfl⟩) | (go_at_call 38; refine (HS.out _).mono ?_; rintro e w2 ⟨rfl, hb2⟩))
    refine (HD.out _).mono ?_
    rintro e w3 ⟨rfl, hb3⟩
    have hb := hb2.trans (hb3.mono hb2.size)
    clear hb2 hb3
    have k1 := hb.cell (p := ⟨w.heap.size + 1, 0, none⟩) (by simp)
    have k2 := hb.cell (p := ⟨w.heap.size + 1, 1, none⟩) (by simp)
    have k3 := hb.frozen (p := ⟨w.heap.size + 1, 0, none⟩) (by simp)
    have k4 := hb.frozen (p := ⟨w.heap.size + 1, 1, none⟩) (by simp)
    simp [go_sem] at k1 k2 k3 k4
    have sz := hb.size
    simp at sz
    have s1 : w.heap.size + 1 ≠ w3.heap.size := by omega
    have s2 : w.heap.size ≠ w3.heap.size := by omega
    have s3 : w.heap.size < w3.heap.size := by omega
    have s4 : w.heap.size + 1 < w3.heap.size := by omega
    go_wp2_with (first | (go_at_call 27; refine (HW.out _).mono ?_; rintro e w4 ⟨rfl, n4, rfl⟩))
    refine bodyPost_ret (v := .agg #[.int .i64 (y + H), .int .i64 z]) (by simp [results, Try.results33, go_sem, k1, k2, s3, s4]) rfl ⟨rfl, ?_⟩
    repeat' (first | with_reducible exact Below.refl _ _ | with_reducible refine Below.setCell ?_ ?_ _ | with_reducible refine Below.alloc ?_ ?_ _ | with_reducible refine below_drewN ?_ _ | with_reducible refine Below.drew ?_ | with_reducible refine Below.trans ?_ (Below.mono (by assumption) ?_) | with_reducible exact Nat.le_refl _ | (simp; done) | (simp; omega) | omega)
  · by_cases d2 : 2 * r = c
    · by_cases d3 : q % 2 = 1
      · rw [if_pos (Or.inr ⟨d2, d3⟩)] at hx
        have hx2 := hx.symm
        have t2 : (2 * r == c) = true := beq_iff_eq.2 d2
        have t3 : (q % 2 == 1) = true := beq_iff_eq.2 d3
        have D2 : Hid (2 * r = c) := d2
        clear hx d2 d3
        go_enter Try.func33, Try.ntmps33
        go_wp2_with (first | (go_at_call 36; refine (HP.out _).mono ?_; rintro e w1 ⟨rfl, n1, rfl⟩) | (go_at_call 38; refine (HS.out _).mono ?_; rintro e w2 ⟨rfl, hb2⟩))
        refine (HD.out _).mono ?_
        rintro e w3 ⟨rfl, hb3⟩
        have hb := hb2.trans (hb3.mono hb2.size)
        clear hb2 hb3
        have k1 := hb.cell (p := ⟨w.heap.size + 1, 0, none⟩) (by simp)
        have k2 := hb.cell (p := ⟨w.heap.size + 1, 1, none⟩) (by simp)
        have k3 := hb.frozen (p := ⟨w.heap.size + 1, 0, none⟩) (by simp)
        have k4 := hb.frozen (p := ⟨w.heap.size + 1, 1, none⟩) (by simp)
        simp [go_sem] at k1 k2 k3 k4
        have sz := hb.size
        simp at sz
        have s1 : w.heap.size + 1 ≠ w3.heap.size := by omega
        have s2 : w.heap.size ≠ w3.heap.size := by omega
        have s3 : w.heap.size < w3.heap.size := by omega
        have s4 : w.heap.size + 1 < w3.heap.size := by omega
        go_wp2_with (first | (go_at_call 27; refine (HW.out _).mono ?_; rintro e w4 ⟨rfl, n4, rfl⟩))
        refine bodyPost_ret (v := .agg #[.int .i64 (y + H), .int .i64 z]) (by simp [results, Try.results33, go_sem, k1, k2, s3, s4]) rfl ⟨rfl, ?_⟩
        repeat' (first | with_reducible exact Below.refl _ _ | with_reducible refine Below.setCell ?_ ?_ _ | with_reducible refine Below.alloc ?_ ?_ _ | with_reducible refine below_drewN ?_ _ | with_reducible refine Below.drew ?_ | with_reducible refine Below.trans ?_ (Below.mono (by assumption) ?_) | with_reducible exact Nat.le_refl _ | (simp; done) | (simp; omega) | omega)
      · rw [if_neg (by omega)] at hx
        subst hx
        have t2 : (2 * r == c) = true := beq_iff_eq.2 d2
        have t3 : (x % 2 == 1) = false := beq_eq_false_iff_ne.2 d3
        have D2 : Hid (2 * r = c) := d2
        clear d2 d3
        go_enter Try.func33, Try.ntmps33
        go_wp2_with (first | (go_at_call 36; refine (HP.out _).mono ?_; rintro e w1 ⟨rfl, n1, rfl⟩) | (go_at_call 38; refine (HS.out _).mono ?_; rintro e w2 ⟨rfl, hb2⟩))
        refine (HD.out _).mono ?_
        rintro e w3 ⟨rfl, hb3⟩
        have hb := hb2.trans (hb3.mono hb2.size)
        clear hb2 hb3
        have k1 := hb.cell (p := ⟨w.heap.size + 1, 0, none⟩) (by simp)
        have k2 := hb.cell (p := ⟨w.heap.size + 1, 1, none⟩) (by simp)
        have k3 := hb.frozen (p := ⟨w.heap.size + 1, 0, none⟩) (by simp)
        have k4 := hb.frozen (p := ⟨w.heap.size + 1, 1, none⟩) (by simp)
        simp [go_sem] at k1 k2 k3 k4
        have sz := hb.size
        simp at sz
        have s1 : w.heap.size + 1 ≠ w3.heap.size := by omega
        have s2 : w.heap.size ≠ w3.heap.size := by omega
        have s3 : w.heap.size < w3.heap.size := by omega
        have s4 : w.heap.size + 1 < w3.heap.size := by omega
        go_wp2_with (first | (go_at_call 27; refine (HW.out _).mono ?_; rintro e w4 ⟨rfl, n4, rfl⟩))
        refine bodyPost_ret (v := .agg #[.int .i64 (y + H), .int .i64 z]) (by simp [results, Try.results33, go_sem, k1, k2, s3, s4]) rfl ⟨rfl, ?_⟩
        repeat' (first | with_reducible exact Below.refl _ _ | with_reducible refine Below.setCell ?_ ?_ _ | with_reducible refine Below.alloc ?_ ?_ _ | with_reducible refine below_drewN ?_ _ | with_reducible refine Below.drew ?_ | with_reducible refine Below.trans ?_ (Below.mono (by assumption) ?_) | with_reducible exact Nat.le_refl _ | (simp; done) | (simp; omega) | omega)
    · rw [if_neg (by omega)] at hx
      subst hx
      have t2 : (2 * r == c) = false := beq_eq_false_iff_ne.2 d2
      clear d2
      go_enter Try.func33, Try.ntmps33
      go_wp2_with (first | (go_at_call 36; refine (HP.out _).mono ?_; rintro e w1 ⟨rfl, n1, rfl⟩) | (go_at_call 38; refine (HS.out _).mono ?_; rintro e w2 ⟨rfl, hb2⟩))
      refine (HD.out _).mono ?_
      rintro e w3 ⟨rfl, hb3⟩
      have hb := hb2.trans (hb3.mono hb2.size)
      clear hb2 hb3
      have k1 := hb.cell (p := ⟨w.heap.size + 1, 0, none⟩) (by simp)
      have k2 := hb.cell (p := ⟨w.heap.size + 1, 1, none⟩) (by simp)
      have k3 := hb.frozen (p := ⟨w.heap.size + 1, 0, none⟩) (by simp)
      have k4 := hb.frozen (p := ⟨w.heap.size + 1, 1, none⟩) (by simp)
      simp [go_sem] at k1 k2 k3 k4
      have sz := hb.size
      simp at sz
      have s1 : w.heap.size + 1 ≠ w3.heap.size := by omega
      have s2 : w.heap.size ≠ w3.heap.size := by omega
      have s3 : w.heap.size < w3.heap.size := by omega
      have s4 : w.heap.size + 1 < w3.heap.size := by omega
      go_wp2_with (first | (go_at_call 27; refine (HW.out _).mono ?_; rintro e w4 ⟨rfl, n4, rfl⟩))
      refine bodyPost_ret (v := .agg #[.int .i64 (y + H), .int .i64 z]) (by simp [results, Try.results33, go_sem, k1, k2, s3, s4]) rfl ⟨rfl, ?_⟩
      repeat' (first | with_reducible exact Below.refl _ _ | with_reducible refine Below.setCell ?_ ?_ _ | with_reducible refine Below.alloc ?_ ?_ _ | with_reducible refine below_drewN ?_ _ | with_reducible refine Below.drew ?_ | with_reducible refine Below.trans ?_ (Below.mono (by assumption) ?_) | with_reducible exact Nat.le_refl _ | (simp; done) | (simp; omega) | omega)
end Go.Proofs.Ytcabpcneiddgcaa
