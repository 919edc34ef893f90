/-
  The contracts of maths.factorial, Fact and Power.
-/
import Derived.Test.YtfopebfejmlhbabMa7
namespace Go.Proofs.Ytfopebfejmlhbab
open Go.RowKit

set_option maxHeartbeats 1000000 in
theorem fact_any (n : Int) (w : World) (h1 : -1000000000000000000 ≤ n) (h2 : n ≤ 1000000000000000000) :
    Calls Try.prog 30 #[.agg #[.int .i64 n]] w fun e w' => e = .returned (.tuple #[.int .i64 (mfactR n).1, .int .i64 (mfactR n).2]) ∧ Below w.heap.size w w' := by
  by_cases hn : n < 0
  · rw [show mfactR n = (0, 2) from if_pos hn]
    go_enter Try.func30, Try.ntmps30
    go_wp2
    go_ret2
    exact ⟨rfl, by repeat' (first | with_reducible exact Below.refl _ _ | with_reducible refine Below.setCell ?_ ?_ _ | with_reducible refine Below.alloc ?_ ?_ _ | with_reducible refine below_drewN ?_ _ | with_reducible refine Below.drew ?_ | with_reducible refine Below.trans ?_ (Below.mono (by assumption) ?_) | with_reducible exact Nat.le_refl _ | with_reducible refine Nat.le_trans ?_ (Below.size (by assumption)) | with_reducible refine Nat.le_trans ?_ (size_alloc _ _) | with_reducible refine Nat.le_trans ?_ (size_set _ _ _) | with_reducible refine Nat.le_trans ?_ (size_drewN _ _) | with_reducible refine Nat.le_trans ?_ (size_drew _) | (simp; done) | (simp; omega) | omega)⟩
  · obtain ⟨m, hm⟩ : ∃ m : Nat, n / 1000000 = (m : Int) := ⟨(n / 1000000).toNat, by omega⟩
    have HE : Hid (mfactR n = if m ≤ 14 then ((fa m : Int) * 1000000, 0) else (0, 3)) := by
      show mfactR n = _
      unfold mfactR
      rw [if_neg hn, show (n / 1000000).toNat = m by omega]
    have HB := hide ((Below.refl w.heap.size w).alloc (Nat.le_refl _) (.cells #[.int .i64 n] 33))
    have hn' : ¬ n < 0 := hn
    clear hn
    go_enter Try.func30, Try.ntmps30
    go_wp2
    generalize w.alloc (.cells #[.int .i64 n] 33) = W0 at *
    go_loopw [5, 7] (fun p f wr => ∃ j : Nat, j ≤ 14 ∧ j ≤ m ∧ p = .int .i64 ((fa j : Int) * 1000000) ∧ f = .int .i64 (((j : Int) + 1) * 1000000) ∧ Below w.heap.size w wr) (fun _ f _ => (16000000 - intOf f).toNat)
    case atStart => exact ⟨0, by omega, by omega, rfl, rfl, HB.out⟩
    case round =>
      obtain ⟨j, hj, hjm, rfl, rfl, hb⟩ := hrel
      have HC := hide hb
      clear hb HB
      by_cases hc : (j : Int) + 1 ≤ (m : Int)
      · have hle : ((j : Int) + 1) * 1000000 ≤ n := by omega
        have HM := hide (fun W : World => mul_full ((fa j : Int) * 1000000) (((j : Int) + 1) * 1000000) W)
        rw [fa_step hj] at HM
        have w1 : IntKind.i64.wrap (((j : Int) + 1) * 1000000 + 1000000) = ((j : Int) + 1) * 1000000 + 1000000 := wrapI (by omega) (by omega)
        have hx : Hid (((j : Int) + 1) * 1000000 + 1000000 = (((j + 1 : Nat) : Int) + 1) * 1000000) := by show _ = _; omega
        by_cases e : j = 14
        · subst e
          rw [if_pos rfl] at HM
          have HF : Hid (mfactR n = (0, 3)) := by rw [HE.out]; exact if_neg (by omega)
          clear HE hm
          go_wp2_with (go_at_call 45; refine (HM.out _).mono ?_; rintro e w1 ⟨rfl, hb1⟩; have HB1 := hide (up HC.out hb1); clear hb1)
          go_ret2
          exact ⟨by rw [HF.out]; rfl, HB1.out⟩
        · rw [if_neg e] at HM
          go_wp2_with (go_at_call 45; refine (HM.out _).mono ?_; rintro e w1 ⟨rfl, hb1⟩; have HB1 := hide (up HC.out hb1); clear hb1)
          go_roundw
          case rel => exact ⟨j + 1, by omega, by omega, rfl, congrArg (Value.int .i64) hx.out, HB1.out⟩
          case measure => simp [intOf]; omega
      · have : j = m := by omega
        subst this
        have hlt : ¬ ((j : Int) + 1) * 1000000 ≤ n := by omega
        have HF : Hid (mfactR n = ((fa j : Int) * 1000000, 0)) := HE.out.trans (if_pos hj)
        clear HE
        go_wp2
        go_ret2
        exact ⟨by rw [HF.out]; rfl, HC.out⟩

set_option maxHeartbeats 1000000 in
theorem Fact_any (n : Int) (w : World) :
    Calls Try.prog 16 #[.int .i64 n] w fun e w' => e = .returned (.tuple #[.int .i64 (shown1 n (mfactR n)).1, .int .i64 (shown1 n (mfactR n)).2]) ∧ Below w.heap.size w w' := by
  have HT := hide (fun W : World => told1_any n (mfactR n) 30 #[] W (fun _ _ => by kernel_rfl) (fun hf W' _ => fact_any n W' (fitsB_true hf).1 (fitsB_true hf).2))
  generalize shown1 n (mfactR n) = x at *
  obtain ⟨x1, x2⟩ := x
  go_enter Try.func16, Try.ntmps16
  go_wp2_with (go_at_call 17; refine (HT.out _).mono ?_; rintro e w1 ⟨rfl, hb1⟩)
  go_ret2
  exact ⟨rfl, hb1⟩

set_option maxHeartbeats 1000000 in
theorem Power_any (n k : Int) (w : World) :
    Calls Try.prog 8 #[.int .i64 n, .int .i64 k] w fun e w' => e = .returned (.tuple #[.int .i64 (shown2 n k (mpowR n k)).1, .int .i64 (shown2 n k (mpowR n k)).2]) ∧ Below w.heap.size w w' := by
  have HT := hide (fun W : World => told2_any n k (mpowR n k) 20 #[] W (fun _ _ => by kernel_rfl) (fun hf hg W' _ => power_any n k W' hf hg))
  generalize shown2 n k (mpowR n k) = x at *
  obtain ⟨x1, x2⟩ := x
  go_enter Try.func8, Try.ntmps8
  go_wp2_with (go_at_call 19; refine (HT.out _).mono ?_; rintro e w1 ⟨rfl, hb1⟩)
  go_ret2
  exact ⟨rfl, hb1⟩
end Go.Proofs.Ytfopebfejmlhbab
