/-
  The walk of MathsSquares.
-/
import Derived.Test.YtfopebfejmlhbabMa13
import Derived.OpenShut
namespace Go.Proofs.Ytfopebfejmlhbab
open Go.RowKit

theorem square_times (n : Int) : n * 1000000 * (n * 1000000) = n * n * 1000000 * 1000000 := by
  rw [Int.mul_assoc n, Int.mul_left_comm 1000000 n, ← Int.mul_assoc n, Int.mul_assoc (n * n)]
theorem root_of_square {n : Int} (h : 0 ≤ n) : RootIs (n * n * 1000000 * 1000000) (n * 1000000) := by
  have hq := square_times n
  have h0 : 0 ≤ n * 1000000 := by omega
  refine ⟨h0, ?_, ?_⟩
  · rw [Int.mul_add, hq]; omega
  · by_cases z : n * 1000000 = 0
    · exact Or.inl z
    · right; rw [Int.sub_mul, hq]; omega
theorem power_two {n : Int} (h0 : 0 ≤ n) (h1 : n ≤ 1000000) : shown2 (n * 1000000) 2000000 (mpowR (n * 1000000) 2000000) = (n * n * 1000000, 0) := by
  have hf : fitsB (n * 1000000) = true := fitsB_of (by omega) (by omega)
  have s0 : 0 ≤ n * n := Int.mul_nonneg h0 h0
  have s1 : n * n ≤ 1000000 * 1000000 := Int.mul_le_mul h1 h1 h0 (by decide)
  have e : n * 1000000 * n = n * n * 1000000 := by rw [Int.mul_assoc, Int.mul_comm 1000000, ← Int.mul_assoc]
  have hm := mul_whole (q := n * 1000000) (k := n) hf h0 (by omega)
  rw [absI_pos (by omega), e, if_neg (by omega)] at hm
  have ht : timesR (n * 1000000) 2 = (n * n * 1000000, 0) := by
    show (if (timesR (n * 1000000) 1).2 = 0 then mulR (timesR (n * 1000000) 1).1 (n * 1000000) else timesR (n * 1000000) 1) = _
    rw [timesR_one hf, if_pos rfl]; exact hm
  have hp : mpowR (n * 1000000) 2000000 = (n * n * 1000000, 0) := by
    unfold mpowR
    rw [if_neg (by rintro (h | h | h); exact h (by decide); exact absurd h (by decide); exact absurd h.2 (by decide)), if_pos (Or.inr (by decide))]
    exact ht
  rw [show shown2 (n * 1000000) 2000000 (mpowR (n * 1000000) 2000000) = shown (mpowR (n * 1000000) 2000000) from (if_pos hf).trans (if_pos (by decide)), hp]
  exact shown_fit rfl (fitsB_of (by show _ ≤ n * n * 1000000; omega) (by show n * n * 1000000 ≤ _; omega))

set_option maxRecDepth 100000 in
set_option maxHeartbeats 4000000 in
theorem mathsSquares_walk (n : Int) (_ : (Lit.int .i64 n).wf = true) (w : World) :
    Calls Try.prog 3 #[.int .i64 n] w fun e w' => e = .returned (.bool true) ∧ Below w.heap.size w w' := by
  have HL := hide (fun W : World => lives_any W)
  have HB0 := hide (Below.refl w.heap.size w)
  by_cases h0 : n < 0
  · go_enter Try.func3, Try.ntmps3
    go_wp2_with (go_at_call 6; refine (HL.out _).mono ?_; rintro e v5 ⟨rfl, hb⟩; have HB5 := hide (up HB0.out hb); clear hb)
    go_ret
    exact ⟨rfl, HB5.out⟩
  · by_cases h1 : 1000000 < n
    · go_enter Try.func3, Try.ntmps3
      go_wp2_with (go_at_call 6; refine (HL.out _).mono ?_; rintro e v5 ⟨rfl, hb⟩; have HB5 := hide (up HB0.out hb); clear hb)
      go_ret
      exact ⟨rfl, HB5.out⟩
    · have s0 : 0 ≤ n * n := Int.mul_nonneg (by omega) (by omega)
      have s1 : n * n ≤ 1000000 * 1000000 := Int.mul_le_mul (by omega) (by omega) (by omega) (by decide)
      have hr := root_of_square (n := n) (by omega)
      have HR := hide (fun W : World => Root_any (n * n * 1000000) (n * 1000000) W (fun _ _ => hr))
      have hf : fitsB (n * n * 1000000) = true := fitsB_of (by omega) (by omega)
      rw [show shown1 (n * n * 1000000) (mrootR (n * n * 1000000) (n * 1000000)) = (n * 1000000, 0) from by
        unfold shown1
        rw [if_pos hf, show mrootR (n * n * 1000000) (n * 1000000) = (n * 1000000, 0) from if_neg (by omega)]
        exact shown_fit rfl (fitsB_of (by show _ ≤ n * 1000000; omega) (by show n * 1000000 ≤ _; omega))] at HR
      have HP := hide (fun W : World => Power_any (n * 1000000) 2000000 W)
      rw [power_two (by omega) (by omega)] at HP
      have w1 : IntKind.i64.wrap (n * n) = n * n := wrapI (by omega) (by omega)
      have w2 : IntKind.i64.wrap (n * n * 1000000) = n * n * 1000000 := wrapI (by omega) (by omega)
      have w3 : IntKind.i64.wrap (n * 1000000) = n * 1000000 := wrapI (by omega) (by omega)
      clear hr hf s0 s1
      go_enter Try.func3, Try.ntmps3
      go_wp2_with (first
        | (go_at_call 7; refine (HR.out _).mono ?_; rintro e v1 ⟨rfl, hb⟩; have HB1 := hide (up HB0.out hb); clear hb)
        | (go_at_call 8; refine (HP.out _).mono ?_; rintro e v2 ⟨rfl, hb⟩; have HB2 := hide (up HB1.out hb); clear hb)
        | (go_at_call 6; refine (HL.out _).mono ?_; rintro e v5 ⟨rfl, hb⟩; have HB5 := hide (up HB2.out hb); clear hb))
      go_ret
      exact ⟨rfl, HB5.out⟩
end Go.Proofs.Ytfopebfejmlhbab
