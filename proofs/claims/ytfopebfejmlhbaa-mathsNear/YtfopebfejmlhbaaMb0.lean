/-
  The answer's told, to, Down, Up: they tell what the program's tell.
-/
import Derived.Test.YtfopebfejmlhbaaMa3
namespace Go.Proofs.Ytfopebfejmlhbaa
open Go.RowKit

set_option maxHeartbeats 1000000 in
theorem rtold_any (n : Int) (w : World) :
    Calls Try.prog 44 #[.int .i64 n] w fun e w' => e = .returned (.tuple #[.int .i64 (shown (n, 0)).1, .int .i64 (shown (n, 0)).2]) ∧ w' = w := by
  have HF := hide (fun W : World => rfits_any n W)
  cases hf : fitsB n
  · rw [hf] at HF
    rw [shown_over rfl hf]
    clear hf
    go_enter Try.func44, Try.ntmps44
    go_wp2_with (go_at_call 47; refine (HF.out _).mono ?_; rintro e w1 ⟨rfl, rfl⟩)
    go_ret2
    exact ⟨rfl, rfl⟩
  · rw [hf] at HF
    rw [shown_fit rfl hf]
    clear hf
    go_enter Try.func44, Try.ntmps44
    go_wp2_with (go_at_call 47; refine (HF.out _).mono ?_; rintro e w1 ⟨rfl, rfl⟩)
    go_ret2
    exact ⟨rfl, rfl⟩

set_option maxHeartbeats 1000000 in
theorem rto_any (p : Int) (w : World) (h1 : -12 ≤ p) (h2 : p ≤ 6) :
    Calls Try.prog 45 #[.int .i64 p] w fun e w' => e = .returned (.int .i64 (unitR p)) ∧ w' = w := by
  obtain ⟨z, hz⟩ : ∃ z : Nat, z = (6 - p).toNat := ⟨_, rfl⟩
  have hzp : p = 6 - (z : Int) := by omega
  have hz18 : z ≤ 18 := by omega
  have hu : unitR p = p10 z := by unfold unitR; rw [← hz]; rfl
  rw [hu]
  clear hu hz h1 h2
  subst hzp
  go_enter Try.func45, Try.ntmps45
  go_wp2
  go_loop [3, 4] (fun s i => ∃ k : Nat, k ≤ z ∧ i = .int .i64 (6 - (z : Int) + k) ∧ s = .int .i64 (p10 k)) (fun _ i => (6 - intOf i).toNat)
  case atStart => exact ⟨0, Nat.zero_le _, by rw [Int.natCast_zero, Int.add_zero], by rw [p10_zero]⟩
  case round =>
    obtain ⟨k, hk, rfl, rfl⟩ := hrel
    have e1 := pow_le (k := k) (by omega)
    by_cases hlt : k < z
    · have hc : 6 - (z : Int) + k < 6 := by omega
      have HT : Hid (10 * p10 k = p10 (k + 1)) := by show _ = _; rw [p10_succ, Int.mul_comm]
      have e2 := pow_le (k := k + 1) (by omega)
      have e3 : 10 * p10 k ≤ 1000000000000000000 := by rw [HT.out]; exact e2.2
      have e4 : 0 < p10 k := e1.1
      have e5 : IntKind.i64.wrap (10 * p10 k) = 10 * p10 k := wrapI (by omega) (by omega)
      have e6 : IntKind.i64.wrap (6 - (z : Int) + k + 1) = 6 - (z : Int) + k + 1 := wrapI (by omega) (by omega)
      have HX : Hid (6 - (z : Int) + k + 1 = 6 - (z : Int) + ((k + 1 : Nat) : Int)) := by show _ = _; omega
      clear e1 e2
      go_wp2
      go_round
      case rel => exact ⟨k + 1, by omega, congrArg (Value.int .i64) HX.out, congrArg (Value.int .i64) HT.out⟩
      case measure => simp [intOf]; omega
    · have : k = z := by omega
      subst this
      have hc : ¬ 6 - (k : Int) + k < 6 := by omega
      go_wp2
      go_ret
      exact ⟨rfl, rfl⟩

theorem down_out {F : Int → Int → Int} {n p : Int} (h : fitsB n = false ∨ p < -12 ∨ 6 < p) : shown1 n (placesR F n p) = (0, 5) := by
  unfold shown1
  cases hf : fitsB n
  · rw [if_neg (by decide)]
  · rw [if_pos rfl]
    have : p < -12 ∨ 6 < p := by
      rcases h with h | h
      · rw [hf] at h; cases h
      · exact h
    rw [show placesR F n p = (0, 2) from if_pos this]; rfl
theorem down_in {F : Int → Int → Int} {n p : Int} (hf : fitsB n = true) (h1 : -12 ≤ p) (h2 : p ≤ 6) : shown1 n (placesR F n p) = shown (F n (unitR p), 0) := by
  unfold shown1
  rw [if_pos hf, show placesR F n p = (F n (unitR p), 0) from if_neg (by omega)]

set_option maxHeartbeats 1000000 in
theorem rdown_any (n p : Int) (w : World) (p1 : -9223372036854775808 ≤ p) (p2 : p ≤ 9223372036854775807) :
    Calls Try.prog 12 #[.int .i64 n, .int .i64 p] w fun e w' => e = .returned (.tuple #[.int .i64 (shown1 n (placesR inR n p)).1, .int .i64 (shown1 n (placesR inR n p)).2]) ∧ w' = w := by
  have HF := hide (fun W : World => rfits_any n W)
  cases hf : fitsB n
  · rw [hf] at HF
    rw [down_out (Or.inl hf)]
    clear hf
    go_enter Try.func12, Try.ntmps12
    go_wp2_with (go_at_call 47; refine (HF.out _).mono ?_; rintro e w1 ⟨rfl, rfl⟩)
    go_ret2
    exact ⟨rfl, rfl⟩
  · rw [hf] at HF
    by_cases c1 : p < -12
    · rw [down_out (Or.inr (Or.inl c1))]
      clear hf
      go_enter Try.func12, Try.ntmps12
      go_wp2_with (go_at_call 47; refine (HF.out _).mono ?_; rintro e w1 ⟨rfl, rfl⟩)
      go_ret2
      exact ⟨rfl, rfl⟩
    · by_cases c2 : 6 < p
      · rw [down_out (Or.inr (Or.inr c2))]
        clear hf
        go_enter Try.func12, Try.ntmps12
        go_wp2_with (go_at_call 47; refine (HF.out _).mono ?_; rintro e w1 ⟨rfl, rfl⟩)
        go_ret2
        exact ⟨rfl, rfl⟩
      · obtain ⟨n1, n2⟩ := fitsB_true hf
        have hb := inR_bd (s := unitR p) (B := 1000000000000000000) n1 n2
        rw [down_in hf (by omega) (by omega), shown_fit (x := (inR n (unitR p), 0)) rfl (fitsB_of hb.1 hb.2)]
        have HT := hide (fun W : World => rto_any p W (by omega) (by omega))
        have hu := unitR_bd (p := p) (by omega) (by omega)
        show Calls _ _ _ _ (fun e w' => e = .returned (.tuple #[.int .i64 (n - n.tmod (unitR p)), .int .i64 0]) ∧ w' = w)
        generalize unitR p = s at *
        have hz : (s == 0) = false := by rw [beq_eq_false_iff_ne]; omega
        have hz' : ¬ s = 0 := by omega
        have ht := tm_le n s
        have w1 : IntKind.i64.wrap (n.tmod s) = n.tmod s := wrapI (by omega) (by omega)
        have w2 : IntKind.i64.wrap (n - n.tmod s) = n - n.tmod s := wrapI (by omega) (by omega)
        clear ht hf hb hu n1 n2
        by_cases c : 0 ≤ n
        · have ht : n.tmod s = n % s := Int.tmod_eq_emod_of_nonneg c
          rw [ht] at w1 w2 ⊢
          go_enter Try.func12, Try.ntmps12
          go_wp2_with (first | (go_at_call 47; refine (HF.out _).mono ?_; rintro e w1 ⟨rfl, rfl⟩) | (go_at_call 45; refine (HT.out _).mono ?_; rintro e w1 ⟨rfl, rfl⟩))
          go_ret2
          exact ⟨rfl, rfl⟩
        · clear c
          go_enter Try.func12, Try.ntmps12
          go_wp2_with (first | (go_at_call 47; refine (HF.out _).mono ?_; rintro e w1 ⟨rfl, rfl⟩) | (go_at_call 45; refine (HT.out _).mono ?_; rintro e w1 ⟨rfl, rfl⟩))
          go_ret2
          exact ⟨rfl, rfl⟩
end Go.Proofs.Ytfopebfejmlhbaa
