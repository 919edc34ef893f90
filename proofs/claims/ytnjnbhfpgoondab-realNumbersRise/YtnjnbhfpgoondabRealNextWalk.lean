/-
  The walk of RealNext: for every two floats' bits it returns true.
-/
import Derived.Test.YtnjnbhfpgoondabRealRisesWalk
import Derived.Test.YtnjnbhfpgoondabRefReal
import Derived.Test.YtnjnbhfpgoondabRealFloat
namespace Go.Proofs.Ytnjnbhfpgoondab
open Go.RowKit

theorem key_pos {b : Int} (h : 0 ≤ b) (k : b < 9223372036854775808) : keyR b = b := by
  unfold keyR fNeg rung
  rw [decide_eq_false (by omega), if_neg (by decide)]; omega
theorem key_neg {b : Int} (h : 9223372036854775808 ≤ b) (k : b < 18446744073709551616) : keyR b = 9223372036854775808 - b := by
  unfold keyR fNeg rung
  rw [decide_eq_true h, if_pos rfl]; omega
theorem kind_of_rung {b : Nat} (h : b < 18446744073709551616) (k : rung b ≤ 9218868437227405312) : kindR b ≠ 0 := fun e => by
  have := (kind_rung b h).1 e
  omega
theorem next_facts {a : Nat} (ha : a < 18446744073709551616) (e : (nextR a).2 = 0) :
    ∃ x : Nat, (nextR a).1 = x ∧ x < 18446744073709551616 ∧ kindR a ≠ 0 ∧ kindR x ≠ 0 ∧ keyR x = keyR a + 1 ∧ lessR a x = true := by
  unfold nextR at e ⊢
  split at e
  · cases e
  · rename_i c0
    rw [if_neg c0]
    have k0 : kindR a ≠ 0 := fun h => c0 (Or.inl h)
    have ci : (a : Int) ≠ 9218868437227405312 := fun h => c0 (Or.inr h)
    have nb := num_bits (b := a) (by omega) (by omega) k0
    have rk := (rankR_num ha k0).1
    by_cases c2 : kindR a = 2
    · rw [if_pos c2]
      have z := nought_bits (b := a) (by omega) (by omega) c2
      have kx : kindR ((1 : Nat) : Int) ≠ 0 := by decide
      refine ⟨1, rfl, by decide, k0, kx, ?_, ?_⟩
      · rw [show keyR ((1 : Nat) : Int) = 1 from by decide]
        rcases z with z | z
        · rw [key_pos (by omega) (by omega)]; omega
        · rw [key_neg (by omega) (by omega)]; omega
      · unfold lessR
        rw [rk, show rankR ((1 : Nat) : Int) = 9223372036854775809 from by decide]
        refine decide_eq_true ?_
        split <;> omega
    · rw [if_neg c2]
      have z2 : (a : Int) ≠ 0 ∧ (a : Int) ≠ 9223372036854775808 := by
        constructor
        · intro h; apply c2; rw [h]; decide
        · intro h; apply c2; rw [h]; decide
      cases hn : fNeg a
      · have hb := of_decide_eq_false hn
        rw [if_neg (by decide)]
        have kx : kindR ((a + 1 : Nat) : Int) ≠ 0 := kind_of_rung (by omega) (by unfold rung; omega)
        refine ⟨a + 1, rfl, by omega, k0, kx, ?_, ?_⟩
        · rw [key_pos (b := ((a + 1 : Nat) : Int)) (by omega) (by omega), key_pos (by omega) (by omega)]; omega
        · unfold lessR
          rw [rk, (rankR_num (b := a + 1) (by omega) kx).1, if_pos (by omega), if_pos (by omega)]
          exact decide_eq_true (by omega)
      · have hb := of_decide_eq_true hn
        rw [if_pos rfl]
        obtain ⟨x, hx⟩ : ∃ x : Nat, (x : Int) = (a : Int) - 1 := ⟨a - 1, by omega⟩
        have kx : kindR (x : Int) ≠ 0 := kind_of_rung (by omega) (by unfold rung; omega)
        refine ⟨x, hx.symm, by omega, k0, kx, ?_, ?_⟩
        · rw [key_neg (b := (x : Int)) (by omega) (by omega), key_neg (by omega) (by omega)]; omega
        · unfold lessR
          rw [rk, (rankR_num (b := x) (by omega) kx).1, if_neg (by omega), if_neg (by omega)]
          exact decide_eq_true (by omega)
set_option maxHeartbeats 4000000 in
theorem realNext_walk (a0 : Int) (a1 : Int) (w0 : (Lit.int .u64 a0).wf = true) (w1 : (Lit.int .u64 a1).wf = true) (w : World) :
    Calls Try.prog 5 #[.int .u64 a0, .int .u64 a1] w fun e w' => e = .returned (.bool true) ∧ Below w.heap.size w w' := by
  obtain ⟨a, rfl, ha⟩ := word_nat2 w0
  obtain ⟨b, rfl, hb⟩ := word_nat2 w1
  have hB := Below.refl w.heap.size w
  have HN : Hid (∀ W : World, Calls Try.prog 13 #[.float .f64 a] W fun e w' => e = .returned (.tuple #[.float .f64 (nextR a).1.toNat, .int .i64 (nextR a).2]) ∧ Below W.heap.size W w') := fun W => next_any a W ha
  by_cases c : (nextR a).2 = 0
  · obtain ⟨x, e1, hx, k0, kx, hk, hl⟩ := next_facts ha c
    rw [c, e1, Int.toNat_natCast] at HN
    have HL : Hid (∀ W : World, Calls Try.prog 9 #[.float .f64 a, .float .f64 x] W fun e w' => e = .returned (.bool (lessR a x)) ∧ Below W.heap.size W w') := fun W => less_any a x W ha hx
    rw [hl] at HL
    have o1 : (FloatKind.f64.format.order x a == some Ordering.gt) = true := by
      rw [order_key x a hx ha kx k0, if_neg (by omega), if_neg (by omega)]; rfl
    by_cases kb : kindR b = 0
    · have o2 : (FloatKind.f64.format.order b a == some Ordering.gt) = false := by
        rw [order_none b a hb ha (Or.inl kb)]; rfl
      clear c e1 hx k0 kx hk hl kb ha hb w0 w1
      go_enter Try.func5, Try.ntmps5
      go_wp2_with (first | (go_at_call_of 11 [Value.int IntKind.u64 (a : Int)]; refine (of_nat2 a _).mono ?_; rintro e wn ⟨rfl, hz⟩; subst wn) | (go_at_call_of 11 [Value.int IntKind.u64 (b : Int)]; refine (of_nat2 b _).mono ?_; rintro e wn ⟨rfl, hz⟩; subst wn) | (go_at_call_of 13 [Value.float FloatKind.f64 a]; refine (HN.out _).mono ?_; rintro e wn ⟨rfl, hbn⟩; replace hB := hB.trans (hbn.mono hB.size); clear hbn) | (go_at_call_of 9 [Value.float FloatKind.f64 a, Value.float FloatKind.f64 x]; refine (HL.out _).mono ?_; rintro e wn ⟨rfl, hbn⟩; replace hB := hB.trans (hbn.mono hB.size); clear hbn) | (go_at_call 8; refine (lives2_any _).mono ?_; rintro e wn ⟨rfl, hbn⟩; replace hB := hB.trans (hbn.mono hB.size); clear hbn))
      go_ret
      exact ⟨rfl, hB⟩
    · by_cases g : keyR a < keyR b
      · have o2 : (FloatKind.f64.format.order b a == some Ordering.gt) = true := by
          rw [order_key b a hb ha kb k0, if_neg (by omega), if_neg (by omega)]; rfl
        have o3 : (FloatKind.f64.format.order b x == some Ordering.lt) = false := by
          rw [order_key b x hb hx kb kx, if_neg (by omega)]
          split <;> rfl
        clear c e1 hx k0 kx hk hl kb ha hb w0 w1 g
        go_enter Try.func5, Try.ntmps5
        go_wp2_with (first | (go_at_call_of 11 [Value.int IntKind.u64 (a : Int)]; refine (of_nat2 a _).mono ?_; rintro e wn ⟨rfl, hz⟩; subst wn) | (go_at_call_of 11 [Value.int IntKind.u64 (b : Int)]; refine (of_nat2 b _).mono ?_; rintro e wn ⟨rfl, hz⟩; subst wn) | (go_at_call_of 13 [Value.float FloatKind.f64 a]; refine (HN.out _).mono ?_; rintro e wn ⟨rfl, hbn⟩; replace hB := hB.trans (hbn.mono hB.size); clear hbn) | (go_at_call_of 9 [Value.float FloatKind.f64 a, Value.float FloatKind.f64 x]; refine (HL.out _).mono ?_; rintro e wn ⟨rfl, hbn⟩; replace hB := hB.trans (hbn.mono hB.size); clear hbn) | (go_at_call 8; refine (lives2_any _).mono ?_; rintro e wn ⟨rfl, hbn⟩; replace hB := hB.trans (hbn.mono hB.size); clear hbn))
        go_ret
        exact ⟨rfl, hB⟩
      · have o2 : (FloatKind.f64.format.order b a == some Ordering.gt) = false := by
          rw [order_key b a hb ha kb k0]
          split
          · rfl
          · rw [if_pos (by omega)]; rfl
        clear c e1 hx k0 kx hk hl kb ha hb w0 w1 g
        go_enter Try.func5, Try.ntmps5
        go_wp2_with (first | (go_at_call_of 11 [Value.int IntKind.u64 (a : Int)]; refine (of_nat2 a _).mono ?_; rintro e wn ⟨rfl, hz⟩; subst wn) | (go_at_call_of 11 [Value.int IntKind.u64 (b : Int)]; refine (of_nat2 b _).mono ?_; rintro e wn ⟨rfl, hz⟩; subst wn) | (go_at_call_of 13 [Value.float FloatKind.f64 a]; refine (HN.out _).mono ?_; rintro e wn ⟨rfl, hbn⟩; replace hB := hB.trans (hbn.mono hB.size); clear hbn) | (go_at_call_of 9 [Value.float FloatKind.f64 a, Value.float FloatKind.f64 x]; refine (HL.out _).mono ?_; rintro e wn ⟨rfl, hbn⟩; replace hB := hB.trans (hbn.mono hB.size); clear hbn) | (go_at_call 8; refine (lives2_any _).mono ?_; rintro e wn ⟨rfl, hbn⟩; replace hB := hB.trans (hbn.mono hB.size); clear hbn))
        go_ret
        exact ⟨rfl, hB⟩
  · have t : ((nextR a).2 != 0) = true := by simpa using c
    generalize (nextR a).2 = e1 at *
    generalize (nextR a).1.toNat = x at *
    clear c ha hb w0 w1
    go_enter Try.func5, Try.ntmps5
    go_wp2_with (first | (go_at_call_of 11 [Value.int IntKind.u64 (a : Int)]; refine (of_nat2 a _).mono ?_; rintro e wn ⟨rfl, hz⟩; subst wn) | (go_at_call_of 11 [Value.int IntKind.u64 (b : Int)]; refine (of_nat2 b _).mono ?_; rintro e wn ⟨rfl, hz⟩; subst wn) | (go_at_call_of 13 [Value.float FloatKind.f64 a]; refine (HN.out _).mono ?_; rintro e wn ⟨rfl, hbn⟩; replace hB := hB.trans (hbn.mono hB.size); clear hbn) | (go_at_call 8; refine (lives2_any _).mono ?_; rintro e wn ⟨rfl, hbn⟩; replace hB := hB.trans (hbn.mono hB.size); clear hbn))
    go_ret
    exact ⟨rfl, hB⟩
end Go.Proofs.Ytnjnbhfpgoondab
