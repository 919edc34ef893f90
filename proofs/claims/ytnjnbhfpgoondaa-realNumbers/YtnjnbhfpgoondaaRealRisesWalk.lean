/-
  The walk of RealRises: for every two floats' bits it returns true.
-/
import Derived.Test.YtnjnbhfpgoondaaRealLaws
import Derived.Test.YtnjnbhfpgoondaaRealLives
namespace Go.Proofs.Ytnjnbhfpgoondaa
open Go.RowKit

theorem word_nat2 {a : Int} (h : (Lit.int .u64 a).wf = true) : ∃ n : Nat, a = n ∧ n < 18446744073709551616 := by
  have : 0 ≤ a ∧ a < 18446744073709551616 := by
    simp [Lit.wf] at h
    have e1 : IntKind.u64.min = 0 := rfl
    have e2 : IntKind.u64.max = 18446744073709551615 := rfl
    omega
  obtain ⟨n, rfl⟩ := Int.eq_ofNat_of_zero_le (a := a) (by omega)
  exact ⟨n, rfl, by omega⟩
theorem of_nat2 (n : Nat) (w : World) :
    Calls Try.prog 10 #[.int .u64 (n : Int)] w fun e w' => e = .returned (.float .f64 n) ∧ w' = w := by
  have h := of_any (n : Int) w
  rwa [Int.toNat_natCast] at h
theorem of_ok {b : Int} (h : (ofR b).2 = 0) : 2 ≤ kindR b ∧ millsR b ≤ 1000000000000000000 ∧ (ofR b).1 = put (fNeg b) (millsR b) := by
  rw [of_mills] at h ⊢
  split at h
  · cases h
  · split at h
    · cases h
    · rename_i c1 c2
      rw [if_neg c1, if_neg c2]
      exact ⟨by omega, by omega, rfl⟩
theorem of_rises {a b : Nat} (ha : a < 18446744073709551616) (hb : b < 18446744073709551616) (h : lessR a b = true) (e : (ofR a).2 = 0) (f : (ofR b).2 = 0) : (ofR a).1 ≤ (ofR b).1 := by
  obtain ⟨ka, _, ea⟩ := of_ok e
  obtain ⟨kb, _, eb⟩ := of_ok f
  have hr := of_decide_eq_true h
  rw [ea, eb]
  have na := mills_nn a
  have nb := mills_nn b
  unfold rankR at hr
  rw [if_neg (show ¬ kindR (a : Int) = 0 by omega), if_neg (show ¬ kindR (b : Int) = 0 by omega)] at hr
  unfold put
  cases sa : fNeg a <;> cases sb : fNeg b
  · rw [sa, sb] at hr
    have ta := of_decide_eq_false sa
    have tb := of_decide_eq_false sb
    have m := mills_mono (a := a) (b := b) (by unfold rung; simp at hr; omega)
    simpa using m
  · rw [sa, sb] at hr
    have ta := of_decide_eq_false sa
    have tb := of_decide_eq_true sb
    exfalso
    simp at hr; omega
  · simp; omega
  · rw [sa, sb] at hr
    have ta := of_decide_eq_true sa
    have tb := of_decide_eq_true sb
    have m := mills_mono (a := b) (b := a) (by unfold rung; simp at hr; omega)
    simp; omega
set_option maxHeartbeats 1000000 in
theorem realRises_walk (a0 : Int) (a1 : Int) (w0 : (Lit.int .u64 a0).wf = true) (w1 : (Lit.int .u64 a1).wf = true) (w : World) :
    Calls Try.prog 8 #[.int .u64 a0, .int .u64 a1] w fun e w' => e = .returned (.bool true) ∧ Below w.heap.size w w' := by
  obtain ⟨a, rfl, ha⟩ := word_nat2 w0
  obtain ⟨b, rfl, hb⟩ := word_nat2 w1
  have HA : Hid (∀ W : World, Calls Try.prog 13 #[.float .f64 a] W fun e w' => e = .returned (.tuple #[.int .i64 (ofR a).1, .int .i64 (ofR a).2]) ∧ Below W.heap.size W w') := fun W => ofF_any a W ha
  have HB : Hid (∀ W : World, Calls Try.prog 13 #[.float .f64 b] W fun e w' => e = .returned (.tuple #[.int .i64 (ofR b).1, .int .i64 (ofR b).2]) ∧ Below W.heap.size W w') := fun W => ofF_any b W hb
  have HL : Hid (∀ W : World, Calls Try.prog 20 #[.float .f64 a, .float .f64 b] W fun e w' => e = .returned (.bool (lessR a b)) ∧ Below W.heap.size W w') := fun W => less_any a b W ha hb
  have hr := of_rises ha hb
  generalize (ofR a).1 = x at *
  generalize (ofR a).2 = e1 at *
  generalize (ofR b).1 = y at *
  generalize (ofR b).2 = f1 at *
  generalize lessR a b = l at *
  clear w0 w1 ha hb
  by_cases c1 : e1 = 0
  · subst c1
    by_cases c2 : f1 = 0
    · subst c2
      cases l
      · clear hr
        go_enter Try.func8, Try.ntmps8
        go_wp2_with fail
        refine (of_nat2 a _).mono ?_
        rintro e wz ⟨rfl, hz⟩; subst wz
        go_wp2_with fail
        refine (HA.out _).mono ?_
        rintro e w1 ⟨rfl, hb1⟩
        go_wp2_with fail
        refine (of_nat2 b _).mono ?_
        rintro e wz ⟨rfl, hz⟩; subst wz
        go_wp2_with fail
        refine (HB.out _).mono ?_
        rintro e w2 ⟨rfl, hb2⟩
        have b2 := hb1.trans (hb2.mono hb1.size)
        clear hb1 hb2
        go_wp2_with fail
        refine (of_nat2 a _).mono ?_
        rintro e wz ⟨rfl, hz⟩; subst wz
        go_wp2_with fail
        refine (of_nat2 b _).mono ?_
        rintro e wz ⟨rfl, hz⟩; subst wz
        go_wp2_with fail
        refine (HL.out _).mono ?_
        rintro e w3 ⟨rfl, hb3⟩
        have b3 := b2.trans (hb3.mono b2.size)
        clear b2 hb3
        go_wp2_with fail
        refine (lives2_any _).mono ?_
        rintro e w4 ⟨rfl, hb4⟩
        go_wp2
        go_ret
        exact ⟨rfl, b3.trans (hb4.mono b3.size)⟩
      · have hxy := hr rfl rfl rfl
        clear hr
        go_enter Try.func8, Try.ntmps8
        go_wp2_with fail
        refine (of_nat2 a _).mono ?_
        rintro e wz ⟨rfl, hz⟩; subst wz
        go_wp2_with fail
        refine (HA.out _).mono ?_
        rintro e w1 ⟨rfl, hb1⟩
        go_wp2_with fail
        refine (of_nat2 b _).mono ?_
        rintro e wz ⟨rfl, hz⟩; subst wz
        go_wp2_with fail
        refine (HB.out _).mono ?_
        rintro e w2 ⟨rfl, hb2⟩
        have b2 := hb1.trans (hb2.mono hb1.size)
        clear hb1 hb2
        go_wp2_with fail
        refine (of_nat2 a _).mono ?_
        rintro e wz ⟨rfl, hz⟩; subst wz
        go_wp2_with fail
        refine (of_nat2 b _).mono ?_
        rintro e wz ⟨rfl, hz⟩; subst wz
        go_wp2_with fail
        refine (HL.out _).mono ?_
        rintro e w3 ⟨rfl, hb3⟩
        have b3 := b2.trans (hb3.mono b2.size)
        clear b2 hb3
        go_wp2_with fail
        refine (lives2_any _).mono ?_
        rintro e w4 ⟨rfl, hb4⟩
        go_wp2
        go_ret
        exact ⟨rfl, b3.trans (hb4.mono b3.size)⟩
    · have t2 : (f1 != 0) = true := by simpa using c2
      clear hr
      go_enter Try.func8, Try.ntmps8
      go_wp2_with fail
      refine (of_nat2 a _).mono ?_
      rintro e wz ⟨rfl, hz⟩; subst wz
      go_wp2_with fail
      refine (HA.out _).mono ?_
      rintro e w1 ⟨rfl, hb1⟩
      go_wp2_with fail
      refine (of_nat2 b _).mono ?_
      rintro e wz ⟨rfl, hz⟩; subst wz
      go_wp2_with fail
      refine (HB.out _).mono ?_
      rintro e w2 ⟨rfl, hb2⟩
      have b2 := hb1.trans (hb2.mono hb1.size)
      clear hb1 hb2
      go_wp2_with fail
      refine (lives2_any _).mono ?_
      rintro e w4 ⟨rfl, hb4⟩
      go_wp2
      go_ret
      exact ⟨rfl, b2.trans (hb4.mono b2.size)⟩
  · have t1 : (e1 != 0) = true := by simpa using c1
    clear hr
    go_enter Try.func8, Try.ntmps8
    go_wp2_with fail
    refine (of_nat2 a _).mono ?_
    rintro e wz ⟨rfl, hz⟩; subst wz
    go_wp2_with fail
    refine (HA.out _).mono ?_
    rintro e w1 ⟨rfl, hb1⟩
    go_wp2_with fail
    refine (of_nat2 b _).mono ?_
    rintro e wz ⟨rfl, hz⟩; subst wz
    go_wp2_with fail
    refine (HB.out _).mono ?_
    rintro e w2 ⟨rfl, hb2⟩
    have b2 := hb1.trans (hb2.mono hb1.size)
    clear hb1 hb2
    go_wp2_with fail
    refine (lives2_any _).mono ?_
    rintro e w4 ⟨rfl, hb4⟩
    go_wp2
    go_ret
    exact ⟨rfl, b2.trans (hb4.mono b2.size)⟩
end Go.Proofs.Ytnjnbhfpgoondaa
