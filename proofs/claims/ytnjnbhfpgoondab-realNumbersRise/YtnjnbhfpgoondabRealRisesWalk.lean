/-
  The walk of RealRises: for every two floats' bits it returns true.
-/
import Derived.Test.YtnjnbhfpgoondabRealLaws
import Derived.Test.YtnjnbhfpgoondabRealLives
namespace Go.Proofs.Ytnjnbhfpgoondab
open Go.RowKit

theorem word_nat2 {a : Int} (h : (Lit.int .u64 a).wf = true) : ∃ n : Nat, a = n ∧ n < 18446744073709551616 := by
  have : 0 ≤ a ∧ a < 18446744073709551616 := by
    simp [Lit.wf] at h
    have e1 : IntKind.u64.min = 0 := rfl
    have e2 : IntKind.u64.max = 18446744073709551615 := rfl
    omega
  obtain ⟨n, rfl⟩ := Int.eq_ofNat_of_zero_le (a := a) (by omega)
  exact ⟨n, rfl, by omega⟩
theorem of_nat2 (n : Nat) (w : World) :
    Calls Try.prog 11 #[.int .u64 (n : Int)] w fun e w' => e = .returned (.float .f64 n) ∧ w' = w := by
  have h := of_any (n : Int) w
  rwa [Int.toNat_natCast] at h
theorem of_ok {b : Int} (h : (ofR b).2 = 0) : 2 ≤ kindR b ∧ millsR b ≤ 1000000000000000000 ∧ (ofR b).1 = put (fNeg b) (millsR b) := by
  rw [of_mills] at h ⊢
  split at h
  · cases h
  · split at h
    · cases h
    · rename_i c1 c2
      rw [if_neg c1, if_neg c2]
      exact ⟨by omega, by omega, rfl⟩
theorem of_rises {a b : Nat} (ha : a < 18446744073709551616) (hb : b < 18446744073709551616) (h : lessR a b = true) (e : (ofR a).2 = 0) (f : (ofR b).2 = 0) : (ofR a).1 ≤ (ofR b).1 := by
  obtain ⟨ka, _, ea⟩ := of_ok e
  obtain ⟨kb, _, eb⟩ := of_ok f
  have hr := of_decide_eq_true h
  rw [ea, eb]
  have na := mills_nn a
  have nb := mills_nn b
  unfold rankR at hr
  rw [if_neg (show ¬ kindR (a : Int) = 0 by omega), if_neg (show ¬ kindR (b : Int) = 0 by omega)] at hr
  unfold put
  cases sa : fNeg a <;> cases sb : fNeg b
  · rw [sa, sb] at hr
    have ta := of_decide_eq_false sa
    have tb := of_decide_eq_false sb
    have m := mills_mono (a := a) (b := b) (by unfold rung; simp at hr; omega)
    simpa using m
  · rw [sa, sb] at hr
    have ta := of_decide_eq_false sa
    have tb := of_decide_eq_true sb
    exfalso
    simp at hr; omega
  · simp; omega
  · rw [sa, sb] at hr
    have ta := of_decide_eq_true sa
    have tb := of_decide_eq_true sb
    have m := mills_mono (a := b) (b := a) (by unfold rung; simp at hr; omega)
    simp; omega
end Go.Proofs.Ytnjnbhfpgoondab
