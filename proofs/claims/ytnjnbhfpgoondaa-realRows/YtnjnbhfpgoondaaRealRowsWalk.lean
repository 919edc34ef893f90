/-
  The walk of RealRows: for every two floats' bits it returns true.
-/
import Derived.Test.YtnjnbhfpgoondaaRealKindsWalk
namespace Go.Proofs.Ytnjnbhfpgoondaa
open Go.RowKit

theorem nextR_nn (b : Nat) : 0 ≤ (nextR b).1 := by
  unfold nextR
  split
  · exact Int.le_refl 0
  · split
    · decide
    · split
      · rename_i h; unfold fNeg at h; have := of_decide_eq_true h; show 0 ≤ (b : Int) - 1; omega
      · show 0 ≤ (b : Int) + 1; omega
theorem bits_at (x : Int) (h : 0 ≤ x) (w : World) :
    Calls Try.prog 17 #[.float .f64 x.toNat] w fun e w' => e = .returned (.int .u64 x) ∧ w' = w := by
  have k := bits_any x.toNat w
  rwa [Int.toNat_of_nonneg h] at k
set_option maxHeartbeats 1000000 in
theorem realRows_walk (a0 : Int) (a1 : Int) (w0 : (Lit.int .u64 a0).wf = true) (w1 : (Lit.int .u64 a1).wf = true) (w : World) :
    Calls Try.prog 6 #[.int .u64 a0, .int .u64 a1] w fun e w' => e = .returned (.bool true) ∧ Below w.heap.size w w' := by
  obtain ⟨a, rfl, ha⟩ := word_nat w0
  obtain ⟨b, rfl, hb⟩ := word_nat w1
  have HN : Hid (∀ W : World, Calls Try.prog 18 #[.float .f64 a] W fun e w' => e = .returned (.tuple #[.float .f64 (nextR a).1.toNat, .int .i64 (nextR a).2]) ∧ Below W.heap.size W w') := fun W => next_any a W ha
  have HR : Hid (∀ W : World, Calls Try.prog 19 #[.int .u64 (a : Int)] W fun e w' => e = .returned (.tuple #[.int .u64 (nextR a).1, .int .i64 (nextR a).2]) ∧ Below W.heap.size W w') := fun W => rnext_any a W ha
  have HL : Hid (∀ W : World, Calls Try.prog 20 #[.float .f64 a, .float .f64 b] W fun e w' => e = .returned (.bool (lessR a b)) ∧ Below W.heap.size W w') := fun W => less_any a b W ha hb
  have HM : Hid (∀ W : World, Calls Try.prog 21 #[.int .u64 (a : Int), .int .u64 (b : Int)] W fun e w' => e = .returned (.bool (lessR a b)) ∧ Below W.heap.size W w') := fun W => rless_any a b W ha hb
  have HB : Hid (∀ W : World, Calls Try.prog 17 #[.float .f64 (nextR a).1.toNat] W fun e w' => e = .returned (.int .u64 (nextR a).1) ∧ w' = W) := fun W => bits_at _ (nextR_nn a) W
  generalize (nextR a).1.toNat = xn at *
  generalize (nextR a).1 = x at *
  generalize (nextR a).2 = f at *
  generalize lessR a b = l at *
  clear w0 w1 ha hb
  go_enter Try.func6, Try.ntmps6
  go_wp2_with fail
  refine (of_nat a _).mono ?_
  rintro e wz ⟨rfl, hz⟩; subst wz
  go_wp2_with fail
  refine (HN.out _).mono ?_
  rintro e w1 ⟨rfl, hb1⟩
  go_wp2_with fail
  refine (HR.out _).mono ?_
  rintro e w2 ⟨rfl, hb2⟩
  have b2 := hb1.trans (hb2.mono hb1.size)
  clear hb1 hb2
  go_wp2_with fail
  refine (of_nat a _).mono ?_
  rintro e wz ⟨rfl, hz⟩; subst wz
  go_wp2_with fail
  refine (of_nat b _).mono ?_
  rintro e wz ⟨rfl, hz⟩; subst wz
  go_wp2_with fail
  refine (HL.out _).mono ?_
  rintro e w3 ⟨rfl, hb3⟩
  have b3 := b2.trans (hb3.mono b2.size)
  clear b2 hb3
  go_wp2_with fail
  refine (HM.out _).mono ?_
  rintro e w4 ⟨rfl, hb4⟩
  have b4 := b3.trans (hb4.mono b3.size)
  clear b3 hb4
  go_wp2_with fail
  refine (HB.out _).mono ?_
  rintro e wz ⟨rfl, hz⟩; subst wz
  go_wp2_with fail
  refine (lives2_any _).mono ?_
  rintro e w5 ⟨rfl, hb5⟩
  go_wp2
  go_ret
  exact ⟨rfl, b4.trans (hb5.mono b4.size)⟩
end Go.Proofs.Ytnjnbhfpgoondaa
