/-
  The walk of RealKinds: for every float's bits it returns true.
-/
import Derived.Test.YtnjnbhfpgoondaaRefReal
import Derived.Test.YtnjnbhfpgoondaaRealLives
namespace Go.Proofs.Ytnjnbhfpgoondaa
open Go.RowKit

theorem word_nat {a : Int} (h : (Lit.int .u64 a).wf = true) : ∃ n : Nat, a = n ∧ n < 18446744073709551616 := by
  have : 0 ≤ a ∧ a < 18446744073709551616 := by
    simp [Lit.wf] at h
    have e1 : IntKind.u64.min = 0 := rfl
    have e2 : IntKind.u64.max = 18446744073709551615 := rfl
    omega
  obtain ⟨n, rfl⟩ := Int.eq_ofNat_of_zero_le (a := a) (by omega)
  exact ⟨n, rfl, by omega⟩
theorem of_nat (n : Nat) (w : World) :
    Calls Try.prog 10 #[.int .u64 (n : Int)] w fun e w' => e = .returned (.float .f64 n) ∧ w' = w := by
  have h := of_any (n : Int) w
  rwa [Int.toNat_natCast] at h
set_option maxHeartbeats 1000000 in
theorem realKinds_walk (a0 : Int) (w0 : (Lit.int .u64 a0).wf = true) (w : World) :
    Calls Try.prog 3 #[.int .u64 a0] w fun e w' => e = .returned (.bool true) ∧ Below w.heap.size w w' := by
  obtain ⟨b, rfl, h⟩ := word_nat w0
  have HK : Hid (∀ W : World, Calls Try.prog 9 #[.float .f64 b] W fun e w' => e = .returned (.int .i64 (kindR b)) ∧ Below W.heap.size W w') := fun W => kind_any b W h
  have HR : Hid (∀ W : World, Calls Try.prog 11 #[.int .u64 (b : Int)] W fun e w' => e = .returned (.int .i64 (kindR b)) ∧ Below W.heap.size W w') := fun W => rkind_any b W h
  generalize kindR b = k at *
  clear w0 h
  go_enter Try.func3, Try.ntmps3
  go_wp2_with fail
  refine (of_nat b _).mono ?_
  rintro e wz ⟨rfl, hz⟩; subst wz
  go_wp2_with fail
  refine (HK.out _).mono ?_
  rintro e w1 ⟨rfl, hb1⟩
  go_wp2_with fail
  refine (HR.out _).mono ?_
  rintro e w2 ⟨rfl, hb2⟩
  have b2 := hb1.trans (hb2.mono hb1.size)
  clear hb1 hb2
  go_wp2_with fail
  refine (lives2_any _).mono ?_
  rintro e w3 ⟨rfl, hb3⟩
  go_wp2
  go_ret
  exact ⟨rfl, b2.trans (hb3.mono b2.size)⟩
end Go.Proofs.Ytnjnbhfpgoondaa
