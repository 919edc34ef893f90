/-
  The contracts of maths' functions on two numbers of a list: commonDivisor, what divisor and multiple hand to folded, below.
-/
import Derived.Test.YtfopebfejmlhbabMaL
import Derived.Test.YtfopebfejmlhbabMa4
namespace Go.Proofs.Ytfopebfejmlhbab
open Go.RowKit

theorem gcdI_step {a b : Int} (ha : 0 ≤ a) (hb : 0 < b) : gcdI b (a % b) = gcdI a b := by
  unfold gcdI
  have e : (a % b).toNat = a.toNat % b.toNat := by
    obtain ⟨x, rfl⟩ := Int.eq_ofNat_of_zero_le ha
    obtain ⟨y, rfl⟩ := Int.eq_ofNat_of_zero_le (show 0 ≤ b by omega)
    rfl
  rw [e, Nat.gcd_comm a.toNat, Nat.gcd_rec b.toNat a.toNat, Nat.gcd_comm b.toNat]
theorem gcdI_zero {a : Int} (ha : 0 ≤ a) : gcdI a 0 = a := by
  unfold gcdI; rw [Int.toNat_zero, Nat.gcd_zero_right]; omega

set_option maxHeartbeats 1000000 in
theorem common_any (a0 b0 : Int) (w : World) (ha : 0 ≤ a0) (ha2 : a0 ≤ 1000000000000000000) (hb : 0 ≤ b0) (hb2 : b0 ≤ 1000000000000000000) :
    Calls Try.prog 41 #[.int .i64 a0, .int .i64 b0] w fun e w' => e = .returned (.int .i64 (gcdI a0 b0)) ∧ Below w.heap.size w w' := by
  go_enter Try.func41, Try.ntmps41
  go_wp2
  go_loopw [0, 1] (fun x y wr => ∃ a b : Int, x = .int .i64 a ∧ y = .int .i64 b ∧ 0 ≤ a ∧ a ≤ 1000000000000000000 ∧ 0 ≤ b ∧ b ≤ 1000000000000000000 ∧ gcdI a b = gcdI a0 b0 ∧ Below w.heap.size w wr) (fun _ y _ => (intOf y).toNat)
  case atStart => exact ⟨a0, b0, rfl, rfl, ha, ha2, hb, hb2, rfl, Below.refl _ _⟩
  case round =>
    obtain ⟨a, b, rfl, rfl, a1, a2, b1, b2, hg, hw⟩ := hrel
    have HG := hide hg
    have HB := hide hw
    clear hg hw ha ha2 hb hb2
    by_cases c : b = 0
    · subst c
      have HE : Hid (a = gcdI a0 b0) := by show _ = _; rw [← HG.out, gcdI_zero a1]
      go_wp2
      go_ret
      exact ⟨by rw [HE.out]; rfl, HB.out⟩
    · have c1 : (b == 0) = false := by rw [beq_eq_false_iff_ne]; exact c
      have c2 : (b != 0) = true := by rw [bne, c1]; rfl
      have hm1 := Int.emod_nonneg a c
      have hm2 := Int.emod_lt_of_pos a (show 0 < b by omega)
      have ht : a.tmod b = a % b := Int.tmod_eq_emod_of_nonneg a1
      have hw : IntKind.i64.wrap (a % b) = a % b := wrapI (by omega) (by omega)
      have hw2 : IntKind.i64.wrap (a.tmod b) = a % b := by rw [ht]; exact hw
      have HS : Hid (gcdI b (a % b) = gcdI a0 b0) := (gcdI_step a1 (by omega)).trans HG.out
      clear HG
      go_wp2_with fail
      go_quiet (fail)
      go_wp2
      go_roundw
      case rel => exact ⟨b, a % b, rfl, rfl, b1, b2, hm1, by omega, HS.out, below_drewN HB.out _⟩
      case measure => simp [intOf]; omega

set_option maxHeartbeats 1000000 in
theorem below_any (n : Int) (w : World) :
    Calls Try.prog 38 #[.int .i64 n] w fun e w' => e = .returned (.bool (decide (n < 0))) ∧ w' = w := by
  go_enter Try.func38, Try.ntmps38
  go_wp2
  go_ret
  exact ⟨rfl, rfl⟩
set_option maxHeartbeats 1000000 in
theorem less1_any (n : Int) (w : World) :
    Calls Try.prog 43 #[.int .i64 n] w fun e w' => e = .returned (.bool (decide (n < 1000000))) ∧ w' = w := by
  go_enter Try.func43, Try.ntmps43
  go_wp2
  go_ret
  exact ⟨rfl, rfl⟩

theorem inR_nn {n : Int} (h : 0 ≤ n) (h2 : n ≤ 1000000000000000000) : 0 ≤ inR n 1000000 ∧ inR n 1000000 ≤ 1000000000000000000 := by
  rw [whole_is h]; unfold whN; omega
theorem gcdI_bd {a b : Int} (ha : 0 ≤ a) (ha2 : a ≤ 1000000000000000000) (hb : 0 ≤ b) (hb2 : b ≤ 1000000000000000000) : 0 ≤ gcdI a b ∧ gcdI a b ≤ 1000000000000000000 := by
  unfold gcdI
  by_cases c : a.toNat = 0
  · rw [c, Nat.gcd_zero_left]; omega
  · have := Nat.gcd_le_left b.toNat (show 0 < a.toNat by omega)
    omega

set_option maxHeartbeats 1000000 in
theorem divF_any (s n : Int) (w : World) (h0 : 0 ≤ s) (h1 : s ≤ 1000000000000000000) (n0 : 0 ≤ n) (n1 : n ≤ 1000000000000000000) :
    Calls Try.prog 40 #[.int .i64 s, .int .i64 n] w fun e w' => e = .returned (.tuple #[.int .i64 (divF s n).1, .int .i64 (divF s n).2]) ∧ Below w.heap.size w w' := by
  have HW := hide (fun W : World => wholePart_any n W (by omega) n1)
  obtain ⟨i0, i1⟩ := inR_nn n0 n1
  have HC := hide (fun W : World => common_any s (inR n 1000000) W h0 h1 i0 i1)
  show Calls _ _ _ _ (fun e w' => e = .returned (.tuple #[.int .i64 (gcdI s (inR n 1000000)), .int .i64 0]) ∧ Below w.heap.size w w')
  generalize inR n 1000000 = k at *
  generalize gcdI s k = g at *
  go_enter Try.func40, Try.ntmps40
  go_wp2_with (first | (go_at_call 42; refine (HW.out _).mono ?_; rintro e w1 ⟨rfl, rfl⟩) | (go_at_call 41; refine (HC.out _).mono ?_; rintro e w2 ⟨rfl, hb2⟩))
  go_ret2
  exact ⟨rfl, hb2⟩

set_option maxHeartbeats 1000000 in
theorem mulF_any (s n : Int) (w : World) (h0 : 0 < s) (h1 : s ≤ 1000000000000000000) (hs : s / gcdI s (inR n 1000000) * 1000000 ≤ 1000000000000000000) (n0 : 0 ≤ n) (n1 : n ≤ 1000000000000000000) :
    Calls Try.prog 44 #[.int .i64 s, .int .i64 n] w fun e w' => e = .returned (.tuple #[.int .i64 (mulF s n).1, .int .i64 (mulF s n).2]) ∧ Below w.heap.size w w' := by
  have HW := hide (fun W : World => wholePart_any n W (by omega) n1)
  obtain ⟨i0, i1⟩ := inR_nn n0 n1
  have HC := hide (fun W : World => common_any s (inR n 1000000) W (by omega) h1 i0 i1)
  have g0 : 0 < gcdI s (inR n 1000000) := by
    unfold gcdI
    have := Nat.gcd_pos_of_pos_left (inR n 1000000).toNat (show 0 < s.toNat by omega)
    omega
  have HM := hide (fun W : World => mul_full (s / gcdI s (inR n 1000000) * 1000000) (inR n 1000000) W)
  have hm : mulF s n = mulR (s / gcdI s (inR n 1000000) * 1000000) (inR n 1000000) := rfl
  rw [hm]
  clear hm
  generalize mulR (s / gcdI s (inR n 1000000) * 1000000) (inR n 1000000) = x at *
  obtain ⟨x1, x2⟩ := x
  generalize inR n 1000000 = k at *
  generalize gcdI s k = g at *
  have q0 : 0 ≤ s / g := Int.ediv_nonneg (by omega) (by omega)
  have ht : s.tdiv g = s / g := Int.tdiv_eq_ediv_of_nonneg (by omega)
  generalize hq : s / g = q at *
  have w1 : IntKind.i64.wrap q = q := wrapI (by omega) (by omega)
  have w2 : IntKind.i64.wrap (q * 1000000) = q * 1000000 := wrapI (by omega) (by omega)
  have gz : (g == 0) = false := by rw [beq_eq_false_iff_ne]; omega
  have gz' : ¬ g = 0 := by omega
  go_enter Try.func44, Try.ntmps44
  go_wp2_with (first | (go_at_call 42; refine (HW.out _).mono ?_; rintro e w1 ⟨rfl, rfl⟩) | (go_at_call 41; refine (HC.out _).mono ?_; rintro e w2 ⟨rfl, hb2⟩; have HB2 := hide hb2; clear hb2) | (go_at_call 45; refine (HM.out _).mono ?_; rintro e w3 ⟨rfl, hb3⟩))
  go_ret2
  exact ⟨rfl, up HB2.out hb3⟩
end Go.Proofs.Ytfopebfejmlhbab
