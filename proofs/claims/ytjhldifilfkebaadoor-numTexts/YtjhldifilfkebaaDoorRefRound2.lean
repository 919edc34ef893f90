/-
  The contract of the answer's Round, and the walk of the law NumRounds.
-/
import Derived.Test.YtjhldifilfkebaaDoorRefRound
import Derived.Deep.QuietTactic
import Derived.BigQuiet
namespace Go.Proofs.YtjhldifilfkebaaDoor
open Go.RowKit

theorem even_half {n d : Int} : evenR (n / d) (n % d) d = halfEven n d := rfl

theorem told_put {q : Int} (neg : Bool) (h0 : 0 ≤ q) : told (put neg q) = if 1000000000000000000 < q then (0, 3) else (put neg q, 0) := by
  unfold told put
  by_cases h : 1000000000000000000 < q
  · rw [if_pos h, if_neg]
    cases neg
    · rw [fitsB_not (by simp; omega)]; decide
    · rw [fitsB_not (by simp; omega)]; decide
  · rw [if_neg h, if_pos]
    cases neg
    · exact fitsB_of (by simp; omega) (by simp; omega)
    · exact fitsB_of (by simp; omega) (by simp; omega)

set_option maxHeartbeats 2000000 in
theorem rround_good (n p : Int) (w : World) (hf : fitsB n = true) (c1 : ¬ p < -12) (c2 : ¬ 6 < p) :
    Calls Tryd.prog 23 #[.int .i64 n, .int .i64 p] w fun e w' => e = .returned (.tuple #[.int .i64 (roundR n p).1, .int .i64 (roundR n p).2]) ∧ Below w.heap.size w w' := by
  have hpl : plB p = true := by unfold plB; simp; omega
  obtain ⟨n1, n2⟩ := fitsB_true hf
  have x0 := absI_nn n
  have x1 := absI_le n1 n2
  have d0 := p10_pos (6 - p).toNat
  have d1 := p10_le (k := (6 - p).toNat) (by omega)
  obtain ⟨m0, m1⟩ := halfEven_mul x0 d0
  have HE : Hid (roundR n p = if 1000000000000000000 < halfEven (absI n) (p10 (6 - p).toNat) * p10 (6 - p).toNat then (0, 3) else (put (decide (n < 0)) (halfEven (absI n) (p10 (6 - p).toNat) * p10 (6 - p).toNat), 0)) := by
    show roundR n p = _
    rw [← told_put _ m0]; simp [roundR, hf, hpl]
  rw [Int.mul_comm] at HE m0 m1
  clear hpl
  go_enter Tryd.func23, Tryd.ntmps23
  go_wp2_with (go_at_call 14; refine (rfits_any _ _).mono ?_; rintro e w' ⟨rfl, rfl⟩)
  go_loop [6, 7] (fun t i => ∃ k : Nat, (k : Int) ≤ 6 - p ∧ i = .int .i64 (p + k) ∧ t = .int .i64 (p10 k)) (fun _ i => (6 - intOf i).toNat)
  case atStart => exact ⟨0, by omega, by simp, by rw [p10_zero]⟩
  case round =>
    obtain ⟨k, hk, rfl, rfl⟩ := hrel
    have h1 := p10_pos k
    by_cases hlt : p + k < 6
    · have HS := hide (p10_succ k)
      have h2 : p10 k ≤ 100000000000000000 := by
        have a := p10_le (k := k + 1) (by omega)
        rw [p10_succ] at a
        omega
      clear HE m0 m1
      go_wp2
      go_round
      case rel => exact ⟨k + 1, by omega, by go_num, by rw [HS.out, Int.mul_comm]⟩
      case measure => simp [intOf]; omega
    · have ek : (6 - p).toNat = k := by omega
      rw [ek] at HE m0 m1 d0 d1
      clear ek
      generalize p10 k = d at *
      have dz : (d == 0) = false := beq_eq_false_iff_ne.2 (by omega)
      have q0 : 0 ≤ absI n / d := Int.ediv_nonneg x0 (by omega)
      have q1 : absI n / d ≤ absI n := Int.ediv_le_self _ x0
      have r0 : 0 ≤ absI n % d := Int.emod_nonneg _ (by omega)
      have r1 : absI n % d < d := Int.emod_lt_of_pos _ d0
      have HV : Hid (∀ W : World, Calls Tryd.prog 38 #[.int .i64 (absI n / d), .int .i64 (absI n % d), .int .i64 d] W fun e w' => e = .returned (.int .i64 (halfEven (absI n) d)) ∧ w' = W) := fun W => even_any _ _ _ W q0 (by omega) r0 r1 d1
      have m2 : d * halfEven (absI n) d ≤ 4000000000000000000 := by omega
      have HZ := hide (fun W : World => rsize_any n W n1 n2)
      generalize halfEven (absI n) d = E at *
      clear m1
      go_wp2_with fail
      go_quiet (first | (go_at_call 37; exact Calls.quiet_of_same (HZ.out _)) | (go_at_call 38; exact Calls.quiet_of_same (HV.out _)))
      by_cases hbig : 1000000000000000000 < d * E
      · rw [if_pos hbig] at HE
        go_wp2
        go_ret2
        exact ⟨by rw [HE.out]; rfl, below_drewN (Below.refl _ _) _⟩
      · rw [if_neg hbig] at HE
        by_cases hn : n < 0
        · have HP : Hid (put (decide (n < 0)) (d * E) = -(d * E)) := by show put _ _ = _; simp [put, hn]
          go_wp2
          go_ret2
          exact ⟨by rw [HE.out, HP.out]; rfl, below_drewN (Below.refl _ _) _⟩
        · have HP : Hid (put (decide (n < 0)) (d * E) = d * E) := by show put _ _ = _; simp [put, hn]
          go_wp2
          go_ret2
          exact ⟨by rw [HE.out, HP.out]; rfl, below_drewN (Below.refl _ _) _⟩
end Go.Proofs.YtjhldifilfkebaaDoor
