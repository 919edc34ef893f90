/-
  The contracts of the answer's Div and Mod.
-/
import Derived.Test.YtjhldifilfkebaaDoorRefRound2
namespace Go.Proofs.YtjhldifilfkebaaDoor
open Go.RowKit

theorem quoR_eq {N d : Int} (neg : Bool) (hN : 0 ≤ N) (hd : 0 < d) : quoR N d neg = if 1000000000000000000 < halfEven N d then (0, 3) else (put neg (halfEven N d), 0) := by
  have h0 := halfEven_nn hN hd
  unfold quoR nearN
  by_cases h : 1000000000000000000 < N / d
  · have : N / d ≤ halfEven N d := by unfold halfEven; split <;> omega
    rw [if_pos h, if_neg (by decide), if_pos (by omega)]
  · rw [if_neg h, if_pos rfl]; exact told_put neg h0

theorem step_quo {A B q r : Int} (hB : 0 < B) (h1 : A / B = q) (h2 : A % B = r) : A * 10 / B = 10 * q + 10 * r / B ∧ A * 10 % B = 10 * r % B := by
  have e := Int.mul_ediv_add_emod A B
  rw [h1, h2] at e
  have e2 : A * 10 = 10 * r + 10 * q * B := by rw [← e, Int.mul_assoc, Int.mul_comm q B]; omega
  constructor
  · rw [e2, Int.add_mul_ediv_right _ _ (Int.ne_of_gt hB)]; omega
  · rw [e2, Int.add_mul_emod_self_right]

theorem quo_lt {A B p : Int} (hB : 0 < B) (hp : 0 < p) (h : A / B ≤ 1000000000000) : A * p / B < 1000000000001 * p := by
  refine Int.ediv_lt_of_lt_mul hB ?_
  have h1 : A < 1000000000001 * B := by
    have := Int.lt_ediv_add_one_mul_self A hB
    have h3 : (A / B + 1) * B ≤ 1000000000001 * B := Int.mul_le_mul_of_nonneg_right (by omega) (by omega)
    omega
  have h2 : A * p < 1000000000001 * B * p := Int.mul_lt_mul_of_pos_right h1 hp
  rw [Int.mul_right_comm] at h2; exact h2

set_option maxHeartbeats 2000000 in
theorem rdiv_good (a b : Int) (w : World) (ha : fitsB a = true) (hb : fitsB b = true) (hz : b ≠ 0) :
    Calls Tryd.prog 19 #[.int .i64 a, .int .i64 b] w fun e w' => e = .returned (.tuple #[.int .i64 (divR a b).1, .int .i64 (divR a b).2]) ∧ Below w.heap.size w w' := by
  obtain ⟨a1, a2⟩ := fitsB_true ha
  obtain ⟨b1, b2⟩ := fitsB_true hb
  have x0 := absI_nn a
  have x1 := absI_le a1 a2
  have y0 : 0 < absI b := by unfold absI; split <;> omega
  have y1 := absI_le b1 b2
  have HE : Hid (divR a b = if 1000000000000000000 < halfEven (absI a * 1000000) (absI b) then (0, 3) else (put (decide (a < 0) != decide (b < 0)) (halfEven (absI a * 1000000) (absI b)), 0)) := by
    show divR a b = _
    rw [← quoR_eq _ (by omega) y0]; simp [divR, divisR, ha, hb, hz]
  have HZa := hide (fun W : World => rsize_any a W a1 a2)
  have HZb := hide (fun W : World => rsize_any b W b1 b2)
  have tz : (b == 0) = false := beq_eq_false_iff_ne.2 hz
  generalize absI a = A at *
  generalize absI b = B at *
  have bz : (B == 0) = false := beq_eq_false_iff_ne.2 (by omega)
  have q0 : 0 ≤ A / B := Int.ediv_nonneg x0 (by omega)
  have q1 : A / B ≤ A := Int.ediv_le_self _ x0
  have r0 : 0 ≤ A % B := Int.emod_nonneg _ (by omega)
  have r1 : A % B < B := Int.emod_lt_of_pos _ y0
  clear hz
  go_enter Tryd.func19, Tryd.ntmps19
  go_wp2_with (go_at_call 14; refine (rfits_any _ _).mono ?_; rintro e w' ⟨rfl, rfl⟩)
  go_quiet (first | (go_at_call_of 37 a; exact Calls.quiet_of_same (HZa.out _)) | (go_at_call_of 37 b; exact Calls.quiet_of_same (HZb.out _)))
  by_cases hbig : 1000000000000 < A / B
  · have hh : 1000000000000000000 < halfEven (A * 1000000) B := by
      have h1 : 1000000000001 * 1000000 ≤ A * 1000000 / B := by
        rw [Int.le_ediv_iff_mul_le y0]
        have h2 : 1000000000001 * B ≤ A := by
          rw [← Int.le_ediv_iff_mul_le y0]; omega
        omega
      unfold halfEven; split <;> omega
    rw [if_pos hh] at HE
    clear hh
    go_wp2
    go_ret2
    exact ⟨by rw [HE.out]; rfl, below_drewN (Below.refl _ _) _⟩
  · have hq : A / B ≤ 1000000000000 := by omega
    go_wp2_with (go_at_call 37; refine (HZb.out _).mono ?_; rintro e w' ⟨rfl, rfl⟩)
    go_loop [6, 7, 9] (fun t l i => ∃ k : Nat, k ≤ 6 ∧ i = .int .i64 k ∧ t = .int .i64 (A * p10 k / B) ∧ l = .int .u64 (A * p10 k % B)) (fun _ _ i => 6 - (intOf i).toNat)
    case atStart => exact ⟨0, by omega, rfl, by rw [p10_zero, Int.mul_one], by rw [p10_zero, Int.mul_one]⟩
    case round =>
      obtain ⟨k, hk, rfl, rfl, rfl⟩ := hrel
      have s0 : 0 ≤ A * p10 k / B := Int.ediv_nonneg (Int.mul_nonneg x0 (Int.le_of_lt (p10_pos k))) (by omega)
      have s1 : 0 ≤ A * p10 k % B := Int.emod_nonneg _ (by omega)
      have s2 : A * p10 k % B < B := Int.emod_lt_of_pos _ y0
      by_cases hlt : k < 6
      · obtain ⟨e1, e2⟩ := step_quo (A := A * p10 k) y0 rfl rfl
        rw [Int.mul_assoc, ← p10_succ] at e1 e2
        have s3 : A * p10 (k + 1) / B < 1000000000001 * p10 (k + 1) := quo_lt y0 (p10_pos _) hq
        have s4 : p10 (k + 1) ≤ 1000000 := by
          have h6 : k + 1 = 1 ∨ k + 1 = 2 ∨ k + 1 = 3 ∨ k + 1 = 4 ∨ k + 1 = 5 ∨ k + 1 = 6 := by omega
          rcases h6 with h | h | h | h | h | h <;> rw [h] <;> decide
        have E1 := hide e1
        have E2 := hide e2
        have s5 : A * p10 (k + 1) / B < 2000000000000000000 := by omega
        have s6 : 0 ≤ 10 * (A * p10 k % B) / B := Int.ediv_nonneg (by omega) (by omega)
        have s7 : 10 * (A * p10 k / B) + 10 * (A * p10 k % B) / B < 2000000000000000000 := by rw [← e1]; exact s5
        have s8 : 0 ≤ 10 * (A * p10 k % B) % B := Int.emod_nonneg _ (by omega)
        clear e1 e2 s3 s4 s5 HE
        generalize A * p10 k / B = q at *
        generalize A * p10 k % B = r at *
        go_wp2
        go_round
        case rel => exact ⟨k + 1, by omega, by go_num, by rw [E1.out], by rw [E2.out]⟩
        case measure => simp [intOf]; omega
      · have : k = 6 := by omega
        subst this
        have e6 : p10 6 = 1000000 := by decide
        rw [e6] at s0 s1 s2 ⊢
        have s3 : A * 1000000 / B < 1000000000001 * 1000000 := quo_lt y0 (by decide) hq
        have HV : Hid (∀ W : World, Calls Tryd.prog 38 #[.int .i64 (A * 1000000 / B), .int .i64 (A * 1000000 % B), .int .i64 B] W fun e w' => e = .returned (.int .i64 (halfEven (A * 1000000) B)) ∧ w' = W) := fun W => even_any _ _ _ W s0 (by omega) s1 s2 y1
        have h1 := halfEven_nn (N := A * 1000000) (d := B) (by omega) y0
        have h2 : halfEven (A * 1000000) B ≤ 4000000000000000000 := by unfold halfEven; split <;> omega
        generalize halfEven (A * 1000000) B = E at *
        generalize A * 1000000 / B = q at *
        generalize A * 1000000 % B = r at *
        clear e6
        by_cases hbig2 : 1000000000000000000 < E
        · rw [if_pos hbig2] at HE
          go_wp2_with (first | (go_at_call 37; refine (HZb.out _).mono ?_; rintro e w' ⟨rfl, rfl⟩) | (go_at_call 38; refine (HV.out _).mono ?_; rintro e w' ⟨rfl, rfl⟩))
          go_ret2
          exact ⟨by rw [HE.out]; rfl, below_drewN (Below.refl _ _) _⟩
        · rw [if_neg hbig2] at HE
          by_cases sa : a < 0
          · by_cases sb : b < 0
            · have e : put (decide (a < 0) != decide (b < 0)) E = E := by simp [put, sa, sb]
              rw [e] at HE
              clear e
              have ta : decide (a < 0) = true := by simp [sa]
              have tb : decide (b < 0) = true := by simp [sb]
              go_wp2_with (first | (go_at_call 37; refine (HZb.out _).mono ?_; rintro e w' ⟨rfl, rfl⟩) | (go_at_call 38; refine (HV.out _).mono ?_; rintro e w' ⟨rfl, rfl⟩))
              go_ret2
              exact ⟨by rw [HE.out]; rfl, below_drewN (Below.refl _ _) _⟩
            · have e : put (decide (a < 0) != decide (b < 0)) E = -E := by simp [put, sa, sb]
              rw [e] at HE
              clear e
              have ta : decide (a < 0) = true := by simp [sa]
              have tb : decide (b < 0) = false := by simp [sb]
              go_wp2_with (first | (go_at_call 37; refine (HZb.out _).mono ?_; rintro e w' ⟨rfl, rfl⟩) | (go_at_call 38; refine (HV.out _).mono ?_; rintro e w' ⟨rfl, rfl⟩))
              go_ret2
              exact ⟨by rw [HE.out]; rfl, below_drewN (Below.refl _ _) _⟩
          · by_cases sb : b < 0
            · have e : put (decide (a < 0) != decide (b < 0)) E = -E := by simp [put, sa, sb]
              rw [e] at HE
              clear e
              have ta : decide (a < 0) = false := by simp [sa]
              have tb : decide (b < 0) = true := by simp [sb]
              go_wp2_with (first | (go_at_call 37; refine (HZb.out _).mono ?_; rintro e w' ⟨rfl, rfl⟩) | (go_at_call 38; refine (HV.out _).mono ?_; rintro e w' ⟨rfl, rfl⟩))
              go_ret2
              exact ⟨by rw [HE.out]; rfl, below_drewN (Below.refl _ _) _⟩
            · have e : put (decide (a < 0) != decide (b < 0)) E = E := by simp [put, sa, sb]
              rw [e] at HE
              clear e
              have ta : decide (a < 0) = false := by simp [sa]
              have tb : decide (b < 0) = false := by simp [sb]
              go_wp2_with (first | (go_at_call 37; refine (HZb.out _).mono ?_; rintro e w' ⟨rfl, rfl⟩) | (go_at_call 38; refine (HV.out _).mono ?_; rintro e w' ⟨rfl, rfl⟩))
              go_ret2
              exact ⟨by rw [HE.out]; rfl, below_drewN (Below.refl _ _) _⟩

theorem divR_bad1 {a b : Int} (h : fitsB a = false) : divR a b = (0, 2) := by simp [divR, divisR, h]
theorem divR_bad2 {a b : Int} (h : fitsB b = false) : divR a b = (0, 2) := by simp [divR, divisR, h]
theorem divR_zero {a b : Int} (h1 : fitsB a = true) (h2 : fitsB b = true) (h : b = 0) : divR a b = (0, 4) := by
  have e : divisR a b = 4 := by unfold divisR; rw [h1, h2]; simp [h]
  unfold divR; rw [e]; rfl
theorem modR_bad1 {a b : Int} (h : fitsB a = false) : modR a b = (0, 2) := by simp [modR, divisR, h]
theorem modR_bad2 {a b : Int} (h : fitsB b = false) : modR a b = (0, 2) := by simp [modR, divisR, h]
theorem modR_zero {a b : Int} (h1 : fitsB a = true) (h2 : fitsB b = true) (h : b = 0) : modR a b = (0, 4) := by
  have e : divisR a b = 4 := by unfold divisR; rw [h1, h2]; simp [h]
  unfold modR; rw [e]; rfl
theorem modR_good {a b : Int} (h1 : fitsB a = true) (h2 : fitsB b = true) (h : b ≠ 0) : modR a b = (fmodR a b, 0) := by
  have e : divisR a b = 0 := by unfold divisR; rw [h1, h2]; simp [h]
  unfold modR; rw [e]; rfl

set_option maxHeartbeats 400000 in
theorem rdiv_any (a b : Int) (w : World) :
    Calls Tryd.prog 19 #[.int .i64 a, .int .i64 b] w fun e w' => e = .returned (.tuple #[.int .i64 (divR a b).1, .int .i64 (divR a b).2]) ∧ Below w.heap.size w w' := by
  cases ha : fitsB a
  · have HE := hide (divR_bad1 (b := b) ha)
    go_enter Tryd.func19, Tryd.ntmps19
    go_wp2_with (go_at_call 14; refine (rfits_any _ _).mono ?_; rintro e w' ⟨rfl, rfl⟩)
    go_ret2
    exact ⟨by rw [HE.out]; rfl, Below.refl _ _⟩
  · cases hb : fitsB b
    · have HE := hide (divR_bad2 (a := a) hb)
      go_enter Tryd.func19, Tryd.ntmps19
      go_wp2_with (go_at_call 14; refine (rfits_any _ _).mono ?_; rintro e w' ⟨rfl, rfl⟩)
      go_ret2
      exact ⟨by rw [HE.out]; rfl, Below.refl _ _⟩
    · by_cases hz : b = 0
      · have HE := hide (divR_zero ha hb hz)
        have t : (b == 0) = true := beq_iff_eq.2 hz
        clear hz
        go_enter Tryd.func19, Tryd.ntmps19
        go_wp2_with (go_at_call 14; refine (rfits_any _ _).mono ?_; rintro e w' ⟨rfl, rfl⟩)
        go_ret2
        exact ⟨by rw [HE.out]; rfl, Below.refl _ _⟩
      · exact rdiv_good a b w ha hb hz

set_option maxHeartbeats 1000000 in
theorem rmod_any (a b : Int) (w : World) :
    Calls Tryd.prog 21 #[.int .i64 a, .int .i64 b] w fun e w' => e = .returned (.tuple #[.int .i64 (modR a b).1, .int .i64 (modR a b).2]) ∧ w' = w := by
  cases ha : fitsB a
  · have HE := hide (modR_bad1 (b := b) ha)
    go_enter Tryd.func21, Tryd.ntmps21
    go_wp2_with (go_at_call 14; refine (rfits_any _ _).mono ?_; rintro e w' ⟨rfl, rfl⟩)
    go_ret2
    exact ⟨by rw [HE.out]; rfl, rfl⟩
  · cases hb : fitsB b
    · have HE := hide (modR_bad2 (a := a) hb)
      go_enter Tryd.func21, Tryd.ntmps21
      go_wp2_with (go_at_call 14; refine (rfits_any _ _).mono ?_; rintro e w' ⟨rfl, rfl⟩)
      go_ret2
      exact ⟨by rw [HE.out]; rfl, rfl⟩
    · by_cases hz : b = 0
      · have HE := hide (modR_zero ha hb hz)
        have t : (b == 0) = true := beq_iff_eq.2 hz
        clear hz
        go_enter Tryd.func21, Tryd.ntmps21
        go_wp2_with (go_at_call 14; refine (rfits_any _ _).mono ?_; rintro e w' ⟨rfl, rfl⟩)
        go_ret2
        exact ⟨by rw [HE.out]; rfl, rfl⟩
      · have HE := hide (modR_good ha hb hz)
        have tz : (b == 0) = false := beq_eq_false_iff_ne.2 hz
        obtain ⟨a1, a2⟩ := fitsB_true ha
        obtain ⟨b1, b2⟩ := fitsB_true hb
        obtain ⟨r1, r2⟩ := tmod_bd (b := b) a1 a2
        by_cases hr : a.tmod b = 0
        · have t : (a.tmod b != 0) = false := by simp [hr]
          have HM : Hid (fmodR a b = a.tmod b) := by show fmodR a b = _; unfold fmodR; rw [if_neg (by simp [hr])]
          clear hr
          go_enter Tryd.func21, Tryd.ntmps21
          go_wp2_with (go_at_call 14; refine (rfits_any _ _).mono ?_; rintro e w' ⟨rfl, rfl⟩)
          go_ret2
          exact ⟨by rw [HE.out, HM.out]; rfl, rfl⟩
        · have t : (a.tmod b != 0) = true := by simp [hr]
          by_cases s1 : a.tmod b < 0
          · by_cases s2 : b < 0
            · have HM : Hid (fmodR a b = a.tmod b) := by show fmodR a b = _; unfold fmodR; rw [if_neg (by simp [s1, s2])]
              clear hr
              have ta : decide (a.tmod b < 0) = true := by simp [s1]
              have tb : decide (b < 0) = true := by simp [s2]
              go_enter Tryd.func21, Tryd.ntmps21
              go_wp2_with (go_at_call 14; refine (rfits_any _ _).mono ?_; rintro e w' ⟨rfl, rfl⟩)
              go_ret2
              exact ⟨by rw [HE.out, HM.out]; rfl, rfl⟩
            · have HM : Hid (fmodR a b = a.tmod b + b) := by show fmodR a b = _; unfold fmodR; rw [if_pos ⟨hr, by simp [s1, s2]⟩]
              clear hr
              have ta : decide (a.tmod b < 0) = true := by simp [s1]
              have tb : decide (b < 0) = false := by simp [s2]
              go_enter Tryd.func21, Tryd.ntmps21
              go_wp2_with (go_at_call 14; refine (rfits_any _ _).mono ?_; rintro e w' ⟨rfl, rfl⟩)
              go_ret2
              exact ⟨by rw [HE.out, HM.out]; rfl, rfl⟩
          · by_cases s2 : b < 0
            · have HM : Hid (fmodR a b = a.tmod b + b) := by show fmodR a b = _; unfold fmodR; rw [if_pos ⟨hr, by simp [s1, s2]⟩]
              clear hr
              have ta : decide (a.tmod b < 0) = false := by simp [s1]
              have tb : decide (b < 0) = true := by simp [s2]
              go_enter Tryd.func21, Tryd.ntmps21
              go_wp2_with (go_at_call 14; refine (rfits_any _ _).mono ?_; rintro e w' ⟨rfl, rfl⟩)
              go_ret2
              exact ⟨by rw [HE.out, HM.out]; rfl, rfl⟩
            · have HM : Hid (fmodR a b = a.tmod b) := by show fmodR a b = _; unfold fmodR; rw [if_neg (by simp [s1, s2])]
              clear hr
              have ta : decide (a.tmod b < 0) = false := by simp [s1]
              have tb : decide (b < 0) = false := by simp [s2]
              go_enter Tryd.func21, Tryd.ntmps21
              go_wp2_with (go_at_call 14; refine (rfits_any _ _).mono ?_; rintro e w' ⟨rfl, rfl⟩)
              go_ret2
              exact ⟨by rw [HE.out, HM.out]; rfl, rfl⟩
end Go.Proofs.YtjhldifilfkebaaDoor
