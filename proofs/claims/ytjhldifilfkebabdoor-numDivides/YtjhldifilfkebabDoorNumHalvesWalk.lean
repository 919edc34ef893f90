/-
  The walk of the law NumHalves, out of its callees' contracts.
-/
import Derived.Test.YtjhldifilfkebabDoorOutMath
import Derived.Test.YtjhldifilfkebabDoorLives
namespace Go.Proofs.YtjhldifilfkebabDoor
open Go.RowKit

set_option maxHeartbeats 400000 in
theorem lsize_any (n : Int) (w : World) (h1 : -4000000000000000000 ≤ n) (h2 : n ≤ 4000000000000000000) :
    Calls Tryd.prog 8 #[.int .i64 n] w fun e w' => e = .returned (.int .i64 (absI n)) ∧ w' = w := by
  by_cases h : n < 0
  · have E := hide (absI_neg h)
    go_enter Tryd.func8, Tryd.ntmps8
    go_wp2
    go_ret
    exact ⟨by rw [E.out]; simp [Int.max_def]; omega, rfl⟩
  · have E := hide (absI_pos (n := n) (by omega))
    go_enter Tryd.func8, Tryd.ntmps8
    go_wp2
    go_ret
    exact ⟨by rw [E.out]; simp [Int.max_def]; omega, rfl⟩

/-- What Round says where it says no error. -/
theorem round_ok {n p : Int} (h : (roundR n p).2 = 0) : ∃ x d : Int, roundR n p = (x, 0) ∧ -12 ≤ p ∧ p ≤ 6 ∧ p10 (6 - p).toNat = d ∧ -1000000000000000000 ≤ n ∧ n ≤ 1000000000000000000 ∧ -1000000000000000000 ≤ x ∧ x ≤ 1000000000000000000 ∧ x.tmod d = 0 ∧ -1000000000000000000 ≤ x.tdiv d ∧ x.tdiv d ≤ 1000000000000000000 ∧
    0 ≤ absI (x - n) ∧ absI (x - n) ≤ d ∧ (absI (x - n) < d - absI (x - n) ∨ (absI (x - n) = d - absI (x - n) ∧ (x.tdiv d).tmod 2 = 0)) := by
  cases hf : fitsB n
  · exact absurd h (by simp [roundR, hf])
  cases hp : plB p
  · exact absurd h (by simp [roundR, hp])
  have e : roundR n p = told (put (decide (n < 0)) (halfEven (absI n) (p10 (6 - p).toNat) * p10 (6 - p).toNat)) := by simp [roundR, hf, hp]
  have hp2 : -12 ≤ p ∧ p ≤ 6 := by unfold plB at hp; simp at hp; exact hp
  obtain ⟨n1, n2⟩ := fitsB_true hf
  have d0 := p10_pos (6 - p).toNat
  generalize p10 (6 - p).toNat = d at *
  obtain ⟨off, o0, o1, o2⟩ := half_facts (N := absI n) d0
  have hoff := put_off (n := n) o0 o1
  have ht := put_tmod (decide (n < 0)) (halfEven (absI n) d) d
  have hq := put_tdiv (decide (n < 0)) (H := halfEven (absI n) d) d0
  have hev := fun h => put_even (decide (n < 0)) (H := halfEven (absI n) d) h
  have hH := halfEven_nn (absI_nn n) d0
  have hHd := halfEven_mul (absI_nn n) d0
  have hHle := Int.mul_le_mul_of_nonneg_left (show (1 : Int) ≤ d by omega) hH
  rw [Int.mul_one] at hHle
  cases hx : fitsB (put (decide (n < 0)) (halfEven (absI n) d * d))
  · rw [e, told_no hx] at h; cases h
  · obtain ⟨x1, x2⟩ := fitsB_true hx
    refine ⟨_, d, by rw [e, told_yes hx], hp2.1, hp2.2, rfl, n1, n2, x1, x2, ht, ?_, ?_, ?_, ?_, ?_⟩
    · rw [hq]; unfold put at *; split at x1 <;> simp_all <;> omega
    · rw [hq]; unfold put at *; split at x1 <;> simp_all <;> omega
    · rw [hoff]; exact o0
    · rw [hoff]; omega
    · rw [hoff, hq]
      rcases o2 with o2 | ⟨o2, o3⟩
      · exact Or.inl o2
      · exact Or.inr ⟨o2, hev o3⟩
theorem round_no {n p : Int} (h : (roundR n p).2 ≠ 0) : (roundR n p).1 = 0 := by
  unfold roundR at *
  split at h
  · rename_i c
    rw [if_pos c]
    unfold told at *
    split at h
    · exact absurd rfl h
    · rename_i c2; rw [if_neg c2]
  · rename_i c
    rw [if_neg c]

set_option maxHeartbeats 1000000 in
theorem numHalves_any (n p : Int) (w : World) (ht : TabOk w) :
    Calls Tryd.prog 3 #[.int .i64 n, .int .i64 p] w fun e w' => e = .returned (.bool true) ∧ Below w.heap.size w w' := by
  have HT := hide ht
  clear ht
  have HR := hide (fun W : World => round_any n p W)
  by_cases hz : (roundR n p).2 = 0
  · obtain ⟨x, d, e, c1, c2, hd, n1, n2, x1, x2, t1, q1, q2, o1, o2, o3⟩ := round_ok hz
    rw [e] at HR
    clear hz e
    have d0 := p10_pos (6 - p).toNat
    have d1 := p10_le (k := (6 - p).toNat) (by omega)
    have HS := hide (fun W : World => lsize_any (x - n) W (by omega) (by omega))
    have T1 : (x.tmod d == 0) = true := beq_iff_eq.2 t1
    have HD := hide hd
    clear t1 hd
    go_enter Tryd.func3, Tryd.ntmps3
    go_wp2_with (go_at_call 6; refine (HR.out _).mono ?_; rintro e w1 ⟨rfl, b1⟩)
    go_loop [7, 8] (fun t i => ∃ k : Nat, (k : Int) ≤ 6 - p ∧ i = .int .i64 (p + k) ∧ t = .int .i64 (p10 k)) (fun _ i => (6 - intOf i).toNat)
    case atStart => exact ⟨0, by omega, by simp, by rw [p10_zero]⟩
    case round =>
      obtain ⟨k, hk, rfl, rfl⟩ := hrel
      have h1 := p10_pos k
      by_cases hlt : p + k < 6
      · have HP := hide (p10_succ k)
        have h2 : p10 k ≤ 100000000000000000 := by
          have a := p10_le (k := k + 1) (by omega)
          rw [p10_succ] at a
          omega
        go_wp2
        go_round
        case rel => exact ⟨k + 1, by omega, by go_num, by rw [HP.out, Int.mul_comm]⟩
        case measure => simp [intOf]; omega
      · have ek : (6 - p).toNat = k := by omega
        rw [ek] at HD d0 d1
        clear ek
        have hdk : p10 k = d := HD.out
        rw [hdk] at d0 d1 ⊢
        clear hdk HD h1
        have dz : (d == 0) = false := beq_eq_false_iff_ne.2 (by omega)
        generalize absI (x - n) = off at *
        have HT1 := hide (tab_below HT.out b1)
        rcases o3 with o3 | ⟨o3, o4⟩
        · go_wp2_with (first | (go_at_call 8; refine (HS.out _).mono ?_; rintro e w1 ⟨rfl, rfl⟩) | (go_at_call 7; refine (lives_any _ HT1.out).mono ?_; rintro e w2 ⟨rfl, b2⟩))
          go_ret
          exact ⟨rfl, b1.trans (b2.mono b1.size)⟩
        · have t3 : (off == d - off) = true := beq_iff_eq.2 o3
          have t4 : ((x.tdiv d).tmod 2 == 0) = true := beq_iff_eq.2 o4
          have t5 : ¬ off < d - off := by omega
          clear o3 o4
          go_wp2_with (first | (go_at_call 8; refine (HS.out _).mono ?_; rintro e w1 ⟨rfl, rfl⟩) | (go_at_call 7; refine (lives_any _ HT1.out).mono ?_; rintro e w2 ⟨rfl, b2⟩))
          go_ret
          exact ⟨rfl, b1.trans (b2.mono b1.size)⟩
  · have hx := round_no hz
    generalize roundR n p = r at *
    obtain ⟨x, e⟩ := r
    have hx' : x = 0 := hx
    have hz' : e ≠ 0 := hz
    subst hx'
    have t : (e != 0) = true := by simp [hz']
    clear hx hz hz'
    have HR2 : Hid (∀ W : World, Calls Tryd.prog 6 #[.int .i64 n, .int .i64 p] W fun e' w' => e' = .returned (.tuple #[.int .i64 0, .int .i64 e]) ∧ Below W.heap.size W w') := HR.out
    clear HR
    go_enter Tryd.func3, Tryd.ntmps3
    go_wp2_with (go_at_call 6; refine (HR2.out _).mono ?_; rintro e w1 ⟨rfl, b1⟩)
    refine (lives_any _ (tab_below HT.out b1)).mono ?_
    rintro e w2 ⟨rfl, b2⟩
    go_wp2
    go_ret
    exact ⟨rfl, b1.trans (b2.mono b1.size)⟩
end Go.Proofs.YtjhldifilfkebabDoor
