/-
  Out of RefDiv, Limbs, MulMath, RefMul, what is asked for (laid by pack9.py).
-/
import Derived.Test.YtfopebfejmlhbaaMDiv
import Derived.Test.YtfopebfejmlhbaaMNum
import Derived.BigQuiet
import Derived.BigRegion
import Derived.Deep.QuietTactic
import Derived.Deep.RegionWith
import Derived.Handy
import Derived.Laws.EntriesVeiled
import Derived.WalkKit
import Derived.WalkLawsBesides
import Derived.WalkSpells
namespace Go.Proofs.Ytfopebfejmlhbaa
section
open Go.RowKit
theorem quoR_eq {N d : Int} (neg : Bool) (hN : 0 ≤ N) (hd : 0 < d) : quoR N d neg = if 1000000000000000000 < halfEven N d then (0, 3) else (put neg (halfEven N d), 0) := by
  have h0 := halfEven_nn hN hd
  unfold quoR nearN
  by_cases h : 1000000000000000000 < N / d
  · have : N / d ≤ halfEven N d := by unfold halfEven; split <;> omega
    rw [if_pos h, if_neg (by decide), if_pos (by omega)]
  · rw [if_neg h, if_pos rfl]; exact told_put neg h0
theorem step_quo {A B q r : Int} (hB : 0 < B) (h1 : A / B = q) (h2 : A % B = r) : A * 10 / B = 10 * q + 10 * r / B ∧ A * 10 % B = 10 * r % B := by
  have e := Int.mul_ediv_add_emod A B
  rw [h1, h2] at e
  have e2 : A * 10 = 10 * r + 10 * q * B := by rw [← e, Int.mul_assoc, Int.mul_comm q B]; omega
  constructor
  · rw [e2, Int.add_mul_ediv_right _ _ (Int.ne_of_gt hB)]; omega
  · rw [e2, Int.add_mul_emod_self_right]
theorem quo_lt {A B p : Int} (hB : 0 < B) (hp : 0 < p) (h : A / B ≤ 1000000000000) : A * p / B < 1000000000001 * p := by
  refine Int.ediv_lt_of_lt_mul hB ?_
  have h1 : A < 1000000000001 * B := by
    have := Int.lt_ediv_add_one_mul_self A hB
    have h3 : (A / B + 1) * B ≤ 1000000000001 * B := Int.mul_le_mul_of_nonneg_right (by omega) (by omega)
    omega
  have h2 : A * p < 1000000000001 * B * p := Int.mul_lt_mul_of_pos_right h1 hp
  rw [Int.mul_right_comm] at h2; exact h2
set_option maxHeartbeats 2000000 in
theorem rdiv_good (a b : Int) (w : World) (ha : fitsB a = true) (hb : fitsB b = true) (hz : b ≠ 0) :
    Calls Try.prog 60 #[.int .i64 a, .int .i64 b] w fun e w' => e = .returned (.tuple #[.int .i64 (divR a b).1, .int .i64 (divR a b).2]) ∧ Below w.heap.size w w' := by
  obtain ⟨a1, a2⟩ := fitsB_true ha
  obtain ⟨b1, b2⟩ := fitsB_true hb
  have x0 := absI_nn a
  have x1 := absI_le a1 a2
  have y0 : 0 < absI b := by unfold absI; split <;> omega
  have y1 := absI_le b1 b2
  have HE : Hid (divR a b = if 1000000000000000000 < halfEven (absI a * 1000000) (absI b) then (0, 3) else (put (decide (a < 0) != decide (b < 0)) (halfEven (absI a * 1000000) (absI b)), 0)) := by
    show divR a b = _
    rw [← quoR_eq _ (by omega) y0]; simp [divR, divisR, ha, hb, hz]
  have HZa := hide (fun W : World => rsize_any a W a1 a2)
  have HZb := hide (fun W : World => rsize_any b W b1 b2)
  have tz : (b == 0) = false := beq_eq_false_iff_ne.2 hz
  generalize absI a = A at *
  generalize absI b = B at *
  have bz : (B == 0) = false := beq_eq_false_iff_ne.2 (by omega)
  have q0 : 0 ≤ A / B := Int.ediv_nonneg x0 (by omega)
  have q1 : A / B ≤ A := Int.ediv_le_self _ x0
  have r0 : 0 ≤ A % B := Int.emod_nonneg _ (by omega)
  have r1 : A % B < B := Int.emod_lt_of_pos _ y0
  clear hz
  go_enter Try.func60, Try.ntmps60
  go_wp2_with (go_at_call 47; refine (rfits_any _ _).mono ?_; rintro e w' ⟨rfl, rfl⟩)
  go_quiet (first | (go_at_call_of 51 a; exact Calls.quiet_of_same (HZa.out _)) | (go_at_call_of 51 b; exact Calls.quiet_of_same (HZb.out _)))
  by_cases hbig : 1000000000000 < A / B
  · have hh : 1000000000000000000 < halfEven (A * 1000000) B := by
      have h1 : 1000000000001 * 1000000 ≤ A * 1000000 / B := by
        rw [Int.le_ediv_iff_mul_le y0]
        have h2 : 1000000000001 * B ≤ A := by
          rw [← Int.le_ediv_iff_mul_le y0]; omega
        omega
      unfold halfEven; split <;> omega
    rw [if_pos hh] at HE
    clear hh
    go_wp2
    go_ret2
    exact ⟨by rw [HE.out]; rfl, below_drewN (Below.refl _ _) _⟩
  · have hq : A / B ≤ 1000000000000 := by omega
    go_wp2_with (go_at_call 51; refine (HZb.out _).mono ?_; rintro e w' ⟨rfl, rfl⟩)
    go_loop [6, 7, 9] (fun t l i => ∃ k : Nat, k ≤ 6 ∧ i = .int .i64 k ∧ t = .int .i64 (A * p10 k / B) ∧ l = .int .u64 (A * p10 k % B)) (fun _ _ i => 6 - (intOf i).toNat)
    case atStart => exact ⟨0, by omega, rfl, by rw [p10_zero, Int.mul_one], by rw [p10_zero, Int.mul_one]⟩
    case round =>
      obtain ⟨k, hk, rfl, rfl, rfl⟩ := hrel
      have s0 : 0 ≤ A * p10 k / B := Int.ediv_nonneg (Int.mul_nonneg x0 (Int.le_of_lt (p10_pos k))) (by omega)
      have s1 : 0 ≤ A * p10 k % B := Int.emod_nonneg _ (by omega)
      have s2 : A * p10 k % B < B := Int.emod_lt_of_pos _ y0
      by_cases hlt : k < 6
      · obtain ⟨e1, e2⟩ := step_quo (A := A * p10 k) y0 rfl rfl
        rw [Int.mul_assoc, ← p10_succ] at e1 e2
        have s3 : A * p10 (k + 1) / B < 1000000000001 * p10 (k + 1) := quo_lt y0 (p10_pos _) hq
        have s4 : p10 (k + 1) ≤ 1000000 := by
          have h6 : k + 1 = 1 ∨ k + 1 = 2 ∨ k + 1 = 3 ∨ k + 1 = 4 ∨ k + 1 = 5 ∨ k + 1 = 6 := by omega
          rcases h6 with h | h | h | h | h | h <;> rw [h] <;> decide
        have E1 := hide e1
        have E2 := hide e2
        have s5 : A * p10 (k + 1) / B < 2000000000000000000 := by omega
        have s6 : 0 ≤ 10 * (A * p10 k % B) / B := Int.ediv_nonneg (by omega) (by omega)
        have s7 : 10 * (A * p10 k / B) + 10 * (A * p10 k % B) / B < 2000000000000000000 := by rw [← e1]; exact s5
        have s8 : 0 ≤ 10 * (A * p10 k % B) % B := Int.emod_nonneg _ (by omega)
        clear e1 e2 s3 s4 s5 HE
        generalize A * p10 k / B = q at *
        generalize A * p10 k % B = r at *
        go_wp2
        go_round
        case rel => exact ⟨k + 1, by omega, by go_num, by rw [E1.out], by rw [E2.out]⟩
        case measure => simp [intOf]; omega
      · have : k = 6 := by omega
        subst this
        have e6 : p10 6 = 1000000 := by decide
        rw [e6] at s0 s1 s2 ⊢
        have s3 : A * 1000000 / B < 1000000000001 * 1000000 := quo_lt y0 (by decide) hq
        have HV : Hid (∀ W : World, Calls Try.prog 81 #[.int .i64 (A * 1000000 / B), .int .i64 (A * 1000000 % B), .int .i64 B] W fun e w' => e = .returned (.int .i64 (halfEven (A * 1000000) B)) ∧ w' = W) := fun W => even_any _ _ _ W s0 (by omega) s1 s2 y1
        have h1 := halfEven_nn (N := A * 1000000) (d := B) (by omega) y0
        have h2 : halfEven (A * 1000000) B ≤ 4000000000000000000 := by unfold halfEven; split <;> omega
        generalize halfEven (A * 1000000) B = E at *
        generalize A * 1000000 / B = q at *
        generalize A * 1000000 % B = r at *
        clear e6
        by_cases hbig2 : 1000000000000000000 < E
        · rw [if_pos hbig2] at HE
          go_wp2_with (first | (go_at_call 51; refine (HZb.out _).mono ?_; rintro e w' ⟨rfl, rfl⟩) | (go_at_call 81; refine (HV.out _).mono ?_; rintro e w' ⟨rfl, rfl⟩))
          go_ret2
          exact ⟨by rw [HE.out]; rfl, below_drewN (Below.refl _ _) _⟩
        · rw [if_neg hbig2] at HE
          by_cases sa : a < 0
          · by_cases sb : b < 0
            · have e : put (decide (a < 0) != decide (b < 0)) E = E := by simp [put, sa, sb]
              rw [e] at HE
              clear e
              have ta : decide (a < 0) = true := by simp [sa]
              have tb : decide (b < 0) = true := by simp [sb]
              go_wp2_with (first | (go_at_call 51; refine (HZb.out _).mono ?_; rintro e w' ⟨rfl, rfl⟩) | (go_at_call 81; refine (HV.out _).mono ?_; rintro e w' ⟨rfl, rfl⟩))
              go_ret2
              exact ⟨by rw [HE.out]; rfl, below_drewN (Below.refl _ _) _⟩
            · have e : put (decide (a < 0) != decide (b < 0)) E = -E := by simp [put, sa, sb]
              rw [e] at HE
              clear e
              have ta : decide (a < 0) = true := by simp [sa]
              have tb : decide (b < 0) = false := by simp [sb]
              go_wp2_with (first | (go_at_call 51; refine (HZb.out _).mono ?_; rintro e w' ⟨rfl, rfl⟩) | (go_at_call 81; refine (HV.out _).mono ?_; rintro e w' ⟨rfl, rfl⟩))
              go_ret2
              exact ⟨by rw [HE.out]; rfl, below_drewN (Below.refl _ _) _⟩
          · by_cases sb : b < 0
            · have e : put (decide (a < 0) != decide (b < 0)) E = -E := by simp [put, sa, sb]
              rw [e] at HE
              clear e
              have ta : decide (a < 0) = false := by simp [sa]
              have tb : decide (b < 0) = true := by simp [sb]
              go_wp2_with (first | (go_at_call 51; refine (HZb.out _).mono ?_; rintro e w' ⟨rfl, rfl⟩) | (go_at_call 81; refine (HV.out _).mono ?_; rintro e w' ⟨rfl, rfl⟩))
              go_ret2
              exact ⟨by rw [HE.out]; rfl, below_drewN (Below.refl _ _) _⟩
            · have e : put (decide (a < 0) != decide (b < 0)) E = E := by simp [put, sa, sb]
              rw [e] at HE
              clear e
              have ta : decide (a < 0) = false := by simp [sa]
              have tb : decide (b < 0) = false := by simp [sb]
              go_wp2_with (first | (go_at_call 51; refine (HZb.out _).mono ?_; rintro e w' ⟨rfl, rfl⟩) | (go_at_call 81; refine (HV.out _).mono ?_; rintro e w' ⟨rfl, rfl⟩))
              go_ret2
              exact ⟨by rw [HE.out]; rfl, below_drewN (Below.refl _ _) _⟩
end
section
open Go.RowKit
/-- What is left behind k digits. -/
def nk (n : Int) : Nat → Int
  | 0 => n
  | k + 1 => nk n k / 1000000
theorem nk_succ (n : Int) (k : Nat) : nk n (k + 1) = nk n k / 1000000 := rfl
theorem nk_bd {n : Int} (h0 : 0 ≤ n) (h1 : n ≤ 1000000000000000000) : ∀ k, 0 ≤ nk n k ∧ nk n k ≤ 1000000000000000000
  | 0 => ⟨h0, h1⟩
  | k + 1 => by have := nk_bd h0 h1 k; rw [nk_succ]; omega
/-- The first k digits. -/
def lim (n : Int) (k : Nat) : List Int := (List.range k).map fun j => nk n j % 1000000
theorem lim_succ (n : Int) (k : Nat) : lim n (k + 1) = lim n k ++ [nk n k % 1000000] := by
  unfold lim; rw [List.range_succ, List.map_append]; rfl
theorem lim_len (n : Int) (k : Nat) : (lim n k).length = k := by simp [lim]
theorem infoInt : (Try.prog.info? 3).map (fun i => (i.zero, i.size, i.bytes)) = some (some (.int .i64 0), 1, 8) := by kernel_rfl
theorem lim_step {w wr w1 : World} {n : Int} {k : Nat} {v v' : Value} (o : Obj)
    (hnx : Below w.heap.size w wr) (hown : wr.ownsRow w.heap.size 3 1 v k ((lim n k).map (Value.int .i64)))
    (hown' : w1.ownsRow w.heap.size 3 1 v' (k + 1) ((lim n k).map (Value.int .i64) ++ [.int .i64 (nk n k % 1000000)])) (hgrow : (wr.alloc o).grownBy w1 v.ownBlock) :
    w1.ownsRow w.heap.size 3 1 v' (k + 1) ((lim n (k + 1)).map (Value.int .i64)) ∧ Below w.heap.size w w1 := by
  refine ⟨by rw [lim_succ, List.map_append]; exact hown', ?_⟩
  refine (hnx.alloc hnx.size o).grown hgrow ?_ (fun j hj => (hown.lt j hj).1)
  have := hnx.size; simp; omega
set_option maxHeartbeats 1000000 in
set_option maxRecDepth 100000 in
theorem limbs_any (n : Int) (w : World) (h0 : 0 ≤ n) (h1 : n ≤ 1000000000000000000) :
    Calls Try.prog 80 #[.int .i64 n] w fun e w' => ∃ v, e = .returned v ∧ w'.ownsRow w.heap.size 3 1 v 4 ((lim n 4).map (Value.int .i64)) ∧ Below w.heap.size w w' := by
  obtain ⟨i0, hi, hz0, hz1, hz2⟩ := info_parts infoInt
  have H0 := hide h0
  have H1 := hide h1
  clear h0 h1
  go_enter Try.func80, Try.ntmps80
  go_wp2
  go_loopw [0, 3, 4] (fun m v i wr => ∃ k : Nat, k ≤ 4 ∧ i = .int .i64 k ∧ m = .int .i64 (nk n k) ∧ wr.ownsRow w.heap.size 3 1 v k ((lim n k).map (Value.int .i64)) ∧ Below w.heap.size w wr) (fun _ _ i _ => 4 - (intOf i).toNat)
  case atStart => exact ⟨0, by omega, rfl, rfl, World.ownsRow_nil _ _ _ _, Below.refl _ _⟩
  case round =>
    obtain ⟨k, hk, rfl, rfl, hown, hnx⟩ := hrel
    obtain ⟨n0, n1⟩ := nk_bd H0.out H1.out k
    by_cases hlt : k < 4
    · have HN := hide (nk_succ n k)
      generalize hm : nk n k = m at *
      have HM := hide hm
      clear hm
      have hbs := hnx.size
      go_wp2_with (first
        | (at_builtin; refine wpList_append_own _ rfl _ _ 31 rfl w.heap.size 3 i0 (.int .i64 0) 1 8 Try.underlying31 hi hz0 hz1 hz2 rfl (by decide) _ _ _ rfl (hown.alloc _) ⟨wr.heap.size, 0, none⟩ 1 1 [.int .i64 (m % 1000000)] rfl rfl ?c1 ?c2 ?c3 ?c4 ?c5 ?_)
        | go_in)
      case c1 =>
        intro j u hj
        match j, hj with
        | 0, hj => simp at hj; subst hj; simp [Addr.add]
      case c2 => intro u hu; simp at hu; subst hu; rfl
      case c3 => unfold maxLen; omega
      case c4 => omega
      case c5 => simp; omega
      intro v' w1 hown' hgrow _
      rw [← HM.out] at hown'
      have R := lim_step _ hnx hown hown' hgrow
      clear hown' hgrow hown hnx
      go_wp2
      go_roundw
      case rel => exact ⟨k + 1, by omega, by go_num, by rw [HN.out], R.1, R.2⟩
      case measure => simp [intOf]; omega
    · have : k = 4 := by omega
      subst this
      go_wp2
      go_ret
      exact ⟨_, rfl, hown, hnx⟩
end
section
open Go.RowKit
/-- One product is added. -/
def addS (R : List Int) (j : Nat) (x : Int) : List Int := R.set j (R.getD j 0 + x)
/-- One row of the products. -/
def innerR (P Q : List Int) (i : Nat) : Nat → List Int → List Int
  | 0, R => R
  | k + 1, R => addS (innerR P Q i k R) (i + k) (P.getD i 0 * Q.getD k 0)
/-- All rows. -/
def outerR (P Q : List Int) : Nat → List Int
  | 0 => [0, 0, 0, 0, 0, 0, 0, 0]
  | i + 1 => innerR P Q i 4 (outerR P Q i)
/-- What is over a million is carried on. -/
def carryS (R : List Int) (i : Nat) : List Int := (R.set (i + 1) (R.getD (i + 1) 0 + R.getD i 0 / 1000000)).set i (R.getD i 0 % 1000000)
def carryR (R : List Int) : Nat → List Int
  | 0 => R
  | i + 1 => carryS (carryR R i) i
theorem outer4 (p0 p1 p2 p3 q0 q1 q2 q3 : Int) : outerR [p0, p1, p2, p3] [q0, q1, q2, q3] 4 =
    [0 + p0 * q0, 0 + p0 * q1 + p1 * q0, 0 + p0 * q2 + p1 * q1 + p2 * q0, 0 + p0 * q3 + p1 * q2 + p2 * q1 + p3 * q0, 0 + p1 * q3 + p2 * q2 + p3 * q1, 0 + p2 * q3 + p3 * q2, 0 + p3 * q3, 0] := by
  have add0 : ∀ r0 r1 r2 r3 r4 r5 r6 r7 x : Int, addS [r0, r1, r2, r3, r4, r5, r6, r7] 0 x = [r0 + x, r1, r2, r3, r4, r5, r6, r7] := fun _ _ _ _ _ _ _ _ _ => rfl
  have add1 : ∀ r0 r1 r2 r3 r4 r5 r6 r7 x : Int, addS [r0, r1, r2, r3, r4, r5, r6, r7] 1 x = [r0, r1 + x, r2, r3, r4, r5, r6, r7] := fun _ _ _ _ _ _ _ _ _ => rfl
  have add2 : ∀ r0 r1 r2 r3 r4 r5 r6 r7 x : Int, addS [r0, r1, r2, r3, r4, r5, r6, r7] 2 x = [r0, r1, r2 + x, r3, r4, r5, r6, r7] := fun _ _ _ _ _ _ _ _ _ => rfl
  have add3 : ∀ r0 r1 r2 r3 r4 r5 r6 r7 x : Int, addS [r0, r1, r2, r3, r4, r5, r6, r7] 3 x = [r0, r1, r2, r3 + x, r4, r5, r6, r7] := fun _ _ _ _ _ _ _ _ _ => rfl
  have add4 : ∀ r0 r1 r2 r3 r4 r5 r6 r7 x : Int, addS [r0, r1, r2, r3, r4, r5, r6, r7] 4 x = [r0, r1, r2, r3, r4 + x, r5, r6, r7] := fun _ _ _ _ _ _ _ _ _ => rfl
  have add5 : ∀ r0 r1 r2 r3 r4 r5 r6 r7 x : Int, addS [r0, r1, r2, r3, r4, r5, r6, r7] 5 x = [r0, r1, r2, r3, r4, r5 + x, r6, r7] := fun _ _ _ _ _ _ _ _ _ => rfl
  have add6 : ∀ r0 r1 r2 r3 r4 r5 r6 r7 x : Int, addS [r0, r1, r2, r3, r4, r5, r6, r7] 6 x = [r0, r1, r2, r3, r4, r5, r6 + x, r7] := fun _ _ _ _ _ _ _ _ _ => rfl
  show addS (addS (addS (addS (addS (addS (addS (addS (addS (addS (addS (addS (addS (addS (addS (addS [0, 0, 0, 0, 0, 0, 0, 0] 0 (p0 * q0)) 1 (p0 * q1)) 2 (p0 * q2)) 3 (p0 * q3)) 1 (p1 * q0)) 2 (p1 * q1)) 3 (p1 * q2)) 4 (p1 * q3)) 2 (p2 * q0)) 3 (p2 * q1)) 4 (p2 * q2)) 5 (p2 * q3)) 3 (p3 * q0)) 4 (p3 * q1)) 5 (p3 * q2)) 6 (p3 * q3) = _
  rw [add0, add1, add2, add3, add1, add2, add3, add4, add2, add3, add4, add5, add3, add4, add5, add6]
theorem carry7 (r0 r1 r2 r3 r4 r5 r6 r7 : Int) : ∃ s1 s2 s3 s4 s5 s6 s7 : Int, s1 = r1 + r0 / 1000000 ∧ s2 = r2 + s1 / 1000000 ∧ s3 = r3 + s2 / 1000000 ∧ s4 = r4 + s3 / 1000000 ∧ s5 = r5 + s4 / 1000000 ∧ s6 = r6 + s5 / 1000000 ∧ s7 = r7 + s6 / 1000000 ∧
    carryR [r0, r1, r2, r3, r4, r5, r6, r7] 7 = [r0 % 1000000, s1 % 1000000, s2 % 1000000, s3 % 1000000, s4 % 1000000, s5 % 1000000, s6 % 1000000, s7] := by
  refine ⟨_, _, _, _, _, _, _, rfl, rfl, rfl, rfl, rfl, rfl, rfl, ?_⟩
  have c0 : ∀ r0 r1 r2 r3 r4 r5 r6 r7 : Int, carryS [r0, r1, r2, r3, r4, r5, r6, r7] 0 = [r0 % 1000000, r1 + r0 / 1000000, r2, r3, r4, r5, r6, r7] := fun _ _ _ _ _ _ _ _ => rfl
  have c1 : ∀ r0 r1 r2 r3 r4 r5 r6 r7 : Int, carryS [r0, r1, r2, r3, r4, r5, r6, r7] 1 = [r0, r1 % 1000000, r2 + r1 / 1000000, r3, r4, r5, r6, r7] := fun _ _ _ _ _ _ _ _ => rfl
  have c2 : ∀ r0 r1 r2 r3 r4 r5 r6 r7 : Int, carryS [r0, r1, r2, r3, r4, r5, r6, r7] 2 = [r0, r1, r2 % 1000000, r3 + r2 / 1000000, r4, r5, r6, r7] := fun _ _ _ _ _ _ _ _ => rfl
  have c3 : ∀ r0 r1 r2 r3 r4 r5 r6 r7 : Int, carryS [r0, r1, r2, r3, r4, r5, r6, r7] 3 = [r0, r1, r2, r3 % 1000000, r4 + r3 / 1000000, r5, r6, r7] := fun _ _ _ _ _ _ _ _ => rfl
  have c4 : ∀ r0 r1 r2 r3 r4 r5 r6 r7 : Int, carryS [r0, r1, r2, r3, r4, r5, r6, r7] 4 = [r0, r1, r2, r3, r4 % 1000000, r5 + r4 / 1000000, r6, r7] := fun _ _ _ _ _ _ _ _ => rfl
  have c5 : ∀ r0 r1 r2 r3 r4 r5 r6 r7 : Int, carryS [r0, r1, r2, r3, r4, r5, r6, r7] 5 = [r0, r1, r2, r3, r4, r5 % 1000000, r6 + r5 / 1000000, r7] := fun _ _ _ _ _ _ _ _ => rfl
  have c6 : ∀ r0 r1 r2 r3 r4 r5 r6 r7 : Int, carryS [r0, r1, r2, r3, r4, r5, r6, r7] 6 = [r0, r1, r2, r3, r4, r5, r6 % 1000000, r7 + r6 / 1000000] := fun _ _ _ _ _ _ _ _ => rfl
  show carryS (carryS (carryS (carryS (carryS (carryS (carryS [r0, r1, r2, r3, r4, r5, r6, r7] 0) 1) 2) 3) 4) 5) 6 = _
  rw [c0, c1, c2, c3, c4, c5, c6]
theorem lim4 (n : Int) : lim n 4 = [n % 1000000, n / 1000000 % 1000000, n / 1000000 / 1000000 % 1000000, n / 1000000 / 1000000 / 1000000 % 1000000] := rfl
theorem row_mul (p q0 q1 q2 q3 : Int) : p * (q0 + 1000000 * q1 + 1000000000000 * q2 + 1000000000000000000 * q3) = p * q0 + 1000000 * (p * q1) + 1000000000000 * (p * q2) + 1000000000000000000 * (p * q3) := by
  rw [Int.mul_add, Int.mul_add, Int.mul_add, Int.mul_left_comm p 1000000, Int.mul_left_comm p 1000000000000, Int.mul_left_comm p 1000000000000000000]
/-- The digits of a product. -/
theorem mul_digits (A C : Int) (a0 : 0 ≤ A) (a1 : A ≤ 1000000000000000000) (c0 : 0 ≤ C) (c1 : C ≤ 1000000000000000000) : ∃ r0 r1 r2 r3 r4 r5 r6 r7 : Int,
    carryR (outerR (lim A 4) (lim C 4) 4) 7 = [r0, r1, r2, r3, r4, r5, r6, r7] ∧ 0 ≤ r0 ∧ r0 < 1000000 ∧ 0 ≤ r1 ∧ r1 < 1000000 ∧ 0 ≤ r2 ∧ r2 < 1000000 ∧ 0 ≤ r3 ∧ r3 < 1000000 ∧ 0 ≤ r4 ∧ r4 < 1000000 ∧ 0 ≤ r5 ∧ r5 < 1000000 ∧ 0 ≤ r6 ∧ r6 < 1000000 ∧ 0 ≤ r7 ∧
    A * C = r0 + 1000000 * (r1 + 1000000 * (r2 + 1000000 * (r3 + 1000000 * (r4 + 1000000 * (r5 + 1000000 * (r6 + 1000000 * r7)))))) := by
  rw [lim4, lim4]
  obtain ⟨p0, hp0⟩ : ∃ x, x = A % 1000000 := ⟨_, rfl⟩
  obtain ⟨p1, hp1⟩ : ∃ x, x = A / 1000000 % 1000000 := ⟨_, rfl⟩
  obtain ⟨p2, hp2⟩ : ∃ x, x = A / 1000000 / 1000000 % 1000000 := ⟨_, rfl⟩
  obtain ⟨p3, hp3⟩ : ∃ x, x = A / 1000000 / 1000000 / 1000000 % 1000000 := ⟨_, rfl⟩
  obtain ⟨q0, hq0⟩ : ∃ x, x = C % 1000000 := ⟨_, rfl⟩
  obtain ⟨q1, hq1⟩ : ∃ x, x = C / 1000000 % 1000000 := ⟨_, rfl⟩
  obtain ⟨q2, hq2⟩ : ∃ x, x = C / 1000000 / 1000000 % 1000000 := ⟨_, rfl⟩
  obtain ⟨q3, hq3⟩ : ∃ x, x = C / 1000000 / 1000000 / 1000000 % 1000000 := ⟨_, rfl⟩
  have eA : A = p0 + 1000000 * p1 + 1000000000000 * p2 + 1000000000000000000 * p3 := by omega
  have eC : C = q0 + 1000000 * q1 + 1000000000000 * q2 + 1000000000000000000 * q3 := by omega
  rw [← hp0, ← hp1, ← hp2, ← hp3, ← hq0, ← hq1, ← hq2, ← hq3, outer4]
  have hP : 0 ≤ p0 ∧ 0 ≤ p1 ∧ 0 ≤ p2 ∧ 0 ≤ p3 := by omega
  have hQ : 0 ≤ q0 ∧ 0 ≤ q1 ∧ 0 ≤ q2 ∧ 0 ≤ q3 := by omega
  clear hp0 hp1 hp2 hp3 hq0 hq1 hq2 hq3
  obtain ⟨P0, P1, P2, P3⟩ := hP
  obtain ⟨Q0, Q1, Q2, Q3⟩ := hQ
  have eN : A * C = (p0 * q0 + 1000000 * (p0 * q1) + 1000000000000 * (p0 * q2) + 1000000000000000000 * (p0 * q3)) + 1000000 * (p1 * q0 + 1000000 * (p1 * q1) + 1000000000000 * (p1 * q2) + 1000000000000000000 * (p1 * q3)) + 1000000000000 * (p2 * q0 + 1000000 * (p2 * q1) + 1000000000000 * (p2 * q2) + 1000000000000000000 * (p2 * q3)) + 1000000000000000000 * (p3 * q0 + 1000000 * (p3 * q1) + 1000000000000 * (p3 * q2) + 1000000000000000000 * (p3 * q3)) := by
    have e : A * C = (p0 + 1000000 * p1 + 1000000000000 * p2 + 1000000000000000000 * p3) * C := by rw [← eA]
    rw [e, Int.add_mul, Int.add_mul, Int.add_mul, Int.mul_assoc, Int.mul_assoc, Int.mul_assoc, eC, row_mul p0 q0 q1 q2 q3, row_mul p1 q0 q1 q2 q3, row_mul p2 q0 q1 q2 q3, row_mul p3 q0 q1 q2 q3]
  have n00 := Int.mul_nonneg P0 Q0; have n01 := Int.mul_nonneg P0 Q1; have n02 := Int.mul_nonneg P0 Q2; have n03 := Int.mul_nonneg P0 Q3
  have n10 := Int.mul_nonneg P1 Q0; have n11 := Int.mul_nonneg P1 Q1; have n12 := Int.mul_nonneg P1 Q2; have n13 := Int.mul_nonneg P1 Q3
  have n20 := Int.mul_nonneg P2 Q0; have n21 := Int.mul_nonneg P2 Q1; have n22 := Int.mul_nonneg P2 Q2; have n23 := Int.mul_nonneg P2 Q3
  have n30 := Int.mul_nonneg P3 Q0; have n31 := Int.mul_nonneg P3 Q1; have n32 := Int.mul_nonneg P3 Q2; have n33 := Int.mul_nonneg P3 Q3
  generalize A * C = N at *
  clear eA eC P0 P1 P2 P3 Q0 Q1 Q2 Q3 a0 a1 c0 c1
  generalize p0 * q0 = x00 at *
  generalize p0 * q1 = x01 at *
  generalize p0 * q2 = x02 at *
  generalize p0 * q3 = x03 at *
  generalize p1 * q0 = x10 at *
  generalize p1 * q1 = x11 at *
  generalize p1 * q2 = x12 at *
  generalize p1 * q3 = x13 at *
  generalize p2 * q0 = x20 at *
  generalize p2 * q1 = x21 at *
  generalize p2 * q2 = x22 at *
  generalize p2 * q3 = x23 at *
  generalize p3 * q0 = x30 at *
  generalize p3 * q1 = x31 at *
  generalize p3 * q2 = x32 at *
  generalize p3 * q3 = x33 at *
  obtain ⟨s1, s2, s3, s4, s5, s6, s7, h1, h2, h3, h4, h5, h6, h7, e⟩ := carry7 (0 + x00) (0 + x01 + x10) (0 + x02 + x11 + x20) (0 + x03 + x12 + x21 + x30) (0 + x13 + x22 + x31) (0 + x23 + x32) (0 + x33) 0
  refine ⟨_, _, _, _, _, _, _, _, e, by omega, by omega, by omega, by omega, by omega, by omega, by omega, by omega, by omega, by omega, by omega, by omega, by omega, by omega, by omega, ?_⟩
  clear e
  have k0 := Int.mul_ediv_add_emod (0 + x00) 1000000
  have k1 := Int.mul_ediv_add_emod s1 1000000
  have k2 := Int.mul_ediv_add_emod s2 1000000
  have k3 := Int.mul_ediv_add_emod s3 1000000
  have k4 := Int.mul_ediv_add_emod s4 1000000
  have k5 := Int.mul_ediv_add_emod s5 1000000
  have k6 := Int.mul_ediv_add_emod s6 1000000
  generalize (0 + x00) / 1000000 = d0 at *
  generalize (0 + x00) % 1000000 = m0 at *
  generalize s1 / 1000000 = d1 at *
  generalize s1 % 1000000 = m1 at *
  generalize s2 / 1000000 = d2 at *
  generalize s2 % 1000000 = m2 at *
  generalize s3 / 1000000 = d3 at *
  generalize s3 % 1000000 = m3 at *
  generalize s4 / 1000000 = d4 at *
  generalize s4 % 1000000 = m4 at *
  generalize s5 / 1000000 = d5 at *
  generalize s5 % 1000000 = m5 at *
  generalize s6 / 1000000 = d6 at *
  generalize s6 % 1000000 = m6 at *
  omega
end
section
open Go.RowKit
/-- What the rows of digits hold. -/
structure St (B : Nat) (w wr : World) (gp gq gr : Nat) (P Q R : List Int) (c : Int) : Prop where
  p : ∀ j, j < 4 → wr.cell? ⟨gp, j, none⟩ = some (.int .i64 (P.getD j 0))
  q : ∀ j, j < 4 → wr.cell? ⟨gq, j, none⟩ = some (.int .i64 (Q.getD j 0))
  r : ∀ j, j < 8 → wr.cell? ⟨gr, j, none⟩ = some (.int .i64 (R.getD j 0))
  f : ∀ j, j < 8 → wr.frozen? ⟨gr, j, none⟩ = false
  len : R.length = 8
  np : gp ≠ gr
  nq : gq ≠ gr
  b : Below B w wr
  lt : B ≤ gr
  bd : ∀ j, 0 ≤ R.getD j 0 ∧ R.getD j 0 ≤ c
theorem getD_set (l : List Int) (i j : Nat) (x : Int) (h : i < l.length) : (l.set i x).getD j 0 = if i = j then x else l.getD j 0 := by
  by_cases e : i = j
  · subst e; simp [h]
  · simp [e]
theorem St.drew {B : Nat} {w wr : World} {gp gq gr : Nat} {P Q R : List Int} {c : Int} (h : St B w wr gp gq gr P Q R c) : St B w wr.drew gp gq gr P Q R c :=
  ⟨h.p, h.q, h.r, h.f, h.len, h.np, h.nq, h.b.drew, h.lt, h.bd⟩
/-- A store into the row. -/
theorem St.put {B : Nat} {w wr : World} {gp gq gr : Nat} {P Q R : List Int} {c c' : Int} (h : St B w wr gp gq gr P Q R c) (i : Nat) (hi : i < 8) (x : Int) (h0 : 0 ≤ x) (h1 : x ≤ c') (hc : c ≤ c') :
    St B w (wr.setCell ⟨gr, i, none⟩ (.int .i64 x)) gp gq gr P Q (R.set i x) c' := by
  refine ⟨fun j hj => ?_, fun j hj => ?_, fun j hj => ?_, fun j hj => ?_, by rw [List.length_set]; exact h.len, h.np, h.nq, h.b.setCell h.lt _, h.lt, fun j => ?_⟩
  · rw [World.cell?_setCell_other _ _ _ _ (by simp; intro e; exact absurd e.symm h.np)]; exact h.p j hj
  · rw [World.cell?_setCell_other _ _ _ _ (by simp; intro e; exact absurd e.symm h.nq)]; exact h.q j hj
  · rw [getD_set _ _ _ _ (by rw [h.len]; exact hi)]
    by_cases e : i = j
    · subst e; rw [if_pos rfl]; exact World.cell?_setCell_same _ _ _ (h.r i hi)
    · rw [if_neg e, World.cell?_setCell_other _ _ _ _ (by intro e2; exact e (Addr.mk.inj e2).2.1)]; exact h.r j hj
  · rw [World.frozen?_setCell]; exact h.f j hj
  · rw [getD_set _ _ _ _ (by rw [h.len]; exact hi)]
    have := h.bd j
    split <;> omega
theorem own_cells {w' : World} {base : Nat} {v : Value} {xs : List Value} (h : w'.ownsRow base 3 1 v 4 xs) : ∃ g cap, v = .slice (some ⟨g, 0, none⟩) 4 cap ∧ base ≤ g ∧ g < w'.heap.size ∧ 4 ≤ cap ∧ ∀ j, j < 4 → w'.cell? ⟨g, j, none⟩ = xs[j]? := by
  have h' := h
  obtain ⟨_, h | ⟨g, cap, cur, rfl, hb, hh, hc, _, _, _⟩⟩ := h
  · exact absurd h.2 (by decide)
  · refine ⟨g, cap, rfl, hb, ?_, hc, fun j hj => h'.cellAt j (by omega)⟩
    rcases Nat.lt_or_ge g w'.heap.size with h2 | h2
    · exact h2
    · rw [Array.getElem?_eq_none h2] at hh; cases hh
theorem map_at (l : List Int) (j : Nat) (h : j < l.length) : (l.map (Value.int .i64))[j]? = some (.int .i64 (l.getD j 0)) := by
  rw [List.getElem?_map, List.getElem?_eq_getElem h]
  simp [h]
theorem made8 : (madeCells (Value.int .i64 0).cells (8 * 1)).toList = [.int .i64 0, .int .i64 0, .int .i64 0, .int .i64 0, .int .i64 0, .int .i64 0, .int .i64 0, .int .i64 0] := by kernel_rfl
theorem st_start {w W1 W2 W3 : World} {A C : Int} {gp gq : Nat} (B1 : Below w.heap.size w W1) (B2 : Below W1.heap.size W1 W2)
    (lp' : gp < W1.heap.size) (lq' : gq < W2.heap.size)
    (cp : ∀ j, j < 4 → W1.cell? ⟨gp, j, none⟩ = ((lim A 4).map (Value.int .i64))[j]?) (cq : ∀ j, j < 4 → W2.cell? ⟨gq, j, none⟩ = ((lim C 4).map (Value.int .i64))[j]?)
    (own : W3.ownsRow W2.heap.size 3 1 (.slice (some ⟨W2.heap.size, 0, none⟩) 8 8) 8 (madeCells (Value.int .i64 0).cells (8 * 1)).toList) (gr : W2.grownBy W3 none) :
    St w.heap.size w W3 gp gq W2.heap.size (lim A 4) (lim C 4) (outerR (lim A 4) (lim C 4) 0) 0 := by
  have s1 := B1.size
  have s2 := B2.size
  have up : ∀ (g j : Nat), g < W2.heap.size → W3.cell? ⟨g, j, none⟩ = W2.cell? ⟨g, j, none⟩ := fun g j hg => World.cell?_of_block (a := ⟨g, j, none⟩) (gr.block g hg (by simp))
  refine ⟨fun j hj => ?_, fun j hj => ?_, fun j hj => ?_, fun j hj => ?_, rfl, by omega, by omega, ?_, by omega, fun j => ?_⟩
  · rw [up gp j (by omega), B2.cell (p := ⟨gp, j, none⟩) lp', cp j hj]
    exact map_at _ _ (by rw [lim_len]; exact hj)
  · rw [up gq j lq', cq j hj]
    exact map_at _ _ (by rw [lim_len]; exact hj)
  · rw [own.cellAt j (by omega), made8]
    match j, hj with
    | 0, _ => rfl
    | 1, _ => rfl
    | 2, _ => rfl
    | 3, _ => rfl
    | 4, _ => rfl
    | 5, _ => rfl
    | 6, _ => rfl
    | 7, _ => rfl
  · exact own.frozenAt j
  · exact (B1.trans (B2.mono s1)).trans ⟨gr.os, gr.tape, gr.output, gr.size, fun k hk => gr.block k (by omega) (by simp)⟩
  · show 0 ≤ ([0, 0, 0, 0, 0, 0, 0, 0] : List Int).getD j 0 ∧ ([0, 0, 0, 0, 0, 0, 0, 0] : List Int).getD j 0 ≤ 0
    match j with
    | 0 => decide
    | 1 => decide
    | 2 => decide
    | 3 => decide
    | 4 => decide
    | 5 => decide
    | 6 => decide
    | 7 => decide
    | j + 8 => simp
theorem lim_at {n : Int} (j : Nat) : 0 ≤ (lim n 4).getD j 0 ∧ (lim n 4).getD j 0 < 1000000 := by
  by_cases h : j < 4
  · unfold lim
    rw [List.getD_eq_getElem?_getD, List.getElem?_map, List.getElem?_range h]
    simp; omega
  · rw [List.getD_eq_getElem?_getD, List.getElem?_eq_none (by rw [lim_len]; omega)]; simp
theorem mulR_good {a b : Int} (ha : fitsB a = true) (hb : fitsB b = true) : mulR a b = if 1000000000000000000 < halfEven (absI a * absI b) 1000000 then (0, 3) else (put (decide (a < 0) != decide (b < 0)) (halfEven (absI a * absI b) 1000000), 0) := by
  rw [← quoR_eq _ (Int.mul_nonneg (absI_nn a) (absI_nn b)) (by decide)]; simp [mulR, ha, hb]
theorem half_ge {N d : Int} : N / d ≤ halfEven N d := by unfold halfEven; split <;> omega
theorem prod_bd {x y : Int} (h0 : 0 ≤ x) (h1 : x < 1000000) (k0 : 0 ≤ y) (k1 : y < 1000000) : 0 ≤ x * y ∧ x * y ≤ 1000000000000 := by
  refine ⟨Int.mul_nonneg h0 k0, ?_⟩
  have : x * y ≤ 1000000 * 1000000 := Int.mul_le_mul (by omega) (by omega) k0 (by omega)
  omega
set_option maxHeartbeats 4000000 in
set_option maxRecDepth 100000 in
theorem rmul_good (a b : Int) (w : World) (ha : fitsB a = true) (hb : fitsB b = true) :
    Calls Try.prog 59 #[.int .i64 a, .int .i64 b] w fun e w' => e = .returned (.tuple #[.int .i64 (mulR a b).1, .int .i64 (mulR a b).2]) ∧ Below w.heap.size w w' := by
  obtain ⟨a1, a2⟩ := fitsB_true ha
  obtain ⟨b1, b2⟩ := fitsB_true hb
  have x0 := absI_nn a
  have x1 := absI_le a1 a2
  have y0 := absI_nn b
  have y1 := absI_le b1 b2
  have HLa := hide (fun W : World => limbs_any (absI a) W x0 x1)
  have HLb := hide (fun W : World => limbs_any (absI b) W y0 y1)
  have HZa := hide (fun W : World => rsize_any a W a1 a2)
  have HZb := hide (fun W : World => rsize_any b W b1 b2)
  go_enter Try.func59, Try.ntmps59
  go_wp2_with (first | (go_at_call 47; refine (rfits_any _ _).mono ?_; rintro e w' ⟨rfl, rfl⟩) | (go_at_call 51; refine (HZa.out _).mono ?_; rintro e w' ⟨rfl, rfl⟩))
  refine (HLa.out _).mono ?_
  rintro e W1 ⟨v1, rfl, own1, B1⟩
  obtain ⟨gp, cp, rfl, lp, lp', hcp, cellp⟩ := own_cells own1
  clear own1
  go_wp2_with (go_at_call 51; refine (HZb.out _).mono ?_; rintro e W1 ⟨rfl, rfl⟩)
  refine (HLb.out _).mono ?_
  rintro e W2 ⟨v2, rfl, own2, B2⟩
  obtain ⟨gq, cq, rfl, lq, lq', hcq, cellq⟩ := own_cells own2
  clear own2
  obtain ⟨i0, hi, hz0, hz1, hz2⟩ := info_parts infoInt
  have CP := hide cellp
  have CQ := hide cellq
  clear cellp cellq
  go_wp2_with (at_make; refine wpList_make_full _ rfl _ _ 31 rfl W2.heap.size 3 i0 (.int .i64 0) 1 Try.underlying31 hi hz0 hz1 .i64 .i64 8 8 8 rfl rfl rfl rfl (by rw [hz2]; decide) (by decide) (Nat.le_refl _) ?_; intro W3 own3 gr3)
  have hst := st_start B1 B2 lp' lq' CP.out CQ.out own3 gr3
  clear own3 gr3 CP CQ B1 B2 lp lp' lq lq' hi hz0 hz1 hz2
  generalize W2.heap.size = gr at *
  go_wp2_with fail
  go_loopw [9] (fun i wr => ∃ n : Nat, n ≤ 4 ∧ i = .int .i64 n ∧ St w'.heap.size w' wr gp gq gr (lim (absI a) 4) (lim (absI b) 4) (outerR (lim (absI a) 4) (lim (absI b) 4) n) (4000000000000 * n)) (fun i _ => 4 - (intOf i).toNat)
  case atStart => exact ⟨0, by omega, rfl, hst⟩
  case round =>
    obtain ⟨n, hn, rfl, hst1⟩ := hrel
    clear hst
    by_cases hlt : n < 4
    · obtain ⟨wo, rfl⟩ : ∃ wo : World, wo = wr := ⟨_, rfl⟩
      go_wp2_with fail
      go_loopw [10] (fun k wr => ∃ m : Nat, m ≤ 4 ∧ k = .int .i64 m ∧ St w'.heap.size w' wr gp gq gr (lim (absI a) 4) (lim (absI b) 4) (innerR (lim (absI a) 4) (lim (absI b) 4) n m (outerR (lim (absI a) 4) (lim (absI b) 4) n)) (4000000000000 * n + 1000000000000 * m)) (fun k _ => 4 - (intOf k).toNat)
      case atStart => exact ⟨0, by omega, rfl, by simpa [innerR] using hst1⟩
      case round =>
        obtain ⟨m, hm, rfl, hst2⟩ := hrel
        clear hst1
        by_cases hlt2 : m < 4
        · have cr := hst2.r (n + m) (by omega)
          have cp' := hst2.p n hlt
          have cq' := hst2.q m hlt2
          have cf := hst2.f (n + m) (by omega)
          obtain ⟨r0, r1⟩ := hst2.bd (n + m)
          obtain ⟨p0, p1⟩ := lim_at (n := absI a) n
          obtain ⟨q0, q1⟩ := lim_at (n := absI b) m
          obtain ⟨z0, z1⟩ := prod_bd p0 p1 q0 q1
          have hst3 := hide (hst2.put (n + m) (by omega) ((innerR (lim (absI a) 4) (lim (absI b) 4) n m (outerR (lim (absI a) 4) (lim (absI b) 4) n)).getD (n + m) 0 + (lim (absI a) 4).getD n 0 * (lim (absI b) 4).getD m 0) (by omega) (c' := 4000000000000 * n + 1000000000000 * (m + 1 : Nat)) (by omega) (by omega)).drew
          have hst4 : Hid (St w'.heap.size w' (wr.setCell ⟨gr, n + m, none⟩ (.int .i64 ((innerR (lim (absI a) 4) (lim (absI b) 4) n m (outerR (lim (absI a) 4) (lim (absI b) 4) n)).getD (n + m) 0 + (lim (absI a) 4).getD n 0 * (lim (absI b) 4).getD m 0))).drew gp gq gr (lim (absI a) 4) (lim (absI b) 4) (innerR (lim (absI a) 4) (lim (absI b) 4) n (m + 1) (outerR (lim (absI a) 4) (lim (absI b) 4) n)) (4000000000000 * n + 1000000000000 * (m + 1 : Nat))) := hst3.out
          clear hst3 hst2
          generalize (innerR (lim (absI a) 4) (lim (absI b) 4) n m (outerR (lim (absI a) 4) (lim (absI b) 4) n)).getD (n + m) 0 = x at *
          generalize (lim (absI a) 4).getD n 0 = y at *
          generalize (lim (absI b) 4).getD m 0 = z at *
          have i1 : (n : Int) + (m : Int) < 8 := by omega
          have i2 : (n : Int) < 4 := by omega
          have i3 : (m : Int) < 4 := by omega
          go_wp2_with fail
          go_region
          clear cr cp' cq' cf
          go_wp2
          go_roundw
          case rel => exact ⟨m + 1, by omega, by go_num, hst4.out⟩
          case measure => simp [intOf]; omega
        · have : m = 4 := by omega
          subst this
          have hst5 : Hid (St w'.heap.size w' wr gp gq gr (lim (absI a) 4) (lim (absI b) 4) (outerR (lim (absI a) 4) (lim (absI b) 4) (n + 1)) (4000000000000 * (n + 1 : Nat))) := by
            have e : 4000000000000 * (n : Int) + 1000000000000 * ((4 : Nat) : Int) = 4000000000000 * ((n + 1 : Nat) : Int) := by omega
            rw [e] at hst2
            exact hst2
          clear hst2
          go_wp2
          go_roundw
          case rel => exact ⟨n + 1, by omega, by go_num, hst5.out⟩
          case measure => simp [intOf]; omega
    · have : n = 4 := by omega
      subst this
      have hst6 : St w'.heap.size w' wr gp gq gr (lim (absI a) 4) (lim (absI b) 4) (carryR (outerR (lim (absI a) 4) (lim (absI b) 4) 4) 0) (16000000000000 + 1000000000 * (0 : Nat)) := hst1
      clear hst1
      obtain ⟨wo, rfl⟩ : ∃ wo : World, wo = wr := ⟨_, rfl⟩
      go_wp2_with fail
      go_loopw [11] (fun i wr => ∃ n : Nat, n ≤ 7 ∧ i = .int .i64 n ∧ St w'.heap.size w' wr gp gq gr (lim (absI a) 4) (lim (absI b) 4) (carryR (outerR (lim (absI a) 4) (lim (absI b) 4) 4) n) (16000000000000 + 1000000000 * n)) (fun i _ => 7 - (intOf i).toNat)
      case atStart => exact ⟨0, by omega, rfl, hst6⟩
      case round =>
        obtain ⟨k, hk, rfl, hst7⟩ := hrel
        clear hst6
        by_cases hlt3 : k < 7
        · have cr := hst7.r k (by omega)
          have cr1 := hst7.r (k + 1) (by omega)
          have cf := hst7.f k (by omega)
          have cf1 := hst7.f (k + 1) (by omega)
          obtain ⟨r0, r1⟩ := hst7.bd k
          obtain ⟨s0, s1⟩ := hst7.bd (k + 1)
          have P1 := hst7.put (k + 1) (by omega) ((carryR (outerR (lim (absI a) 4) (lim (absI b) 4) 4) k).getD (k + 1) 0 + (carryR (outerR (lim (absI a) 4) (lim (absI b) 4) 4) k).getD k 0 / 1000000) (by omega) (c' := 16000000000000 + 1000000000 * (k + 1 : Nat)) (by omega) (by omega)
          have P2 := P1.put k (by omega) ((carryR (outerR (lim (absI a) 4) (lim (absI b) 4) 4) k).getD k 0 % 1000000) (by omega) (c' := 16000000000000 + 1000000000 * (k + 1 : Nat)) (by omega) (by omega)
          have hst8 : Hid (St w'.heap.size w' _ gp gq gr (lim (absI a) 4) (lim (absI b) 4) (carryR (outerR (lim (absI a) 4) (lim (absI b) 4) 4) (k + 1)) (16000000000000 + 1000000000 * (k + 1 : Nat))) := P2.drew
          have cr2 := P1.r k (by omega)
          have cf2 := P1.f k (by omega)
          rw [getD_set _ _ _ _ (by rw [hst7.len]; omega), if_neg (by omega)] at cr2
          clear P1 P2 hst7
          generalize (carryR (outerR (lim (absI a) 4) (lim (absI b) 4) 4) k).getD k 0 = x at *
          generalize (carryR (outerR (lim (absI a) 4) (lim (absI b) 4) 4) k).getD (k + 1) 0 = y at *
          have i1 : (k : Int) + 1 < 8 := by omega
          go_wp2_with fail
          go_region
          go_wp2
          go_roundw
          case rel => exact ⟨k + 1, by omega, by go_num, hst8.out⟩
          case measure => simp [intOf]; omega
        · have : k = 7 := by omega
          subst this
          have HE := hide (mulR_good ha hb)
          obtain ⟨r0, r1, r2, r3, r4, r5, r6, r7, eR, p0, q0, p1, q1, p2, q2, p3, q3, p4, q4, p5, q5, p6, q6, p7, eN⟩ := mul_digits (absI a) (absI b) x0 x1 y0 y1
          rw [eR] at hst7
          have c0 : wr.cell? ⟨gr, 0, none⟩ = some (.int .i64 r0) := hst7.r 0 (by omega)
          have c1 : wr.cell? ⟨gr, 1, none⟩ = some (.int .i64 r1) := hst7.r 1 (by omega)
          have c2 : wr.cell? ⟨gr, 2, none⟩ = some (.int .i64 r2) := hst7.r 2 (by omega)
          have c3 : wr.cell? ⟨gr, 3, none⟩ = some (.int .i64 r3) := hst7.r 3 (by omega)
          have c4 : wr.cell? ⟨gr, 4, none⟩ = some (.int .i64 r4) := hst7.r 4 (by omega)
          have c5 : wr.cell? ⟨gr, 5, none⟩ = some (.int .i64 r5) := hst7.r 5 (by omega)
          have c6 : wr.cell? ⟨gr, 6, none⟩ = some (.int .i64 r6) := hst7.r 6 (by omega)
          have c7 : wr.cell? ⟨gr, 7, none⟩ = some (.int .i64 r7) := hst7.r 7 (by omega)
          have q7 : r7 ≤ 16000000000000 + 1000000000 * ((7 : Nat) : Int) := (hst7.bd 7).2
          have FB := hst7.b
          clear hst7 eR HLa HLb HZa HZb ha hb x0 x1 y0 y1
          generalize absI a * absI b = N at *
          by_cases k5 : 0 < r5 + r6 + r7
          · have hg : 1000000000000000000 < halfEven N 1000000 := by
              have := half_ge (N := N) (d := 1000000); omega
            rw [if_pos hg] at HE
            clear eN hg
            go_wp2_with fail
            go_quiet (fail)
            go_wp2
            go_ret2
            exact ⟨by rw [HE.out]; rfl, below_drewN FB _⟩
          · have t5 : decide (0 < r5 + r6 + r7) = false := by simp [k5]
            by_cases k4 : 1 < r4
            · have hg : 1000000000000000000 < halfEven N 1000000 := by
                have := half_ge (N := N) (d := 1000000); omega
              rw [if_pos hg] at HE
              clear eN hg
              go_wp2_with fail
              go_quiet (fail)
              go_wp2
              go_ret2
              exact ⟨by rw [HE.out]; rfl, below_drewN FB _⟩
            · have e1 : N / 1000000 = r1 + 1000000 * (r2 + 1000000 * (r3 + 1000000 * r4)) := by omega
              have e2 : N % 1000000 = r0 := by omega
              have HV : Hid (∀ W : World, Calls Try.prog 81 #[.int .i64 (r1 + 1000000 * (r2 + 1000000 * (r3 + 1000000 * r4))), .int .i64 r0, .int .i64 1000000] W fun e w' => e = .returned (.int .i64 (halfEven N 1000000)) ∧ w' = W) := fun W => by
                have h := even_any (r1 + 1000000 * (r2 + 1000000 * (r3 + 1000000 * r4))) r0 1000000 W (by omega) (by omega) (by omega) (by omega) (by decide)
                rw [show evenR (r1 + 1000000 * (r2 + 1000000 * (r3 + 1000000 * r4))) r0 1000000 = halfEven N 1000000 from by rw [← e1, ← e2]; rfl] at h
                exact h
              have h1 : 0 ≤ halfEven N 1000000 := halfEven_nn (by omega) (by decide)
              have h2 : halfEven N 1000000 ≤ 4000000000000000000 := by unfold halfEven; split <;> omega
              generalize halfEven N 1000000 = E at *
              clear e1 e2 eN
              go_wp2_with fail
              go_quiet (fail)
              have FB2 : Below w'.heap.size w' (wr.drewN nq) := below_drewN FB _
              have d0 : (wr.drewN nq).cell? ⟨gr, 0, none⟩ = some (.int .i64 r0) := c0
              have d1 : (wr.drewN nq).cell? ⟨gr, 1, none⟩ = some (.int .i64 r1) := c1
              have d2 : (wr.drewN nq).cell? ⟨gr, 2, none⟩ = some (.int .i64 r2) := c2
              have d3 : (wr.drewN nq).cell? ⟨gr, 3, none⟩ = some (.int .i64 r3) := c3
              have d4 : (wr.drewN nq).cell? ⟨gr, 4, none⟩ = some (.int .i64 r4) := c4
              clear c0 c1 c2 c3 c4 c5 c6 c7 FB
              generalize wr.drewN nq = wx at *
              go_wp2_with fail
              go_quiet ((go_at_call 81; exact Calls.quiet_of_same (HV.out _)))
              by_cases hbig : 1000000000000000000 < E
              · rw [if_pos hbig] at HE
                go_wp2
                go_ret2
                exact ⟨by rw [HE.out]; rfl, below_drewN FB2 _⟩
              · rw [if_neg hbig] at HE
                by_cases sa : a < 0
                · by_cases sb : b < 0
                  · have e : put (decide (a < 0) != decide (b < 0)) E = E := by simp [put, sa, sb]
                    rw [e] at HE
                    clear e
                    have ta : decide (a < 0) = true := by simp [sa]
                    have tb : decide (b < 0) = true := by simp [sb]
                    go_wp2
                    go_ret2
                    exact ⟨by rw [HE.out]; rfl, below_drewN FB2 _⟩
                  · have e : put (decide (a < 0) != decide (b < 0)) E = -E := by simp [put, sa, sb]
                    rw [e] at HE
                    clear e
                    have ta : decide (a < 0) = true := by simp [sa]
                    have tb : decide (b < 0) = false := by simp [sb]
                    go_wp2
                    go_ret2
                    exact ⟨by rw [HE.out]; rfl, below_drewN FB2 _⟩
                · by_cases sb : b < 0
                  · have e : put (decide (a < 0) != decide (b < 0)) E = -E := by simp [put, sa, sb]
                    rw [e] at HE
                    clear e
                    have ta : decide (a < 0) = false := by simp [sa]
                    have tb : decide (b < 0) = true := by simp [sb]
                    go_wp2
                    go_ret2
                    exact ⟨by rw [HE.out]; rfl, below_drewN FB2 _⟩
                  · have e : put (decide (a < 0) != decide (b < 0)) E = E := by simp [put, sa, sb]
                    rw [e] at HE
                    clear e
                    have ta : decide (a < 0) = false := by simp [sa]
                    have tb : decide (b < 0) = false := by simp [sb]
                    go_wp2
                    go_ret2
                    exact ⟨by rw [HE.out]; rfl, below_drewN FB2 _⟩
end
end Go.Proofs.Ytfopebfejmlhbaa
