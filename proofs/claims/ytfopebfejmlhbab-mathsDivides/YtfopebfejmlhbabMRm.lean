/-
  Out of RefDiv, Limbs, MulMath, RefMul, what is asked for (laid by pack9.py).
-/
import Derived.Test.YtfopebfejmlhbabMDiv
import Derived.Test.YtfopebfejmlhbabMNum
import Derived.BigQuiet
import Derived.BigRegion
import Derived.Deep.QuietTactic
import Derived.Deep.RegionWith
import Derived.Handy
import Derived.Laws.EntriesVeiled
import Derived.WalkKit
import Derived.WalkLawsBesides
import Derived.WalkSpells
namespace Go.Proofs.Ytfopebfejmlhbab
section
open Go.RowKit
theorem quoR_eq {N d : Int} (neg : Bool) (hN : 0 ≤ N) (hd : 0 < d) : quoR N d neg = if 1000000000000000000 < halfEven N d then (0, 3) else (put neg (halfEven N d), 0) := by
  have h0 := halfEven_nn hN hd
  unfold quoR nearN
  by_cases h : 1000000000000000000 < N / d
  · have : N / d ≤ halfEven N d := by unfold halfEven; split <;> omega
    rw [if_pos h, if_neg (by decide), if_pos (by omega)]
  · rw [if_neg h, if_pos rfl]; exact told_put neg h0
theorem step_quo {A B q r : Int} (hB : 0 < B) (h1 : A / B = q) (h2 : A % B = r) : A * 10 / B = 10 * q + 10 * r / B ∧ A * 10 % B = 10 * r % B := by
  have e := Int.mul_ediv_add_emod A B
  rw [h1, h2] at e
  have e2 : A * 10 = 10 * r + 10 * q * B := by rw [← e, Int.mul_assoc, Int.mul_comm q B]; omega
  constructor
  · rw [e2, Int.add_mul_ediv_right _ _ (Int.ne_of_gt hB)]; omega
  · rw [e2, Int.add_mul_emod_self_right]
theorem quo_lt {A B p : Int} (hB : 0 < B) (hp : 0 < p) (h : A / B ≤ 1000000000000) : A * p / B < 1000000000001 * p := by
  refine Int.ediv_lt_of_lt_mul hB ?_
  have h1 : A < 1000000000001 * B := by
    have := Int.lt_ediv_add_one_mul_self A hB
    have h3 : (A / B + 1) * B ≤ 1000000000001 * B := Int.mul_le_mul_of_nonneg_right (by omega) (by omega)
    omega
  have h2 : A * p < 1000000000001 * B * p := Int.mul_lt_mul_of_pos_right h1 hp
  rw [Int.mul_right_comm] at h2; exact h2
end
section
open Go.RowKit
/-- What is left behind k digits. -/
def nk (n : Int) : Nat → Int
  | 0 => n
  | k + 1 => nk n k / 1000000
theorem nk_succ (n : Int) (k : Nat) : nk n (k + 1) = nk n k / 1000000 := rfl
theorem nk_bd {n : Int} (h0 : 0 ≤ n) (h1 : n ≤ 1000000000000000000) : ∀ k, 0 ≤ nk n k ∧ nk n k ≤ 1000000000000000000
  | 0 => ⟨h0, h1⟩
  | k + 1 => by have := nk_bd h0 h1 k; rw [nk_succ]; omega
/-- The first k digits. -/
def lim (n : Int) (k : Nat) : List Int := (List.range k).map fun j => nk n j % 1000000
theorem lim_succ (n : Int) (k : Nat) : lim n (k + 1) = lim n k ++ [nk n k % 1000000] := by
  unfold lim; rw [List.range_succ, List.map_append]; rfl
theorem lim_len (n : Int) (k : Nat) : (lim n k).length = k := by simp [lim]
theorem infoInt : (Try.prog.info? 3).map (fun i => (i.zero, i.size, i.bytes)) = some (some (.int .i64 0), 1, 8) := by kernel_rfl
theorem lim_step {w wr w1 : World} {n : Int} {k : Nat} {v v' : Value} (o : Obj)
    (hnx : Below w.heap.size w wr) (hown : wr.ownsRow w.heap.size 3 1 v k ((lim n k).map (Value.int .i64)))
    (hown' : w1.ownsRow w.heap.size 3 1 v' (k + 1) ((lim n k).map (Value.int .i64) ++ [.int .i64 (nk n k % 1000000)])) (hgrow : (wr.alloc o).grownBy w1 v.ownBlock) :
    w1.ownsRow w.heap.size 3 1 v' (k + 1) ((lim n (k + 1)).map (Value.int .i64)) ∧ Below w.heap.size w w1 := by
  refine ⟨by rw [lim_succ, List.map_append]; exact hown', ?_⟩
  refine (hnx.alloc hnx.size o).grown hgrow ?_ (fun j hj => (hown.lt j hj).1)
  have := hnx.size; simp; omega
end
section
open Go.RowKit
/-- One product is added. -/
def addS (R : List Int) (j : Nat) (x : Int) : List Int := R.set j (R.getD j 0 + x)
/-- One row of the products. -/
def innerR (P Q : List Int) (i : Nat) : Nat → List Int → List Int
  | 0, R => R
  | k + 1, R => addS (innerR P Q i k R) (i + k) (P.getD i 0 * Q.getD k 0)
/-- All rows. -/
def outerR (P Q : List Int) : Nat → List Int
  | 0 => [0, 0, 0, 0, 0, 0, 0, 0]
  | i + 1 => innerR P Q i 4 (outerR P Q i)
/-- What is over a million is carried on. -/
def carryS (R : List Int) (i : Nat) : List Int := (R.set (i + 1) (R.getD (i + 1) 0 + R.getD i 0 / 1000000)).set i (R.getD i 0 % 1000000)
def carryR (R : List Int) : Nat → List Int
  | 0 => R
  | i + 1 => carryS (carryR R i) i
theorem outer4 (p0 p1 p2 p3 q0 q1 q2 q3 : Int) : outerR [p0, p1, p2, p3] [q0, q1, q2, q3] 4 =
    [0 + p0 * q0, 0 + p0 * q1 + p1 * q0, 0 + p0 * q2 + p1 * q1 + p2 * q0, 0 + p0 * q3 + p1 * q2 + p2 * q1 + p3 * q0, 0 + p1 * q3 + p2 * q2 + p3 * q1, 0 + p2 * q3 + p3 * q2, 0 + p3 * q3, 0] := by
  have add0 : ∀ r0 r1 r2 r3 r4 r5 r6 r7 x : Int, addS [r0, r1, r2, r3, r4, r5, r6, r7] 0 x = [r0 + x, r1, r2, r3, r4, r5, r6, r7] := fun _ _ _ _ _ _ _ _ _ => rfl
  have add1 : ∀ r0 r1 r2 r3 r4 r5 r6 r7 x : Int, addS [r0, r1, r2, r3, r4, r5, r6, r7] 1 x = [r0, r1 + x, r2, r3, r4, r5, r6, r7] := fun _ _ _ _ _ _ _ _ _ => rfl
  have add2 : ∀ r0 r1 r2 r3 r4 r5 r6 r7 x : Int, addS [r0, r1, r2, r3, r4, r5, r6, r7] 2 x = [r0, r1, r2 + x, r3, r4, r5, r6, r7] := fun _ _ _ _ _ _ _ _ _ => rfl
  have add3 : ∀ r0 r1 r2 r3 r4 r5 r6 r7 x : Int, addS [r0, r1, r2, r3, r4, r5, r6, r7] 3 x = [r0, r1, r2, r3 + x, r4, r5, r6, r7] := fun _ _ _ _ _ _ _ _ _ => rfl
  have add4 : ∀ r0 r1 r2 r3 r4 r5 r6 r7 x : Int, addS [r0, r1, r2, r3, r4, r5, r6, r7] 4 x = [r0, r1, r2, r3, r4 + x, r5, r6, r7] := fun _ _ _ _ _ _ _ _ _ => rfl
  have add5 : ∀ r0 r1 r2 r3 r4 r5 r6 r7 x : Int, addS [r0, r1, r2, r3, r4, r5, r6, r7] 5 x = [r0, r1, r2, r3, r4, r5 + x, r6, r7] := fun _ _ _ _ _ _ _ _ _ => rfl
  have add6 : ∀ r0 r1 r2 r3 r4 r5 r6 r7 x : Int, addS [r0, r1, r2, r3, r4, r5, r6, r7] 6 x = [r0, r1, r2, r3, r4, r5, r6 + x, r7] := fun _ _ _ _ _ _ _ _ _ => rfl
  show addS (addS (addS (addS (addS (addS (addS (addS (addS (addS (addS (addS (addS (addS (addS (addS [0, 0, 0, 0, 0, 0, 0, 0] 0 (p0 * q0)) 1 (p0 * q1)) 2 (p0 * q2)) 3 (p0 * q3)) 1 (p1 * q0)) 2 (p1 * q1)) 3 (p1 * q2)) 4 (p1 * q3)) 2 (p2 * q0)) 3 (p2 * q1)) 4 (p2 * q2)) 5 (p2 * q3)) 3 (p3 * q0)) 4 (p3 * q1)) 5 (p3 * q2)) 6 (p3 * q3) = _
  rw [add0, add1, add2, add3, add1, add2, add3, add4, add2, add3, add4, add5, add3, add4, add5, add6]
theorem carry7 (r0 r1 r2 r3 r4 r5 r6 r7 : Int) : ∃ s1 s2 s3 s4 s5 s6 s7 : Int, s1 = r1 + r0 / 1000000 ∧ s2 = r2 + s1 / 1000000 ∧ s3 = r3 + s2 / 1000000 ∧ s4 = r4 + s3 / 1000000 ∧ s5 = r5 + s4 / 1000000 ∧ s6 = r6 + s5 / 1000000 ∧ s7 = r7 + s6 / 1000000 ∧
    carryR [r0, r1, r2, r3, r4, r5, r6, r7] 7 = [r0 % 1000000, s1 % 1000000, s2 % 1000000, s3 % 1000000, s4 % 1000000, s5 % 1000000, s6 % 1000000, s7] := by
  refine ⟨_, _, _, _, _, _, _, rfl, rfl, rfl, rfl, rfl, rfl, rfl, ?_⟩
  have c0 : ∀ r0 r1 r2 r3 r4 r5 r6 r7 : Int, carryS [r0, r1, r2, r3, r4, r5, r6, r7] 0 = [r0 % 1000000, r1 + r0 / 1000000, r2, r3, r4, r5, r6, r7] := fun _ _ _ _ _ _ _ _ => rfl
  have c1 : ∀ r0 r1 r2 r3 r4 r5 r6 r7 : Int, carryS [r0, r1, r2, r3, r4, r5, r6, r7] 1 = [r0, r1 % 1000000, r2 + r1 / 1000000, r3, r4, r5, r6, r7] := fun _ _ _ _ _ _ _ _ => rfl
  have c2 : ∀ r0 r1 r2 r3 r4 r5 r6 r7 : Int, carryS [r0, r1, r2, r3, r4, r5, r6, r7] 2 = [r0, r1, r2 % 1000000, r3 + r2 / 1000000, r4, r5, r6, r7] := fun _ _ _ _ _ _ _ _ => rfl
  have c3 : ∀ r0 r1 r2 r3 r4 r5 r6 r7 : Int, carryS [r0, r1, r2, r3, r4, r5, r6, r7] 3 = [r0, r1, r2, r3 % 1000000, r4 + r3 / 1000000, r5, r6, r7] := fun _ _ _ _ _ _ _ _ => rfl
  have c4 : ∀ r0 r1 r2 r3 r4 r5 r6 r7 : Int, carryS [r0, r1, r2, r3, r4, r5, r6, r7] 4 = [r0, r1, r2, r3, r4 % 1000000, r5 + r4 / 1000000, r6, r7] := fun _ _ _ _ _ _ _ _ => rfl
  have c5 : ∀ r0 r1 r2 r3 r4 r5 r6 r7 : Int, carryS [r0, r1, r2, r3, r4, r5, r6, r7] 5 = [r0, r1, r2, r3, r4, r5 % 1000000, r6 + r5 / 1000000, r7] := fun _ _ _ _ _ _ _ _ => rfl
  have c6 : ∀ r0 r1 r2 r3 r4 r5 r6 r7 : Int, carryS [r0, r1, r2, r3, r4, r5, r6, r7] 6 = [r0, r1, r2, r3, r4, r5, r6 % 1000000, r7 + r6 / 1000000] := fun _ _ _ _ _ _ _ _ => rfl
  show carryS (carryS (carryS (carryS (carryS (carryS (carryS [r0, r1, r2, r3, r4, r5, r6, r7] 0) 1) 2) 3) 4) 5) 6 = _
  rw [c0, c1, c2, c3, c4, c5, c6]
theorem lim4 (n : Int) : lim n 4 = [n % 1000000, n / 1000000 % 1000000, n / 1000000 / 1000000 % 1000000, n / 1000000 / 1000000 / 1000000 % 1000000] := rfl
theorem row_mul (p q0 q1 q2 q3 : Int) : p * (q0 + 1000000 * q1 + 1000000000000 * q2 + 1000000000000000000 * q3) = p * q0 + 1000000 * (p * q1) + 1000000000000 * (p * q2) + 1000000000000000000 * (p * q3) := by
  rw [Int.mul_add, Int.mul_add, Int.mul_add, Int.mul_left_comm p 1000000, Int.mul_left_comm p 1000000000000, Int.mul_left_comm p 1000000000000000000]
/-- The digits of a product. -/
theorem mul_digits (A C : Int) (a0 : 0 ≤ A) (a1 : A ≤ 1000000000000000000) (c0 : 0 ≤ C) (c1 : C ≤ 1000000000000000000) : ∃ r0 r1 r2 r3 r4 r5 r6 r7 : Int,
    carryR (outerR (lim A 4) (lim C 4) 4) 7 = [r0, r1, r2, r3, r4, r5, r6, r7] ∧ 0 ≤ r0 ∧ r0 < 1000000 ∧ 0 ≤ r1 ∧ r1 < 1000000 ∧ 0 ≤ r2 ∧ r2 < 1000000 ∧ 0 ≤ r3 ∧ r3 < 1000000 ∧ 0 ≤ r4 ∧ r4 < 1000000 ∧ 0 ≤ r5 ∧ r5 < 1000000 ∧ 0 ≤ r6 ∧ r6 < 1000000 ∧ 0 ≤ r7 ∧
    A * C = r0 + 1000000 * (r1 + 1000000 * (r2 + 1000000 * (r3 + 1000000 * (r4 + 1000000 * (r5 + 1000000 * (r6 + 1000000 * r7)))))) := by
  rw [lim4, lim4]
  obtain ⟨p0, hp0⟩ : ∃ x, x = A % 1000000 := ⟨_, rfl⟩
  obtain ⟨p1, hp1⟩ : ∃ x, x = A / 1000000 % 1000000 := ⟨_, rfl⟩
  obtain ⟨p2, hp2⟩ : ∃ x, x = A / 1000000 / 1000000 % 1000000 := ⟨_, rfl⟩
  obtain ⟨p3, hp3⟩ : ∃ x, x = A / 1000000 / 1000000 / 1000000 % 1000000 := ⟨_, rfl⟩
  obtain ⟨q0, hq0⟩ : ∃ x, x = C % 1000000 := ⟨_, rfl⟩
  obtain ⟨q1, hq1⟩ : ∃ x, x = C / 1000000 % 1000000 := ⟨_, rfl⟩
  obtain ⟨q2, hq2⟩ : ∃ x, x = C / 1000000 / 1000000 % 1000000 := ⟨_, rfl⟩
  obtain ⟨q3, hq3⟩ : ∃ x, x = C / 1000000 / 1000000 / 1000000 % 1000000 := ⟨_, rfl⟩
  have eA : A = p0 + 1000000 * p1 + 1000000000000 * p2 + 1000000000000000000 * p3 := by omega
  have eC : C = q0 + 1000000 * q1 + 1000000000000 * q2 + 1000000000000000000 * q3 := by omega
  rw [← hp0, ← hp1, ← hp2, ← hp3, ← hq0, ← hq1, ← hq2, ← hq3, outer4]
  have hP : 0 ≤ p0 ∧ 0 ≤ p1 ∧ 0 ≤ p2 ∧ 0 ≤ p3 := by omega
  have hQ : 0 ≤ q0 ∧ 0 ≤ q1 ∧ 0 ≤ q2 ∧ 0 ≤ q3 := by omega
  clear hp0 hp1 hp2 hp3 hq0 hq1 hq2 hq3
  obtain ⟨P0, P1, P2, P3⟩ := hP
  obtain ⟨Q0, Q1, Q2, Q3⟩ := hQ
  have eN : A * C = (p0 * q0 + 1000000 * (p0 * q1) + 1000000000000 * (p0 * q2) + 1000000000000000000 * (p0 * q3)) + 1000000 * (p1 * q0 + 1000000 * (p1 * q1) + 1000000000000 * (p1 * q2) + 1000000000000000000 * (p1 * q3)) + 1000000000000 * (p2 * q0 + 1000000 * (p2 * q1) + 1000000000000 * (p2 * q2) + 1000000000000000000 * (p2 * q3)) + 1000000000000000000 * (p3 * q0 + 1000000 * (p3 * q1) + 1000000000000 * (p3 * q2) + 1000000000000000000 * (p3 * q3)) := by
    have e : A * C = (p0 + 1000000 * p1 + 1000000000000 * p2 + 1000000000000000000 * p3) * C := by rw [← eA]
    rw [e, Int.add_mul, Int.add_mul, Int.add_mul, Int.mul_assoc, Int.mul_assoc, Int.mul_assoc, eC, row_mul p0 q0 q1 q2 q3, row_mul p1 q0 q1 q2 q3, row_mul p2 q0 q1 q2 q3, row_mul p3 q0 q1 q2 q3]
  have n00 := Int.mul_nonneg P0 Q0; have n01 := Int.mul_nonneg P0 Q1; have n02 := Int.mul_nonneg P0 Q2; have n03 := Int.mul_nonneg P0 Q3
  have n10 := Int.mul_nonneg P1 Q0; have n11 := Int.mul_nonneg P1 Q1; have n12 := Int.mul_nonneg P1 Q2; have n13 := Int.mul_nonneg P1 Q3
  have n20 := Int.mul_nonneg P2 Q0; have n21 := Int.mul_nonneg P2 Q1; have n22 := Int.mul_nonneg P2 Q2; have n23 := Int.mul_nonneg P2 Q3
  have n30 := Int.mul_nonneg P3 Q0; have n31 := Int.mul_nonneg P3 Q1; have n32 := Int.mul_nonneg P3 Q2; have n33 := Int.mul_nonneg P3 Q3
  generalize A * C = N at *
  clear eA eC P0 P1 P2 P3 Q0 Q1 Q2 Q3 a0 a1 c0 c1
  generalize p0 * q0 = x00 at *
  generalize p0 * q1 = x01 at *
  generalize p0 * q2 = x02 at *
  generalize p0 * q3 = x03 at *
  generalize p1 * q0 = x10 at *
  generalize p1 * q1 = x11 at *
  generalize p1 * q2 = x12 at *
  generalize p1 * q3 = x13 at *
  generalize p2 * q0 = x20 at *
  generalize p2 * q1 = x21 at *
  generalize p2 * q2 = x22 at *
  generalize p2 * q3 = x23 at *
  generalize p3 * q0 = x30 at *
  generalize p3 * q1 = x31 at *
  generalize p3 * q2 = x32 at *
  generalize p3 * q3 = x33 at *
  obtain ⟨s1, s2, s3, s4, s5, s6, s7, h1, h2, h3, h4, h5, h6, h7, e⟩ := carry7 (0 + x00) (0 + x01 + x10) (0 + x02 + x11 + x20) (0 + x03 + x12 + x21 + x30) (0 + x13 + x22 + x31) (0 + x23 + x32) (0 + x33) 0
  refine ⟨_, _, _, _, _, _, _, _, e, by omega, by omega, by omega, by omega, by omega, by omega, by omega, by omega, by omega, by omega, by omega, by omega, by omega, by omega, by omega, ?_⟩
  clear e
  have k0 := Int.mul_ediv_add_emod (0 + x00) 1000000
  have k1 := Int.mul_ediv_add_emod s1 1000000
  have k2 := Int.mul_ediv_add_emod s2 1000000
  have k3 := Int.mul_ediv_add_emod s3 1000000
  have k4 := Int.mul_ediv_add_emod s4 1000000
  have k5 := Int.mul_ediv_add_emod s5 1000000
  have k6 := Int.mul_ediv_add_emod s6 1000000
  generalize (0 + x00) / 1000000 = d0 at *
  generalize (0 + x00) % 1000000 = m0 at *
  generalize s1 / 1000000 = d1 at *
  generalize s1 % 1000000 = m1 at *
  generalize s2 / 1000000 = d2 at *
  generalize s2 % 1000000 = m2 at *
  generalize s3 / 1000000 = d3 at *
  generalize s3 % 1000000 = m3 at *
  generalize s4 / 1000000 = d4 at *
  generalize s4 % 1000000 = m4 at *
  generalize s5 / 1000000 = d5 at *
  generalize s5 % 1000000 = m5 at *
  generalize s6 / 1000000 = d6 at *
  generalize s6 % 1000000 = m6 at *
  omega
end
section
open Go.RowKit
/-- What the rows of digits hold. -/
structure St (B : Nat) (w wr : World) (gp gq gr : Nat) (P Q R : List Int) (c : Int) : Prop where
  p : ∀ j, j < 4 → wr.cell? ⟨gp, j, none⟩ = some (.int .i64 (P.getD j 0))
  q : ∀ j, j < 4 → wr.cell? ⟨gq, j, none⟩ = some (.int .i64 (Q.getD j 0))
  r : ∀ j, j < 8 → wr.cell? ⟨gr, j, none⟩ = some (.int .i64 (R.getD j 0))
  f : ∀ j, j < 8 → wr.frozen? ⟨gr, j, none⟩ = false
  len : R.length = 8
  np : gp ≠ gr
  nq : gq ≠ gr
  b : Below B w wr
  lt : B ≤ gr
  bd : ∀ j, 0 ≤ R.getD j 0 ∧ R.getD j 0 ≤ c
theorem getD_set (l : List Int) (i j : Nat) (x : Int) (h : i < l.length) : (l.set i x).getD j 0 = if i = j then x else l.getD j 0 := by
  by_cases e : i = j
  · subst e; simp [h]
  · simp [e]
theorem St.drew {B : Nat} {w wr : World} {gp gq gr : Nat} {P Q R : List Int} {c : Int} (h : St B w wr gp gq gr P Q R c) : St B w wr.drew gp gq gr P Q R c :=
  ⟨h.p, h.q, h.r, h.f, h.len, h.np, h.nq, h.b.drew, h.lt, h.bd⟩
/-- A store into the row. -/
theorem St.put {B : Nat} {w wr : World} {gp gq gr : Nat} {P Q R : List Int} {c c' : Int} (h : St B w wr gp gq gr P Q R c) (i : Nat) (hi : i < 8) (x : Int) (h0 : 0 ≤ x) (h1 : x ≤ c') (hc : c ≤ c') :
    St B w (wr.setCell ⟨gr, i, none⟩ (.int .i64 x)) gp gq gr P Q (R.set i x) c' := by
  refine ⟨fun j hj => ?_, fun j hj => ?_, fun j hj => ?_, fun j hj => ?_, by rw [List.length_set]; exact h.len, h.np, h.nq, h.b.setCell h.lt _, h.lt, fun j => ?_⟩
  · rw [World.cell?_setCell_other _ _ _ _ (by simp; intro e; exact absurd e.symm h.np)]; exact h.p j hj
  · rw [World.cell?_setCell_other _ _ _ _ (by simp; intro e; exact absurd e.symm h.nq)]; exact h.q j hj
  · rw [getD_set _ _ _ _ (by rw [h.len]; exact hi)]
    by_cases e : i = j
    · subst e; rw [if_pos rfl]; exact World.cell?_setCell_same _ _ _ (h.r i hi)
    · rw [if_neg e, World.cell?_setCell_other _ _ _ _ (by intro e2; exact e (Addr.mk.inj e2).2.1)]; exact h.r j hj
  · rw [World.frozen?_setCell]; exact h.f j hj
  · rw [getD_set _ _ _ _ (by rw [h.len]; exact hi)]
    have := h.bd j
    split <;> omega
theorem own_cells {w' : World} {base : Nat} {v : Value} {xs : List Value} (h : w'.ownsRow base 3 1 v 4 xs) : ∃ g cap, v = .slice (some ⟨g, 0, none⟩) 4 cap ∧ base ≤ g ∧ g < w'.heap.size ∧ 4 ≤ cap ∧ ∀ j, j < 4 → w'.cell? ⟨g, j, none⟩ = xs[j]? := by
  have h' := h
  obtain ⟨_, h | ⟨g, cap, cur, rfl, hb, hh, hc, _, _, _⟩⟩ := h
  · exact absurd h.2 (by decide)
  · refine ⟨g, cap, rfl, hb, ?_, hc, fun j hj => h'.cellAt j (by omega)⟩
    rcases Nat.lt_or_ge g w'.heap.size with h2 | h2
    · exact h2
    · rw [Array.getElem?_eq_none h2] at hh; cases hh
theorem map_at (l : List Int) (j : Nat) (h : j < l.length) : (l.map (Value.int .i64))[j]? = some (.int .i64 (l.getD j 0)) := by
  rw [List.getElem?_map, List.getElem?_eq_getElem h]
  simp [h]
theorem made8 : (madeCells (Value.int .i64 0).cells (8 * 1)).toList = [.int .i64 0, .int .i64 0, .int .i64 0, .int .i64 0, .int .i64 0, .int .i64 0, .int .i64 0, .int .i64 0] := by kernel_rfl
theorem st_start {w W1 W2 W3 : World} {A C : Int} {gp gq : Nat} (B1 : Below w.heap.size w W1) (B2 : Below W1.heap.size W1 W2)
    (lp' : gp < W1.heap.size) (lq' : gq < W2.heap.size)
    (cp : ∀ j, j < 4 → W1.cell? ⟨gp, j, none⟩ = ((lim A 4).map (Value.int .i64))[j]?) (cq : ∀ j, j < 4 → W2.cell? ⟨gq, j, none⟩ = ((lim C 4).map (Value.int .i64))[j]?)
    (own : W3.ownsRow W2.heap.size 3 1 (.slice (some ⟨W2.heap.size, 0, none⟩) 8 8) 8 (madeCells (Value.int .i64 0).cells (8 * 1)).toList) (gr : W2.grownBy W3 none) :
    St w.heap.size w W3 gp gq W2.heap.size (lim A 4) (lim C 4) (outerR (lim A 4) (lim C 4) 0) 0 := by
  have s1 := B1.size
  have s2 := B2.size
  have up : ∀ (g j : Nat), g < W2.heap.size → W3.cell? ⟨g, j, none⟩ = W2.cell? ⟨g, j, none⟩ := fun g j hg => World.cell?_of_block (a := ⟨g, j, none⟩) (gr.block g hg (by simp))
  refine ⟨fun j hj => ?_, fun j hj => ?_, fun j hj => ?_, fun j hj => ?_, rfl, by omega, by omega, ?_, by omega, fun j => ?_⟩
  · rw [up gp j (by omega), B2.cell (p := ⟨gp, j, none⟩) lp', cp j hj]
    exact map_at _ _ (by rw [lim_len]; exact hj)
  · rw [up gq j lq', cq j hj]
    exact map_at _ _ (by rw [lim_len]; exact hj)
  · rw [own.cellAt j (by omega), made8]
    match j, hj with
    | 0, _ => rfl
    | 1, _ => rfl
    | 2, _ => rfl
    | 3, _ => rfl
    | 4, _ => rfl
    | 5, _ => rfl
    | 6, _ => rfl
    | 7, _ => rfl
  · exact own.frozenAt j
  · exact (B1.trans (B2.mono s1)).trans ⟨gr.os, gr.tape, gr.output, gr.size, fun k hk => gr.block k (by omega) (by simp)⟩
  · show 0 ≤ ([0, 0, 0, 0, 0, 0, 0, 0] : List Int).getD j 0 ∧ ([0, 0, 0, 0, 0, 0, 0, 0] : List Int).getD j 0 ≤ 0
    match j with
    | 0 => decide
    | 1 => decide
    | 2 => decide
    | 3 => decide
    | 4 => decide
    | 5 => decide
    | 6 => decide
    | 7 => decide
    | j + 8 => simp
theorem lim_at {n : Int} (j : Nat) : 0 ≤ (lim n 4).getD j 0 ∧ (lim n 4).getD j 0 < 1000000 := by
  by_cases h : j < 4
  · unfold lim
    rw [List.getD_eq_getElem?_getD, List.getElem?_map, List.getElem?_range h]
    simp; omega
  · rw [List.getD_eq_getElem?_getD, List.getElem?_eq_none (by rw [lim_len]; omega)]; simp
theorem mulR_good {a b : Int} (ha : fitsB a = true) (hb : fitsB b = true) : mulR a b = if 1000000000000000000 < halfEven (absI a * absI b) 1000000 then (0, 3) else (put (decide (a < 0) != decide (b < 0)) (halfEven (absI a * absI b) 1000000), 0) := by
  rw [← quoR_eq _ (Int.mul_nonneg (absI_nn a) (absI_nn b)) (by decide)]; simp [mulR, ha, hb]
theorem half_ge {N d : Int} : N / d ≤ halfEven N d := by unfold halfEven; split <;> omega
theorem prod_bd {x y : Int} (h0 : 0 ≤ x) (h1 : x < 1000000) (k0 : 0 ≤ y) (k1 : y < 1000000) : 0 ≤ x * y ∧ x * y ≤ 1000000000000 := by
  refine ⟨Int.mul_nonneg h0 k0, ?_⟩
  have : x * y ≤ 1000000 * 1000000 := Int.mul_le_mul (by omega) (by omega) k0 (by omega)
  omega
end
end Go.Proofs.Ytfopebfejmlhbab
