/-
  Plain mathematics of the answer's product: digits of a million each.
-/
import Derived.Test.YtjhldifilfkebaaDoorLimbs
namespace Go.Proofs.YtjhldifilfkebaaDoor
open Go.RowKit

/-- One product is added. -/
def addS (R : List Int) (j : Nat) (x : Int) : List Int := R.set j (R.getD j 0 + x)
/-- One row of the products. -/
def innerR (P Q : List Int) (i : Nat) : Nat → List Int → List Int
  | 0, R => R
  | k + 1, R => addS (innerR P Q i k R) (i + k) (P.getD i 0 * Q.getD k 0)
/-- All rows. -/
def outerR (P Q : List Int) : Nat → List Int
  | 0 => [0, 0, 0, 0, 0, 0, 0, 0]
  | i + 1 => innerR P Q i 4 (outerR P Q i)
/-- What is over a million is carried on. -/
def carryS (R : List Int) (i : Nat) : List Int := (R.set (i + 1) (R.getD (i + 1) 0 + R.getD i 0 / 1000000)).set i (R.getD i 0 % 1000000)
def carryR (R : List Int) : Nat → List Int
  | 0 => R
  | i + 1 => carryS (carryR R i) i

theorem outer4 (p0 p1 p2 p3 q0 q1 q2 q3 : Int) : outerR [p0, p1, p2, p3] [q0, q1, q2, q3] 4 =
    [0 + p0 * q0, 0 + p0 * q1 + p1 * q0, 0 + p0 * q2 + p1 * q1 + p2 * q0, 0 + p0 * q3 + p1 * q2 + p2 * q1 + p3 * q0, 0 + p1 * q3 + p2 * q2 + p3 * q1, 0 + p2 * q3 + p3 * q2, 0 + p3 * q3, 0] := by
  have add0 : ∀ r0 r1 r2 r3 r4 r5 r6 r7 x : Int, addS [r0, r1, r2, r3, r4, r5, r6, r7] 0 x = [r0 + x, r1, r2, r3, r4, r5, r6, r7] := fun _ _ _ _ _ _ _ _ _ => rfl
  have add1 : ∀ r0 r1 r2 r3 r4 r5 r6 r7 x : Int, addS [r0, r1, r2, r3, r4, r5, r6, r7] 1 x = [r0, r1 + x, r2, r3, r4, r5, r6, r7] := fun _ _ _ _ _ _ _ _ _ => rfl
  have add2 : ∀ r0 r1 r2 r3 r4 r5 r6 r7 x : Int, addS [r0, r1, r2, r3, r4, r5, r6, r7] 2 x = [r0, r1, r2 + x, r3, r4, r5, r6, r7] := fun _ _ _ _ _ _ _ _ _ => rfl
  have add3 : ∀ r0 r1 r2 r3 r4 r5 r6 r7 x : Int, addS [r0, r1, r2, r3, r4, r5, r6, r7] 3 x = [r0, r1, r2, r3 + x, r4, r5, r6, r7] := fun _ _ _ _ _ _ _ _ _ => rfl
  have add4 : ∀ r0 r1 r2 r3 r4 r5 r6 r7 x : Int, addS [r0, r1, r2, r3, r4, r5, r6, r7] 4 x = [r0, r1, r2, r3, r4 + x, r5, r6, r7] := fun _ _ _ _ _ _ _ _ _ => rfl
  have add5 : ∀ r0 r1 r2 r3 r4 r5 r6 r7 x : Int, addS [r0, r1, r2, r3, r4, r5, r6, r7] 5 x = [r0, r1, r2, r3, r4, r5 + x, r6, r7] := fun _ _ _ _ _ _ _ _ _ => rfl
  have add6 : ∀ r0 r1 r2 r3 r4 r5 r6 r7 x : Int, addS [r0, r1, r2, r3, r4, r5, r6, r7] 6 x = [r0, r1, r2, r3, r4, r5, r6 + x, r7] := fun _ _ _ _ _ _ _ _ _ => rfl
  show addS (addS (addS (addS (addS (addS (addS (addS (addS (addS (addS (addS (addS (addS (addS (addS [0, 0, 0, 0, 0, 0, 0, 0] 0 (p0 * q0)) 1 (p0 * q1)) 2 (p0 * q2)) 3 (p0 * q3)) 1 (p1 * q0)) 2 (p1 * q1)) 3 (p1 * q2)) 4 (p1 * q3)) 2 (p2 * q0)) 3 (p2 * q1)) 4 (p2 * q2)) 5 (p2 * q3)) 3 (p3 * q0)) 4 (p3 * q1)) 5 (p3 * q2)) 6 (p3 * q3) = _
  rw [add0, add1, add2, add3, add1, add2, add3, add4, add2, add3, add4, add5, add3, add4, add5, add6]

theorem carry7 (r0 r1 r2 r3 r4 r5 r6 r7 : Int) : ∃ s1 s2 s3 s4 s5 s6 s7 : Int, s1 = r1 + r0 / 1000000 ∧ s2 = r2 + s1 / 1000000 ∧ s3 = r3 + s2 / 1000000 ∧ s4 = r4 + s3 / 1000000 ∧ s5 = r5 + s4 / 1000000 ∧ s6 = r6 + s5 / 1000000 ∧ s7 = r7 + s6 / 1000000 ∧
    carryR [r0, r1, r2, r3, r4, r5, r6, r7] 7 = [r0 % 1000000, s1 % 1000000, s2 % 1000000, s3 % 1000000, s4 % 1000000, s5 % 1000000, s6 % 1000000, s7] := by
  refine ⟨_, _, _, _, _, _, _, rfl, rfl, rfl, rfl, rfl, rfl, rfl, ?_⟩
  have c0 : ∀ r0 r1 r2 r3 r4 r5 r6 r7 : Int, carryS [r0, r1, r2, r3, r4, r5, r6, r7] 0 = [r0 % 1000000, r1 + r0 / 1000000, r2, r3, r4, r5, r6, r7] := fun _ _ _ _ _ _ _ _ => rfl
  have c1 : ∀ r0 r1 r2 r3 r4 r5 r6 r7 : Int, carryS [r0, r1, r2, r3, r4, r5, r6, r7] 1 = [r0, r1 % 1000000, r2 + r1 / 1000000, r3, r4, r5, r6, r7] := fun _ _ _ _ _ _ _ _ => rfl
  have c2 : ∀ r0 r1 r2 r3 r4 r5 r6 r7 : Int, carryS [r0, r1, r2, r3, r4, r5, r6, r7] 2 = [r0, r1, r2 % 1000000, r3 + r2 / 1000000, r4, r5, r6, r7] := fun _ _ _ _ _ _ _ _ => rfl
  have c3 : ∀ r0 r1 r2 r3 r4 r5 r6 r7 : Int, carryS [r0, r1, r2, r3, r4, r5, r6, r7] 3 = [r0, r1, r2, r3 % 1000000, r4 + r3 / 1000000, r5, r6, r7] := fun _ _ _ _ _ _ _ _ => rfl
  have c4 : ∀ r0 r1 r2 r3 r4 r5 r6 r7 : Int, carryS [r0, r1, r2, r3, r4, r5, r6, r7] 4 = [r0, r1, r2, r3, r4 % 1000000, r5 + r4 / 1000000, r6, r7] := fun _ _ _ _ _ _ _ _ => rfl
  have c5 : ∀ r0 r1 r2 r3 r4 r5 r6 r7 : Int, carryS [r0, r1, r2, r3, r4, r5, r6, r7] 5 = [r0, r1, r2, r3, r4, r5 % 1000000, r6 + r5 / 1000000, r7] := fun _ _ _ _ _ _ _ _ => rfl
  have c6 : ∀ r0 r1 r2 r3 r4 r5 r6 r7 : Int, carryS [r0, r1, r2, r3, r4, r5, r6, r7] 6 = [r0, r1, r2, r3, r4, r5, r6 % 1000000, r7 + r6 / 1000000] := fun _ _ _ _ _ _ _ _ => rfl
  show carryS (carryS (carryS (carryS (carryS (carryS (carryS [r0, r1, r2, r3, r4, r5, r6, r7] 0) 1) 2) 3) 4) 5) 6 = _
  rw [c0, c1, c2, c3, c4, c5, c6]

theorem lim4 (n : Int) : lim n 4 = [n % 1000000, n / 1000000 % 1000000, n / 1000000 / 1000000 % 1000000, n / 1000000 / 1000000 / 1000000 % 1000000] := rfl

theorem row_mul (p q0 q1 q2 q3 : Int) : p * (q0 + 1000000 * q1 + 1000000000000 * q2 + 1000000000000000000 * q3) = p * q0 + 1000000 * (p * q1) + 1000000000000 * (p * q2) + 1000000000000000000 * (p * q3) := by
  rw [Int.mul_add, Int.mul_add, Int.mul_add, Int.mul_left_comm p 1000000, Int.mul_left_comm p 1000000000000, Int.mul_left_comm p 1000000000000000000]

/-- The digits of a product. -/
theorem mul_digits (A C : Int) (a0 : 0 ≤ A) (a1 : A ≤ 1000000000000000000) (c0 : 0 ≤ C) (c1 : C ≤ 1000000000000000000) : ∃ r0 r1 r2 r3 r4 r5 r6 r7 : Int,
    carryR (outerR (lim A 4) (lim C 4) 4) 7 = [r0, r1, r2, r3, r4, r5, r6, r7] ∧ 0 ≤ r0 ∧ r0 < 1000000 ∧ 0 ≤ r1 ∧ r1 < 1000000 ∧ 0 ≤ r2 ∧ r2 < 1000000 ∧ 0 ≤ r3 ∧ r3 < 1000000 ∧ 0 ≤ r4 ∧ r4 < 1000000 ∧ 0 ≤ r5 ∧ r5 < 1000000 ∧ 0 ≤ r6 ∧ r6 < 1000000 ∧ 0 ≤ r7 ∧
    A * C = r0 + 1000000 * (r1 + 1000000 * (r2 + 1000000 * (r3 + 1000000 * (r4 + 1000000 * (r5 + 1000000 * (r6 + 1000000 * r7)))))) := by
  rw [lim4, lim4]
  obtain ⟨p0, hp0⟩ : ∃ x, x = A % 1000000 := ⟨_, rfl⟩
  obtain ⟨p1, hp1⟩ : ∃ x, x = A / 1000000 % 1000000 := ⟨_, rfl⟩
  obtain ⟨p2, hp2⟩ : ∃ x, x = A / 1000000 / 1000000 % 1000000 := ⟨_, rfl⟩
  obtain ⟨p3, hp3⟩ : ∃ x, x = A / 1000000 / 1000000 / 1000000 % 1000000 := ⟨_, rfl⟩
  obtain ⟨q0, hq0⟩ : ∃ x, x = C % 1000000 := ⟨_, rfl⟩
  obtain ⟨q1, hq1⟩ : ∃ x, x = C / 1000000 % 1000000 := ⟨_, rfl⟩
  obtain ⟨q2, hq2⟩ : ∃ x, x = C / 1000000 / 1000000 % 1000000 := ⟨_, rfl⟩
  obtain ⟨q3, hq3⟩ : ∃ x, x = C / 1000000 / 1000000 / 1000000 % 1000000 := ⟨_, rfl⟩
  have eA : A = p0 + 1000000 * p1 + 1000000000000 * p2 + 1000000000000000000 * p3 := by omega
  have eC : C = q0 + 1000000 * q1 + 1000000000000 * q2 + 1000000000000000000 * q3 := by omega
  rw [← hp0, ← hp1, ← hp2, ← hp3, ← hq0, ← hq1, ← hq2, ← hq3, outer4]
  have hP : 0 ≤ p0 ∧ 0 ≤ p1 ∧ 0 ≤ p2 ∧ 0 ≤ p3 := by omega
  have hQ : 0 ≤ q0 ∧ 0 ≤ q1 ∧ 0 ≤ q2 ∧ 0 ≤ q3 := by omega
  clear hp0 hp1 hp2 hp3 hq0 hq1 hq2 hq3
  obtain ⟨P0, P1, P2, P3⟩ := hP
  obtain ⟨Q0, Q1, Q2, Q3⟩ := hQ
  have eN : A * C = (p0 * q0 + 1000000 * (p0 * q1) + 1000000000000 * (p0 * q2) + 1000000000000000000 * (p0 * q3)) + 1000000 * (p1 * q0 + 1000000 * (p1 * q1) + 1000000000000 * (p1 * q2) + 1000000000000000000 * (p1 * q3)) + 1000000000000 * (p2 * q0 + 1000000 * (p2 * q1) + 1000000000000 * (p2 * q2) + 1000000000000000000 * (p2 * q3)) + 1000000000000000000 * (p3 * q0 + 1000000 * (p3 * q1) + 1000000000000 * (p3 * q2) + 1000000000000000000 * (p3 * q3)) := by
    have e : A * C = (p0 + 1000000 * p1 + 1000000000000 * p2 + 1000000000000000000 * p3) * C := by rw [← eA]
    rw [e, Int.add_mul, Int.add_mul, Int.add_mul, Int.mul_assoc, Int.mul_assoc, Int.mul_assoc, eC, row_mul p0 q0 q1 q2 q3, row_mul p1 q0 q1 q2 q3, row_mul p2 q0 q1 q2 q3, row_mul p3 q0 q1 q2 q3]
  have n00 := Int.mul_nonneg P0 Q0; have n01 := Int.mul_nonneg P0 Q1; have n02 := Int.mul_nonneg P0 Q2; have n03 := Int.mul_nonneg P0 Q3
  have n10 := Int.mul_nonneg P1 Q0; have n11 := Int.mul_nonneg P1 Q1; have n12 := Int.mul_nonneg P1 Q2; have n13 := Int.mul_nonneg P1 Q3
  have n20 := Int.mul_nonneg P2 Q0; have n21 := Int.mul_nonneg P2 Q1; have n22 := Int.mul_nonneg P2 Q2; have n23 := Int.mul_nonneg P2 Q3
  have n30 := Int.mul_nonneg P3 Q0; have n31 := Int.mul_nonneg P3 Q1; have n32 := Int.mul_nonneg P3 Q2; have n33 := Int.mul_nonneg P3 Q3
  generalize A * C = N at *
  clear eA eC P0 P1 P2 P3 Q0 Q1 Q2 Q3 a0 a1 c0 c1
  generalize p0 * q0 = x00 at *
  generalize p0 * q1 = x01 at *
  generalize p0 * q2 = x02 at *
  generalize p0 * q3 = x03 at *
  generalize p1 * q0 = x10 at *
  generalize p1 * q1 = x11 at *
  generalize p1 * q2 = x12 at *
  generalize p1 * q3 = x13 at *
  generalize p2 * q0 = x20 at *
  generalize p2 * q1 = x21 at *
  generalize p2 * q2 = x22 at *
  generalize p2 * q3 = x23 at *
  generalize p3 * q0 = x30 at *
  generalize p3 * q1 = x31 at *
  generalize p3 * q2 = x32 at *
  generalize p3 * q3 = x33 at *
  obtain ⟨s1, s2, s3, s4, s5, s6, s7, h1, h2, h3, h4, h5, h6, h7, e⟩ := carry7 (0 + x00) (0 + x01 + x10) (0 + x02 + x11 + x20) (0 + x03 + x12 + x21 + x30) (0 + x13 + x22 + x31) (0 + x23 + x32) (0 + x33) 0
  refine ⟨_, _, _, _, _, _, _, _, e, by omega, by omega, by omega, by omega, by omega, by omega, by omega, by omega, by omega, by omega, by omega, by omega, by omega, by omega, by omega, ?_⟩
  clear e
  have k0 := Int.mul_ediv_add_emod (0 + x00) 1000000
  have k1 := Int.mul_ediv_add_emod s1 1000000
  have k2 := Int.mul_ediv_add_emod s2 1000000
  have k3 := Int.mul_ediv_add_emod s3 1000000
  have k4 := Int.mul_ediv_add_emod s4 1000000
  have k5 := Int.mul_ediv_add_emod s5 1000000
  have k6 := Int.mul_ediv_add_emod s6 1000000
  generalize (0 + x00) / 1000000 = d0 at *
  generalize (0 + x00) % 1000000 = m0 at *
  generalize s1 / 1000000 = d1 at *
  generalize s1 % 1000000 = m1 at *
  generalize s2 / 1000000 = d2 at *
  generalize s2 % 1000000 = m2 at *
  generalize s3 / 1000000 = d3 at *
  generalize s3 % 1000000 = m3 at *
  generalize s4 / 1000000 = d4 at *
  generalize s4 % 1000000 = m4 at *
  generalize s5 / 1000000 = d5 at *
  generalize s5 % 1000000 = m5 at *
  generalize s6 / 1000000 = d6 at *
  generalize s6 % 1000000 = m6 at *
  omega
end Go.Proofs.YtjhldifilfkebaaDoor
