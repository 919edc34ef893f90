/-
  Plain mathematics of a long division by a divisor of two digits (of 32 bits each): what a guessed digit is, and how it is mended.
-/
import Derived.WalkKit
namespace Go.Proofs.Ytcabpcneiddgcaa
open Go.RowKit

/-- A digit of the quotient: U is below the divisor V = Y1 * 2^32 + Y0, u the next digit. -/
structure Dig (Y1 Y0 V U u D : Int) : Prop where
  y1 : 2147483648 ≤ Y1
  y2 : Y1 < 4294967296
  z1 : 0 ≤ Y0
  z2 : Y0 < 4294967296
  v : V = Y1 * 4294967296 + Y0
  a1 : 0 ≤ U
  a2 : U < V
  u1 : 0 ≤ u
  u2 : u < 4294967296
  d : D = (U * 4294967296 + u) / V

theorem Dig.vpos {Y1 Y0 V U u D : Int} (h : Dig Y1 Y0 V U u D) : 0 < V := by
  have := h.v; have := h.y1; have := h.z1; omega
theorem Dig.le {Y1 Y0 V U u D : Int} (h : Dig Y1 Y0 V U u D) : D * V ≤ U * 4294967296 + u := by
  rw [h.d, Int.mul_comm]; exact Int.mul_ediv_self_le (Int.ne_of_gt h.vpos)
theorem Dig.gt {Y1 Y0 V U u D : Int} (h : Dig Y1 Y0 V U u D) : U * 4294967296 + u < (D + 1) * V := by
  rw [h.d]
  exact Int.lt_ediv_add_one_mul_self _ h.vpos
theorem Dig.nn {Y1 Y0 V U u D : Int} (h : Dig Y1 Y0 V U u D) : 0 ≤ D := by
  rw [h.d]; exact Int.ediv_nonneg (by have := h.a1; have := h.u1; omega) (Int.le_of_lt h.vpos)
theorem Dig.lt {Y1 Y0 V U u D : Int} (h : Dig Y1 Y0 V U u D) : D < 4294967296 := by
  rw [h.d]
  refine Int.ediv_lt_of_lt_mul h.vpos ?_
  have := h.a2; have := h.u2; omega
/-- A q with q * V ≤ N that is no less than D is D. -/
theorem Dig.eq {Y1 Y0 V U u D q : Int} (h : Dig Y1 Y0 V U u D) (h1 : D ≤ q) (h2 : q * V ≤ U * 4294967296 + u) : q = D := by
  have h3 : q ≤ D := by rw [h.d]; exact (Int.le_ediv_iff_mul_le h.vpos).2 h2
  omega
theorem Dig.mulV {Y1 Y0 V U u D : Int} (h : Dig Y1 Y0 V U u D) (q : Int) : q * V = q * Y1 * 4294967296 + q * Y0 := by
  rw [h.v, Int.mul_add, Int.mul_assoc]

theorem Dig.first {Y1 Y0 V U u D : Int} (h : Dig Y1 Y0 V U u D) : D ≤ U / Y1 := by
  rw [Int.le_ediv_iff_mul_le (by have := h.y1; omega)]
  have h1 := h.le
  rw [h.mulV] at h1
  have h2 : 0 ≤ D * Y0 := Int.mul_nonneg h.nn h.z1
  have h3 := h.u2
  omega
theorem Dig.firstLe {Y1 Y0 V U u D : Int} (h : Dig Y1 Y0 V U u D) : U / Y1 ≤ 4294967297 := by
  have h1 := h.y1
  have h2 : U / Y1 < 4294967298 := by
    refine Int.ediv_lt_of_lt_mul (by omega) ?_
    have := h.a2; have := h.v; have := h.z2; omega
  omega
theorem Dig.firstNn {Y1 Y0 V U u D : Int} (h : Dig Y1 Y0 V U u D) : 0 ≤ U / Y1 := Int.ediv_nonneg h.a1 (by have := h.y1; omega)
theorem Dig.firstMul {Y1 Y0 V U u D : Int} (h : Dig Y1 Y0 V U u D) : U / Y1 * Y1 ≤ U ∧ 0 ≤ U / Y1 * Y1 ∧ U - U / Y1 * Y1 < Y1 := by
  have h1 := h.y1
  have h2 := Int.mul_ediv_add_emod U Y1
  have h3 := Int.emod_nonneg U (b := Y1) (by omega)
  have h4 := Int.emod_lt_of_pos U (b := Y1) (by omega)
  have h5 : U / Y1 * Y1 = Y1 * (U / Y1) := Int.mul_comm _ _
  have h6 : 0 ≤ U / Y1 * Y1 := Int.mul_nonneg h.firstNn (by omega)
  omega

/-- One round: the guess is too great. -/
theorem Dig.step {Y1 Y0 V U u D q r : Int} (h : Dig Y1 Y0 V U u D) (e : U = q * Y1 + r) (h1 : D ≤ q) (h2 : 4294967296 ≤ q ∨ 4294967296 * r + u < q * Y0) : D ≤ q - 1 ∧ U = (q - 1) * Y1 + (r + Y1) := by
  refine ⟨?_, by rw [Int.sub_mul]; omega⟩
  rcases h2 with h2 | h2
  · have := h.lt; omega
  · have h3 := h.mulV q
    have h5 : U * 4294967296 + u < q * V := by rw [h3]; omega
    have h6 := h.le
    have h7 : D * V < q * V := by omega
    have := Int.lt_of_mul_lt_mul_right h7 (Int.le_of_lt h.vpos)
    omega
/-- The guess is right. -/
theorem Dig.done {Y1 Y0 V U u D q r : Int} (h : Dig Y1 Y0 V U u D) (e : U = q * Y1 + r) (h1 : D ≤ q) (h2 : q * Y0 ≤ 4294967296 * r + u) : q = D := by
  refine h.eq h1 ?_
  rw [h.mulV]; omega
/-- What is left has grown beyond a digit: the guess is right. -/
theorem Dig.out {Y1 Y0 V U u D q r : Int} (h : Dig Y1 Y0 V U u D) (e : U = q * Y1 + r) (h1 : D ≤ q) (h2 : 4294967296 ≤ r) (h3 : q ≤ 4294967296) : q = D := by
  refine h.eq h1 ?_
  rw [h.mulV]
  have h4 : q * Y0 ≤ 4294967296 * Y0 := Int.mul_le_mul_of_nonneg_right h3 h.z1
  have := h.z2; have := h.u1
  omega
theorem Dig.mulY0 {Y1 Y0 V U u D q : Int} (h : Dig Y1 Y0 V U u D) (h1 : D ≤ q) (h2 : q < 4294967296) : 0 ≤ q * Y0 ∧ q * Y0 < 18446744073709551616 := by
  have h3 := h.nn
  refine ⟨Int.mul_nonneg (by omega) h.z1, ?_⟩
  have h4 : q * Y0 ≤ 4294967295 * Y0 := Int.mul_le_mul_of_nonneg_right (by omega) h.z1
  have := h.z2; omega
/-- What is left behind the digit. -/
theorem Dig.rest {Y1 Y0 V U u D : Int} (h : Dig Y1 Y0 V U u D) : 0 ≤ U * 4294967296 + u - D * V ∧ U * 4294967296 + u - D * V < V := by
  have h1 := h.le
  have h2 := h.gt
  rw [Int.add_mul] at h2
  omega
theorem Dig.restMod {Y1 Y0 V U u D : Int} (h : Dig Y1 Y0 V U u D) : U * 4294967296 + u - D * V = (U * 4294967296 + u) % V := by
  have h1 := Int.mul_ediv_add_emod (U * 4294967296 + u) V
  rw [← h.d, Int.mul_comm] at h1
  omega
theorem wrap_rest {U u D V : Int} (h0 : 0 ≤ U * 4294967296 + u - D * V) (h1 : U * 4294967296 + u - D * V < 18446744073709551616) :
    IntKind.u64.wrap (IntKind.u64.wrap (IntKind.u64.wrap (U * 4294967296) + u) - IntKind.u64.wrap (D * V)) = U * 4294967296 + u - D * V := by
  simp only [IntKind.wrap_u64]
  generalize D * V = x at *
  omega

/-- Two digits are the quotient; what is left behind the second is what is left. -/
theorem two_digits {N V U u1 u0 D1 D0 U2 : Int} (hv : 0 < V) (hN : N = U * 18446744073709551616 + u1 * 4294967296 + u0) (h2 : U2 = U * 4294967296 + u1 - D1 * V) (h3 : D0 = (U2 * 4294967296 + u0) / V) :
    N / V = D1 * 4294967296 + D0 ∧ N % V = U2 * 4294967296 + u0 - D0 * V := by
  have e : N = D1 * 4294967296 * V + (U2 * 4294967296 + u0) := by
    rw [hN, h2, Int.mul_right_comm D1 4294967296 V]
    generalize D1 * V = x
    omega
  have h4 := Int.mul_ediv_add_emod (U2 * 4294967296 + u0) V
  rw [← h3, Int.mul_comm] at h4
  constructor
  · rw [e, Int.add_comm, Int.add_mul_ediv_right _ _ (Int.ne_of_gt hv), ← h3, Int.add_comm]
  · rw [e, Int.add_comm, Int.add_mul_emod_self_right]; omega

/-- What is divided, and what it is divided by, both made greater by one factor. -/
theorem scaled {X y p : Int} (hp : 0 < p) : X * p / (y * p) = X / y ∧ X * p % (y * p) / p = X % y := by
  constructor
  · rw [Int.mul_ediv_mul_of_pos_left _ _ hp]
  · rw [Int.mul_comm X p, Int.mul_comm y p, Int.mul_emod_mul_of_pos _ _ hp, Int.mul_ediv_cancel_left _ (Int.ne_of_gt hp)]
end Go.Proofs.Ytcabpcneiddgcaa
