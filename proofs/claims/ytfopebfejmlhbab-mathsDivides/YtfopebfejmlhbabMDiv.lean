/-
  Out of DivMath, Div64, Div64Any, Full, what is asked for (laid by pack9.py).
-/
import Derived.Test.YtfopebfejmlhbabMNum
import Derived.BigQuiet
import Derived.Deep.QuietTactic
import Derived.Handy
import Derived.Laws.BitsAllLaws
import Derived.Lib.ItoaNum
import Derived.WalkKit
import Derived.WalkLawsBesides
import Derived.WalkSpells
namespace Go.Proofs.Ytfopebfejmlhbab
section
open Go.RowKit
/-- A digit of the quotient: U is below the divisor V = Y1 * 2^32 + Y0, u the next digit. -/
structure Dig (Y1 Y0 V U u D : Int) : Prop where
  y1 : 2147483648 ≤ Y1
  y2 : Y1 < 4294967296
  z1 : 0 ≤ Y0
  z2 : Y0 < 4294967296
  v : V = Y1 * 4294967296 + Y0
  a1 : 0 ≤ U
  a2 : U < V
  u1 : 0 ≤ u
  u2 : u < 4294967296
  d : D = (U * 4294967296 + u) / V
theorem Dig.vpos {Y1 Y0 V U u D : Int} (h : Dig Y1 Y0 V U u D) : 0 < V := by
  have := h.v; have := h.y1; have := h.z1; omega
theorem Dig.le {Y1 Y0 V U u D : Int} (h : Dig Y1 Y0 V U u D) : D * V ≤ U * 4294967296 + u := by
  rw [h.d, Int.mul_comm]; exact Int.mul_ediv_self_le (Int.ne_of_gt h.vpos)
theorem Dig.gt {Y1 Y0 V U u D : Int} (h : Dig Y1 Y0 V U u D) : U * 4294967296 + u < (D + 1) * V := by
  rw [h.d]
  exact Int.lt_ediv_add_one_mul_self _ h.vpos
theorem Dig.nn {Y1 Y0 V U u D : Int} (h : Dig Y1 Y0 V U u D) : 0 ≤ D := by
  rw [h.d]; exact Int.ediv_nonneg (by have := h.a1; have := h.u1; omega) (Int.le_of_lt h.vpos)
theorem Dig.lt {Y1 Y0 V U u D : Int} (h : Dig Y1 Y0 V U u D) : D < 4294967296 := by
  rw [h.d]
  refine Int.ediv_lt_of_lt_mul h.vpos ?_
  have := h.a2; have := h.u2; omega
/-- A q with q * V ≤ N that is no less than D is D. -/
theorem Dig.eq {Y1 Y0 V U u D q : Int} (h : Dig Y1 Y0 V U u D) (h1 : D ≤ q) (h2 : q * V ≤ U * 4294967296 + u) : q = D := by
  have h3 : q ≤ D := by rw [h.d]; exact (Int.le_ediv_iff_mul_le h.vpos).2 h2
  omega
theorem Dig.mulV {Y1 Y0 V U u D : Int} (h : Dig Y1 Y0 V U u D) (q : Int) : q * V = q * Y1 * 4294967296 + q * Y0 := by
  rw [h.v, Int.mul_add, Int.mul_assoc]
theorem Dig.first {Y1 Y0 V U u D : Int} (h : Dig Y1 Y0 V U u D) : D ≤ U / Y1 := by
  rw [Int.le_ediv_iff_mul_le (by have := h.y1; omega)]
  have h1 := h.le
  rw [h.mulV] at h1
  have h2 : 0 ≤ D * Y0 := Int.mul_nonneg h.nn h.z1
  have h3 := h.u2
  omega
theorem Dig.firstLe {Y1 Y0 V U u D : Int} (h : Dig Y1 Y0 V U u D) : U / Y1 ≤ 4294967297 := by
  have h1 := h.y1
  have h2 : U / Y1 < 4294967298 := by
    refine Int.ediv_lt_of_lt_mul (by omega) ?_
    have := h.a2; have := h.v; have := h.z2; omega
  omega
theorem Dig.firstNn {Y1 Y0 V U u D : Int} (h : Dig Y1 Y0 V U u D) : 0 ≤ U / Y1 := Int.ediv_nonneg h.a1 (by have := h.y1; omega)
theorem Dig.firstMul {Y1 Y0 V U u D : Int} (h : Dig Y1 Y0 V U u D) : U / Y1 * Y1 ≤ U ∧ 0 ≤ U / Y1 * Y1 ∧ U - U / Y1 * Y1 < Y1 := by
  have h1 := h.y1
  have h2 := Int.mul_ediv_add_emod U Y1
  have h3 := Int.emod_nonneg U (b := Y1) (by omega)
  have h4 := Int.emod_lt_of_pos U (b := Y1) (by omega)
  have h5 : U / Y1 * Y1 = Y1 * (U / Y1) := Int.mul_comm _ _
  have h6 : 0 ≤ U / Y1 * Y1 := Int.mul_nonneg h.firstNn (by omega)
  omega
/-- One round: the guess is too great. -/
theorem Dig.step {Y1 Y0 V U u D q r : Int} (h : Dig Y1 Y0 V U u D) (e : U = q * Y1 + r) (h1 : D ≤ q) (h2 : 4294967296 ≤ q ∨ 4294967296 * r + u < q * Y0) : D ≤ q - 1 ∧ U = (q - 1) * Y1 + (r + Y1) := by
  refine ⟨?_, by rw [Int.sub_mul]; omega⟩
  rcases h2 with h2 | h2
  · have := h.lt; omega
  · have h3 := h.mulV q
    have h5 : U * 4294967296 + u < q * V := by rw [h3]; omega
    have h6 := h.le
    have h7 : D * V < q * V := by omega
    have := Int.lt_of_mul_lt_mul_right h7 (Int.le_of_lt h.vpos)
    omega
/-- The guess is right. -/
theorem Dig.done {Y1 Y0 V U u D q r : Int} (h : Dig Y1 Y0 V U u D) (e : U = q * Y1 + r) (h1 : D ≤ q) (h2 : q * Y0 ≤ 4294967296 * r + u) : q = D := by
  refine h.eq h1 ?_
  rw [h.mulV]; omega
/-- What is left has grown beyond a digit: the guess is right. -/
theorem Dig.out {Y1 Y0 V U u D q r : Int} (h : Dig Y1 Y0 V U u D) (e : U = q * Y1 + r) (h1 : D ≤ q) (h2 : 4294967296 ≤ r) (h3 : q ≤ 4294967296) : q = D := by
  refine h.eq h1 ?_
  rw [h.mulV]
  have h4 : q * Y0 ≤ 4294967296 * Y0 := Int.mul_le_mul_of_nonneg_right h3 h.z1
  have := h.z2; have := h.u1
  omega
theorem Dig.mulY0 {Y1 Y0 V U u D q : Int} (h : Dig Y1 Y0 V U u D) (h1 : D ≤ q) (h2 : q < 4294967296) : 0 ≤ q * Y0 ∧ q * Y0 < 18446744073709551616 := by
  have h3 := h.nn
  refine ⟨Int.mul_nonneg (by omega) h.z1, ?_⟩
  have h4 : q * Y0 ≤ 4294967295 * Y0 := Int.mul_le_mul_of_nonneg_right (by omega) h.z1
  have := h.z2; omega
/-- What is left behind the digit. -/
theorem Dig.rest {Y1 Y0 V U u D : Int} (h : Dig Y1 Y0 V U u D) : 0 ≤ U * 4294967296 + u - D * V ∧ U * 4294967296 + u - D * V < V := by
  have h1 := h.le
  have h2 := h.gt
  rw [Int.add_mul] at h2
  omega
theorem wrap_rest {U u D V : Int} (h0 : 0 ≤ U * 4294967296 + u - D * V) (h1 : U * 4294967296 + u - D * V < 18446744073709551616) :
    IntKind.u64.wrap (IntKind.u64.wrap (IntKind.u64.wrap (U * 4294967296) + u) - IntKind.u64.wrap (D * V)) = U * 4294967296 + u - D * V := by
  simp only [IntKind.wrap_u64]
  generalize D * V = x at *
  omega
/-- Two digits are the quotient; what is left behind the second is what is left. -/
theorem two_digits {N V U u1 u0 D1 D0 U2 : Int} (hv : 0 < V) (hN : N = U * 18446744073709551616 + u1 * 4294967296 + u0) (h2 : U2 = U * 4294967296 + u1 - D1 * V) (h3 : D0 = (U2 * 4294967296 + u0) / V) :
    N / V = D1 * 4294967296 + D0 ∧ N % V = U2 * 4294967296 + u0 - D0 * V := by
  have e : N = D1 * 4294967296 * V + (U2 * 4294967296 + u0) := by
    rw [hN, h2, Int.mul_right_comm D1 4294967296 V]
    generalize D1 * V = x
    omega
  have h4 := Int.mul_ediv_add_emod (U2 * 4294967296 + u0) V
  rw [← h3, Int.mul_comm] at h4
  constructor
  · rw [e, Int.add_comm, Int.add_mul_ediv_right _ _ (Int.ne_of_gt hv), ← h3, Int.add_comm]
  · rw [e, Int.add_comm, Int.add_mul_emod_self_right]; omega
/-- What is divided, and what it is divided by, both made greater by one factor. -/
theorem scaled {X y p : Int} (hp : 0 < p) : X * p / (y * p) = X / y ∧ X * p % (y * p) / p = X % y := by
  constructor
  · rw [Int.mul_ediv_mul_of_pos_left _ _ hp]
  · rw [Int.mul_comm X p, Int.mul_comm y p, Int.mul_emod_mul_of_pos _ _ hp, Int.mul_ediv_cancel_left _ (Int.ne_of_gt hp)]
end
section
open Go.RowKit
set_option maxHeartbeats 4000000 in
theorem div64_core (hi lo y V Y1 Y0 U C U1 U0 D1 U2 D0 : Int) (k : Nat) (h0 : 0 < hi) (h1 : hi < y) (s0 : 4 ≤ k) (s1 : k ≤ 62) (w : World)
    (HZ : Hid (∀ W : World, Calls Try.prog 62 #[.int .u64 y] W fun e w' => e = .returned (.int .i64 k) ∧ w' = W))
    (e1 : IntKind.u64.wrap (y * 2 ^ k) = V) (e2 : V / 4294967296 = Y1) (e3 : bits BinOp.and IntKind.u64 V 4294967295 = Y0)
    (e4 : bits BinOp.or IntKind.u64 (IntKind.u64.wrap (hi * 2 ^ k)) (lo / 2 ^ (64 - k)) = U) (e5 : IntKind.u64.wrap (lo * 2 ^ k) = C) (e6 : C / 4294967296 = U1) (e7 : bits BinOp.and IntKind.u64 C 4294967295 = U0)
    (_l0 : 0 ≤ lo) (_l1 : lo < 18446744073709551616) (_c0 : 0 ≤ C) (_c1 : C < 18446744073709551616) (v0 : 0 ≤ V) (v1 : V < 18446744073709551616) (_hy : y < 18446744073709551616)
    (g1 : Dig Y1 Y0 V U U1 D1) (g2 : Dig Y1 Y0 V U2 U0 D0) (hU2 : U2 = U * 4294967296 + U1 - D1 * V) :
    Calls Try.prog 61 #[.int .u64 hi, .int .u64 lo, .int .u64 y] w fun e w' => e = .returned (.tuple #[.int .u64 (D1 * 4294967296 + D0), .int .u64 ((U2 * 4294967296 + U0 - D0 * V) / 2 ^ k)]) ∧ Below w.heap.size w w' := by
  have G1 := hide g1
  have G2 := hide g2
  have y1 := g1.y1; have y2 := g1.y2; have z1 := g1.z1; have z2 := g1.z2
  have a1 := g1.a1; have a2 := g1.a2; have u1 := g1.u1; have u2 := g1.u2
  have b1 := g2.a1; have b2 := g2.a2; have t1 := g2.u1; have t2 := g2.u2
  have f1 := g1.firstNn; have f2 := g1.firstLe
  obtain ⟨f3, f4, f5⟩ := g1.firstMul
  have p1 := g2.firstNn; have p2 := g2.firstLe
  obtain ⟨p3, p4, p5⟩ := g2.firstMul
  have d1 := g1.nn; have d2 := g1.lt; have d3 := g2.nn; have d4 := g2.lt
  have r1 := g2.rest.1; have r2 := g2.rest.2
  have W1 : IntKind.u64.wrap (IntKind.u64.wrap (IntKind.u64.wrap (U * 4294967296) + U1) - IntKind.u64.wrap (D1 * V)) = U2 := by
    rw [hU2]; exact wrap_rest (by omega) (by omega)
  have W2 : IntKind.u64.wrap (IntKind.u64.wrap (IntKind.u64.wrap (U2 * 4294967296) + U0) - IntKind.u64.wrap (D0 * V)) = U2 * 4294967296 + U0 - D0 * V := wrap_rest r1 (by omega)
  have yz : (Y1 == 0) = false := beq_eq_false_iff_ne.2 (by omega)
  clear g1 g2 hU2
  go_enter Try.func61, Try.ntmps61
  go_wp2_with (go_at_call 62; refine (HZ.out _).mono ?_; rintro e w' ⟨rfl, rfl⟩)
  go_loop [15, 16] (fun a b => ∃ q r : Int, a = .int .u64 q ∧ b = .int .u64 r ∧ D1 ≤ q ∧ q ≤ 4294967297 ∧ 0 ≤ r ∧ r < 4294967296 ∧ U = q * Y1 + r) (fun a _ => (intOf a).toNat)
  case atStart => exact ⟨_, _, rfl, rfl, G1.out.first, by omega, by omega, by omega, by omega⟩
  case round =>
    obtain ⟨q, r, rfl, rfl, q1, q2, r1, r2, he⟩ := hrel
    have HQ := hide he
    clear he
    by_cases hbig : 4294967296 ≤ q
    · obtain ⟨n1, n2⟩ := G1.out.step HQ.out q1 (Or.inl hbig)
      have N2 := hide n2
      clear n2
      by_cases hbr : 4294967296 ≤ r + Y1
      · have hx := G1.out.out N2.out n1 hbr (by omega)
        clear q1 q2 n1 N2 HQ
        go_wp2_with fail
        go_loop [18, 16] (fun a b => ∃ q r : Int, a = .int .u64 q ∧ b = .int .u64 r ∧ D0 ≤ q ∧ q ≤ 4294967297 ∧ 0 ≤ r ∧ r < 4294967296 ∧ U2 = q * Y1 + r) (fun a _ => (intOf a).toNat)
        case atStart => exact ⟨_, _, rfl, rfl, G2.out.first, by omega, by omega, by omega, by omega⟩
        case round =>
          obtain ⟨q, r, rfl, rfl, q1, q2, r1, r2, he⟩ := hrel
          have HQ := hide he
          clear he
          by_cases hbig : 4294967296 ≤ q
          · obtain ⟨n1, n2⟩ := G2.out.step HQ.out q1 (Or.inl hbig)
            have N2 := hide n2
            clear n2
            by_cases hbr : 4294967296 ≤ r + Y1
            · have hx := G2.out.out N2.out n1 hbr (by omega)
              clear q1 q2 n1 N2 HQ
              go_wp2
              go_ret2
              exact ⟨rfl, Below.refl _ _⟩
            · go_wp2
              go_round
              case rel => exact ⟨q - 1, r + Y1, rfl, rfl, n1, by omega, by omega, by omega, N2.out⟩
              case measure => simp [intOf]; omega
          · obtain ⟨m1, m2⟩ := G2.out.mulY0 q1 (by omega)
            by_cases hgt : 4294967296 * r + U0 < q * Y0
            · obtain ⟨n1, n2⟩ := G2.out.step HQ.out q1 (Or.inr hgt)
              have N2 := hide n2
              clear n2
              by_cases hbr : 4294967296 ≤ r + Y1
              · have hx := G2.out.out N2.out n1 hbr (by omega)
                clear q1 q2 n1 N2 HQ
                go_wp2
                go_ret2
                exact ⟨rfl, Below.refl _ _⟩
              · go_wp2
                go_round
                case rel => exact ⟨q - 1, r + Y1, rfl, rfl, n1, by omega, by omega, by omega, N2.out⟩
                case measure => simp [intOf]; omega
            · have hx := G2.out.done HQ.out q1 (by omega)
              subst hx
              clear q1 q2 HQ
              go_wp2
              go_ret2
              exact ⟨rfl, Below.refl _ _⟩
      · go_wp2
        go_round
        case rel => exact ⟨q - 1, r + Y1, rfl, rfl, n1, by omega, by omega, by omega, N2.out⟩
        case measure => simp [intOf]; omega
    · obtain ⟨m1, m2⟩ := G1.out.mulY0 q1 (by omega)
      by_cases hgt : 4294967296 * r + U1 < q * Y0
      · obtain ⟨n1, n2⟩ := G1.out.step HQ.out q1 (Or.inr hgt)
        have N2 := hide n2
        clear n2
        by_cases hbr : 4294967296 ≤ r + Y1
        · have hx := G1.out.out N2.out n1 hbr (by omega)
          clear q1 q2 n1 N2 HQ
          go_wp2_with fail
          go_loop [18, 16] (fun a b => ∃ q r : Int, a = .int .u64 q ∧ b = .int .u64 r ∧ D0 ≤ q ∧ q ≤ 4294967297 ∧ 0 ≤ r ∧ r < 4294967296 ∧ U2 = q * Y1 + r) (fun a _ => (intOf a).toNat)
          case atStart => exact ⟨_, _, rfl, rfl, G2.out.first, by omega, by omega, by omega, by omega⟩
          case round =>
            obtain ⟨q, r, rfl, rfl, q1, q2, r1, r2, he⟩ := hrel
            have HQ := hide he
            clear he
            by_cases hbig : 4294967296 ≤ q
            · obtain ⟨n1, n2⟩ := G2.out.step HQ.out q1 (Or.inl hbig)
              have N2 := hide n2
              clear n2
              by_cases hbr : 4294967296 ≤ r + Y1
              · have hx := G2.out.out N2.out n1 hbr (by omega)
                clear q1 q2 n1 N2 HQ
                go_wp2
                go_ret2
                exact ⟨rfl, Below.refl _ _⟩
              · go_wp2
                go_round
                case rel => exact ⟨q - 1, r + Y1, rfl, rfl, n1, by omega, by omega, by omega, N2.out⟩
                case measure => simp [intOf]; omega
            · obtain ⟨m1, m2⟩ := G2.out.mulY0 q1 (by omega)
              by_cases hgt : 4294967296 * r + U0 < q * Y0
              · obtain ⟨n1, n2⟩ := G2.out.step HQ.out q1 (Or.inr hgt)
                have N2 := hide n2
                clear n2
                by_cases hbr : 4294967296 ≤ r + Y1
                · have hx := G2.out.out N2.out n1 hbr (by omega)
                  clear q1 q2 n1 N2 HQ
                  go_wp2
                  go_ret2
                  exact ⟨rfl, Below.refl _ _⟩
                · go_wp2
                  go_round
                  case rel => exact ⟨q - 1, r + Y1, rfl, rfl, n1, by omega, by omega, by omega, N2.out⟩
                  case measure => simp [intOf]; omega
              · have hx := G2.out.done HQ.out q1 (by omega)
                subst hx
                clear q1 q2 HQ
                go_wp2
                go_ret2
                exact ⟨rfl, Below.refl _ _⟩
        · go_wp2
          go_round
          case rel => exact ⟨q - 1, r + Y1, rfl, rfl, n1, by omega, by omega, by omega, N2.out⟩
          case measure => simp [intOf]; omega
      · have hx := G1.out.done HQ.out q1 (by omega)
        subst hx
        clear q1 q2 HQ
        go_wp2_with fail
        go_loop [18, 16] (fun a b => ∃ q r : Int, a = .int .u64 q ∧ b = .int .u64 r ∧ D0 ≤ q ∧ q ≤ 4294967297 ∧ 0 ≤ r ∧ r < 4294967296 ∧ U2 = q * Y1 + r) (fun a _ => (intOf a).toNat)
        case atStart => exact ⟨_, _, rfl, rfl, G2.out.first, by omega, by omega, by omega, by omega⟩
        case round =>
          obtain ⟨q, r, rfl, rfl, q1, q2, r1, r2, he⟩ := hrel
          have HQ := hide he
          clear he
          by_cases hbig : 4294967296 ≤ q
          · obtain ⟨n1, n2⟩ := G2.out.step HQ.out q1 (Or.inl hbig)
            have N2 := hide n2
            clear n2
            by_cases hbr : 4294967296 ≤ r + Y1
            · have hx := G2.out.out N2.out n1 hbr (by omega)
              clear q1 q2 n1 N2 HQ
              go_wp2
              go_ret2
              exact ⟨rfl, Below.refl _ _⟩
            · go_wp2
              go_round
              case rel => exact ⟨q - 1, r + Y1, rfl, rfl, n1, by omega, by omega, by omega, N2.out⟩
              case measure => simp [intOf]; omega
          · obtain ⟨m1, m2⟩ := G2.out.mulY0 q1 (by omega)
            by_cases hgt : 4294967296 * r + U0 < q * Y0
            · obtain ⟨n1, n2⟩ := G2.out.step HQ.out q1 (Or.inr hgt)
              have N2 := hide n2
              clear n2
              by_cases hbr : 4294967296 ≤ r + Y1
              · have hx := G2.out.out N2.out n1 hbr (by omega)
                clear q1 q2 n1 N2 HQ
                go_wp2
                go_ret2
                exact ⟨rfl, Below.refl _ _⟩
              · go_wp2
                go_round
                case rel => exact ⟨q - 1, r + Y1, rfl, rfl, n1, by omega, by omega, by omega, N2.out⟩
                case measure => simp [intOf]; omega
            · have hx := G2.out.done HQ.out q1 (by omega)
              subst hx
              clear q1 q2 HQ
              go_wp2
              go_ret2
              exact ⟨rfl, Below.refl _ _⟩
end
section
open Go.RowKit
theorem and32 (v : Int) (h0 : 0 ≤ v) (h1 : v < 18446744073709551616) : bits BinOp.and IntKind.u64 v 4294967295 = v % 4294967296 := by
  obtain ⟨n, rfl⟩ := Int.eq_ofNat_of_zero_le h0
  have h := u64_and_nat n 4294967295 (by omega) (by decide)
  have e : n &&& 4294967295 = n % 4294967296 := Nat.and_two_pow_sub_one_eq_mod n 32
  rw [e] at h
  have e2 : ((4294967295 : Nat) : Int) = 4294967295 := rfl
  rw [e2] at h
  rw [h]; omega
theorem or_add (hi lo k b : Nat) (hk : k + b = 64) (h1 : hi < 2 ^ b) (h2 : lo < 2 ^ 64) : bits BinOp.or IntKind.u64 (IntKind.u64.wrap ((hi : Int) * 2 ^ k)) ((lo : Int) / 2 ^ (64 - k)) = (hi : Int) * 2 ^ k + (lo : Int) / 2 ^ b := by
  have hb : 64 - k = b := by omega
  have hp : 2 ^ b * 2 ^ k = 18446744073709551616 := by rw [← Nat.pow_add, Nat.add_comm, hk]
  have h3 : hi * 2 ^ k < 18446744073709551616 := by
    rw [← hp]; exact Nat.mul_lt_mul_of_pos_right h1 (Nat.two_pow_pos k)
  have h4 : lo / 2 ^ b < 2 ^ k := by
    rw [Nat.div_lt_iff_lt_mul (Nat.two_pow_pos b), Nat.mul_comm, hp]; exact h2
  have h5 : 2 ^ k ≤ 18446744073709551616 := by
    rw [← hp]; exact Nat.le_mul_of_pos_left _ (Nat.two_pow_pos b)
  have e1 : (hi : Int) * 2 ^ k = ((hi * 2 ^ k : Nat) : Int) := by rw [Int.natCast_mul, Int.natCast_pow]; rfl
  have e2 : (lo : Int) / 2 ^ b = ((lo / 2 ^ b : Nat) : Int) := by rw [Int.natCast_ediv, Int.natCast_pow]; rfl
  rw [hb, e1, e2, IntKind.wrap_u64, Int.emod_eq_of_lt (by omega) (by omega), u64_or_nat _ _ h3 (by omega)]
  have e3 : hi * 2 ^ k ||| lo / 2 ^ b = hi * 2 ^ k + lo / 2 ^ b := by
    rw [Nat.mul_comm]; exact (Nat.two_pow_add_eq_or_of_lt h4 hi).symm
  rw [e3, Int.natCast_add]
theorem div64_any (hi lo y : Int) (h0 : 0 ≤ hi) (h1 : hi < y) (h2 : y ≤ 1000000000000000000) (l0 : 0 ≤ lo) (l1 : lo < 18446744073709551616) : DivAt hi lo y := by
  by_cases hz : hi = 0
  · subst hz
    exact div64_low lo y l0 l1 h1 (by omega)
  obtain ⟨yn, rfl⟩ := Int.eq_ofNat_of_zero_le (a := y) (by omega)
  obtain ⟨hn, rfl⟩ := Int.eq_ofNat_of_zero_le h0
  obtain ⟨ln, rfl⟩ := Int.eq_ofNat_of_zero_le l0
  obtain ⟨b1, b2, b3⟩ := Lib.bitLenAux_bounds 64 yn (by omega) (by omega)
  have hbl : Lib.bitLen yn = Lib.bitLenAux 64 yn := rfl
  generalize Lib.bitLenAux 64 yn = b at *
  have b4 : b ≤ 60 := by
    rcases Nat.lt_or_ge 60 b with h | h
    · have : 2 ^ 60 ≤ 2 ^ (b - 1) := Nat.pow_le_pow_right (by decide) (by omega)
      omega
    · exact h
  have b5 : 2 ≤ b := by
    rcases Nat.lt_or_ge b 2 with h | h
    · have : b = 1 := by omega
      subst this
      omega
    · exact h
  obtain ⟨k, hk⟩ : ∃ k, k + b = 64 := ⟨64 - b, by omega⟩
  intro w
  have hpN : 2 ^ b * 2 ^ k = 18446744073709551616 := by rw [← Nat.pow_add, Nat.add_comm, hk]
  have hpN' : 2 ^ (b - 1) * 2 ^ k = 9223372036854775808 := by rw [← Nat.pow_add, show b - 1 + k = 63 by omega]
  have vN1 : yn * 2 ^ k < 18446744073709551616 := by rw [← hpN]; exact Nat.mul_lt_mul_of_pos_right b3 (Nat.two_pow_pos k)
  have vN0 : 9223372036854775808 ≤ yn * 2 ^ k := by rw [← hpN']; exact Nat.mul_le_mul_right _ b2
  have kp : 1 ≤ 2 ^ k := Nat.two_pow_pos k
  have bp : 1 ≤ 2 ^ b := Nat.two_pow_pos b
  have hor := or_add hn ln k b hk (by omega) (by omega)
  have eV : (yn : Int) * 2 ^ k = ((yn * 2 ^ k : Nat) : Int) := by rw [Int.natCast_mul, Int.natCast_pow]; rfl
  have lb : ln / 2 ^ b < 2 ^ k := by
    rw [Nat.div_lt_iff_lt_mul (Nat.two_pow_pos b), Nat.mul_comm, hpN]; omega
  have eU : (hn : Int) * 2 ^ k + (ln : Int) / 2 ^ b = ((hn * 2 ^ k + ln / 2 ^ b : Nat) : Int) := by
    rw [Int.natCast_add, Int.natCast_mul, Int.natCast_ediv, Int.natCast_pow, Int.natCast_pow]; rfl
  have uv : hn * 2 ^ k + ln / 2 ^ b < yn * 2 ^ k := by
    have : (hn + 1) * 2 ^ k ≤ yn * 2 ^ k := Nat.mul_le_mul_right _ (by omega)
    rw [Nat.add_mul] at this; omega
  have eC : IntKind.u64.wrap ((ln : Int) * 2 ^ k) = ((ln % 2 ^ b * 2 ^ k : Nat) : Int) := by
    have e1 : (ln : Int) * 2 ^ k = ((ln * 2 ^ k : Nat) : Int) := by rw [Int.natCast_mul, Int.natCast_pow]; rfl
    rw [e1, IntKind.wrap_u64]
    have e2 : ln * 2 ^ k % 18446744073709551616 = ln % 2 ^ b * 2 ^ k := by rw [← hpN, Nat.mul_mod_mul_right]
    omega
  have cN : ln % 2 ^ b * 2 ^ k < 18446744073709551616 := by
    rw [← hpN]; exact Nat.mul_lt_mul_of_pos_right (Nat.mod_lt _ (Nat.two_pow_pos b)) (Nat.two_pow_pos k)
  have hX : (hn * 18446744073709551616 + ln) * 2 ^ k = (hn * 2 ^ k + ln / 2 ^ b) * 18446744073709551616 + ln % 2 ^ b * 2 ^ k := by
    have e := Nat.div_add_mod ln (2 ^ b)
    have e4 : ln * 2 ^ k = ln / 2 ^ b * 18446744073709551616 + ln % 2 ^ b * 2 ^ k := by
      rw [← hpN, ← Nat.mul_assoc, ← Nat.add_mul, Nat.mul_comm (ln / 2 ^ b), e]
    rw [Nat.add_mul, Nat.add_mul, e4, Nat.mul_right_comm]; omega
  have eX : ((hn : Int) * 18446744073709551616 + ln) * 2 ^ k = (((hn * 18446744073709551616 + ln) * 2 ^ k : Nat) : Int) := by
    rw [Int.natCast_mul, Int.natCast_add, Int.natCast_mul, Int.natCast_pow]; rfl
  have hsc := scaled (X := (hn : Int) * 18446744073709551616 + ln) (y := yn) (p := 2 ^ k) (Int.pow_pos (by decide))
  rw [← hsc.1, ← hsc.2, eX, hX, eV]
  have HZ : Hid (∀ W : World, Calls Try.prog 62 #[.int .u64 (yn : Int)] W fun e w' => e = .returned (.int .i64 k) ∧ w' = W) := fun W => by
    have h := Try.bits_LeadingZeros64 (yn : Int) W (by omega) (by omega)
    rw [Int.toNat_natCast, hbl, show 64 - (b : Int) = k by omega] at h
    exact h
  rw [eU] at hor
  clear hX eX hsc hpN' b2 b3 eU
  generalize yn * 2 ^ k = V at *
  generalize hn * 2 ^ k + ln / 2 ^ b = U at *
  generalize ln % 2 ^ b * 2 ^ k = C at *
  obtain ⟨Y1, hY1⟩ : ∃ x : Int, (V : Int) / 4294967296 = x := ⟨_, rfl⟩
  obtain ⟨Y0, hY0⟩ : ∃ x : Int, (V : Int) % 4294967296 = x := ⟨_, rfl⟩
  obtain ⟨U1, hU1⟩ : ∃ x : Int, (C : Int) / 4294967296 = x := ⟨_, rfl⟩
  obtain ⟨U0, hU0⟩ : ∃ x : Int, (C : Int) % 4294967296 = x := ⟨_, rfl⟩
  obtain ⟨D1, hD1⟩ : ∃ x : Int, x = ((U : Int) * 4294967296 + U1) / V := ⟨_, rfl⟩
  have g1 : Dig Y1 Y0 V U U1 D1 := ⟨by omega, by omega, by omega, by omega, by omega, by omega, by omega, by omega, by omega, hD1⟩
  have hr := g1.rest
  obtain ⟨U2, hU2⟩ : ∃ x : Int, x = (U : Int) * 4294967296 + U1 - D1 * V := ⟨_, rfl⟩
  obtain ⟨D0, hD0⟩ : ∃ x : Int, x = (U2 * 4294967296 + U0) / V := ⟨_, rfl⟩
  have g2 : Dig Y1 Y0 V U2 U0 D0 := ⟨by omega, by omega, by omega, by omega, by omega, by rw [hU2]; exact hr.1, by rw [hU2]; exact hr.2, by omega, by omega, hD0⟩
  have ht := two_digits (N := ((U * 18446744073709551616 + C : Nat) : Int)) (V := V) (U := U) (u1 := U1) (u0 := U0) (D1 := D1) (by omega) (by omega) hU2 hD0
  rw [ht.1, ht.2]
  have hcore := div64_core hn ln yn V Y1 Y0 U C U1 U0 D1 U2 D0 k (by omega) h1 (by omega) (by omega) w HZ (by rw [eV, IntKind.wrap_u64]; omega) hY1 (by rw [and32 _ (by omega) (by omega)]; exact hY0) hor eC hU1 (by rw [and32 _ (by omega) (by omega)]; exact hU0) l0 l1 (by omega) (by omega) (by omega) (by omega) (by omega) g1 g2 hU2
  exact hcore
end
section
open Go.RowKit
theorem mul_full (a b : Int) (w : World) :
    Calls Try.prog 45 #[.int .i64 a, .int .i64 b] w fun e w' => e = .returned (.tuple #[.int .i64 (mulR a b).1, .int .i64 (mulR a b).2]) ∧ Below w.heap.size w w' := by
  refine mul_any a b w (fun _ _ h => ?_)
  have n0 : 0 ≤ absI a * absI b := Int.mul_nonneg (absI_nn a) (absI_nn b)
  exact div64_any _ _ _ (by omega) h (by decide) (by omega) (by omega)
theorem div_full (a b : Int) (w : World) :
    Calls Try.prog 36 #[.int .i64 a, .int .i64 b] w fun e w' => e = .returned (.tuple #[.int .i64 (divR a b).1, .int .i64 (divR a b).2]) ∧ Below w.heap.size w w' := by
  refine div_any a b w (fun hz h => ?_)
  have n0 := absI_nn a
  obtain ⟨_, hb, _⟩ := divisR_zero hz
  obtain ⟨b1, b2⟩ := fitsB_true hb
  exact div64_any _ _ _ (by omega) h (absI_le b1 b2) (by omega) (by omega)
end
end Go.Proofs.Ytfopebfejmlhbab
