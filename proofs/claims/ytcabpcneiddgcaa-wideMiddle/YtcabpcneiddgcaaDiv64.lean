/-
  The contract of math/bits.Div64 where the high word is not 0.
-/
import Derived.Test.YtcabpcneiddgcaaArith
import Derived.Test.YtcabpcneiddgcaaDivMath
import Derived.Handy
namespace Go.Proofs.Ytcabpcneiddgcaa
open Go.RowKit

set_option maxHeartbeats 4000000 in
theorem div64_core (hi lo y V Y1 Y0 U C U1 U0 D1 U2 D0 : Int) (k : Nat) (h0 : 0 < hi) (h1 : hi < y) (s0 : 4 ≤ k) (s1 : k ≤ 62) (w : World)
    (HZ : Hid (∀ W : World, Calls Try.prog 42 #[.int .u64 y] W fun e w' => e = .returned (.int .i64 k) ∧ w' = W))
    (e1 : IntKind.u64.wrap (y * 2 ^ k) = V) (e2 : V / 4294967296 = Y1) (e3 : bits BinOp.and IntKind.u64 V 4294967295 = Y0)
    (e4 : bits BinOp.or IntKind.u64 (IntKind.u64.wrap (hi * 2 ^ k)) (lo / 2 ^ (64 - k)) = U) (e5 : IntKind.u64.wrap (lo * 2 ^ k) = C) (e6 : C / 4294967296 = U1) (e7 : bits BinOp.and IntKind.u64 C 4294967295 = U0)
    (_l0 : 0 ≤ lo) (_l1 : lo < 18446744073709551616) (_c0 : 0 ≤ C) (_c1 : C < 18446744073709551616) (v0 : 0 ≤ V) (v1 : V < 18446744073709551616) (_hy : y < 18446744073709551616)
    (g1 : Dig Y1 Y0 V U U1 D1) (g2 : Dig Y1 Y0 V U2 U0 D0) (hU2 : U2 = U * 4294967296 + U1 - D1 * V) :
    Calls Try.prog 39 #[.int .u64 hi, .int .u64 lo, .int .u64 y] w fun e w' => e = .returned (.tuple #[.int .u64 (D1 * 4294967296 + D0), .int .u64 ((U2 * 4294967296 + U0 - D0 * V) / 2 ^ k)]) ∧ Below w.heap.size w w' := by
  have G1 := hide g1
  have G2 := hide g2
  have y1 := g1.y1; have y2 := g1.y2; have z1 := g1.z1; have z2 := g1.z2
  have a1 := g1.a1; have a2 := g1.a2; have u1 := g1.u1; have u2 := g1.u2
  have b1 := g2.a1; have b2 := g2.a2; have t1 := g2.u1; have t2 := g2.u2
  have f1 := g1.firstNn; have f2 := g1.firstLe
  obtain ⟨f3, f4, f5⟩ := g1.firstMul
  have p1 := g2.firstNn; have p2 := g2.firstLe
  obtain ⟨p3, p4, p5⟩ := g2.firstMul
  have d1 := g1.nn; have d2 := g1.lt; have d3 := g2.nn; have d4 := g2.lt
  have r1 := g2.rest.1; have r2 := g2.rest.2
  have W1 : IntKind.u64.wrap (IntKind.u64.wrap (IntKind.u64.wrap (U * 4294967296) + U1) - IntKind.u64.wrap (D1 * V)) = U2 := by
    rw [hU2]; exact wrap_rest (by omega) (by omega)
  have W2 : IntKind.u64.wrap (IntKind.u64.wrap (IntKind.u64.wrap (U2 * 4294967296) + U0) - IntKind.u64.wrap (D0 * V)) = U2 * 4294967296 + U0 - D0 * V := wrap_rest r1 (by omega)
  have yz : (Y1 == 0) = false := beq_eq_false_iff_ne.2 (by omega)
  clear g1 g2 hU2
  go_enter Try.func39, Try.ntmps39
  go_wp2_with (go_at_call 42; refine (HZ.out _).mono ?_; rintro e w' ⟨rfl, rfl⟩)
  go_loop [15, 16] (fun a b => ∃ q r : Int, a = .int .u64 q ∧ b = .int .u64 r ∧ D1 ≤ q ∧ q ≤ 4294967297 ∧ 0 ≤ r ∧ r < 4294967296 ∧ U = q * Y1 + r) (fun a _ => (intOf a).toNat)
  case atStart => exact ⟨_, _, rfl, rfl, G1.out.first, by omega, by omega, by omega, by omega⟩
  case round =>
    obtain ⟨q, r, rfl, rfl, q1, q2, r1, r2, he⟩ := hrel
    have HQ := hide he
    clear he
    by_cases hbig : 4294967296 ≤ q
    · obtain ⟨n1, n2⟩ := G1.out.step HQ.out q1 (Or.inl hbig)
      have N2 := hide n2
      clear n2
      by_cases hbr : 4294967296 ≤ r + Y1
      · have hx := G1.out.out N2.out n1 hbr (by omega)
        clear q1 q2 n1 N2 HQ
        go_wp2_with fail
        go_loop [18, 16] (fun a b => ∃ q r : Int, a = .int .u64 q ∧ b = .int .u64 r ∧ D0 ≤ q ∧ q ≤ 4294967297 ∧ 0 ≤ r ∧ r < 4294967296 ∧ U2 = q * Y1 + r) (fun a _ => (intOf a).toNat)
        case atStart => exact ⟨_, _, rfl, rfl, G2.out.first, by omega, by omega, by omega, by omega⟩
        case round =>
          obtain ⟨q, r, rfl, rfl, q1, q2, r1, r2, he⟩ := hrel
          have HQ := hide he
          clear he
          by_cases hbig : 4294967296 ≤ q
          · obtain ⟨n1, n2⟩ := G2.out.step HQ.out q1 (Or.inl hbig)
            have N2 := hide n2
            clear n2
            by_cases hbr : 4294967296 ≤ r + Y1
            · have hx := G2.out.out N2.out n1 hbr (by omega)
              clear q1 q2 n1 N2 HQ
              go_wp2
              go_ret2
              exact ⟨rfl, Below.refl _ _⟩
            · go_wp2
              go_round
              case rel => exact ⟨q - 1, r + Y1, rfl, rfl, n1, by omega, by omega, by omega, N2.out⟩
              case measure => simp [intOf]; omega
          · obtain ⟨m1, m2⟩ := G2.out.mulY0 q1 (by omega)
            by_cases hgt : 4294967296 * r + U0 < q * Y0
            · obtain ⟨n1, n2⟩ := G2.out.step HQ.out q1 (Or.inr hgt)
              have N2 := hide n2
              clear n2
              by_cases hbr : 4294967296 ≤ r + Y1
              · have hx := G2.out.out N2.out n1 hbr (by omega)
                clear q1 q2 n1 N2 HQ
                go_wp2
                go_ret2
                exact ⟨rfl, Below.refl _ _⟩
              · go_wp2
                go_round
                case rel => exact ⟨q - 1, r + Y1, rfl, rfl, n1, by omega, by omega, by omega, N2.out⟩
                case measure => simp [intOf]; omega
            · have hx := G2.out.done HQ.out q1 (by omega)
              subst hx
              clear q1 q2 HQ
              go_wp2
              go_ret2
              exact ⟨rfl, Below.refl _ _⟩
      · go_wp2
        go_round
        case rel => exact ⟨q - 1, r + Y1, rfl, rfl, n1, by omega, by omega, by omega, N2.out⟩
        case measure => simp [intOf]; omega
    · obtain ⟨m1, m2⟩ := G1.out.mulY0 q1 (by omega)
      by_cases hgt : 4294967296 * r + U1 < q * Y0
      · obtain ⟨n1, n2⟩ := G1.out.step HQ.out q1 (Or.inr hgt)
        have N2 := hide n2
        clear n2
        by_cases hbr : 4294967296 ≤ r + Y1
        · have hx := G1.out.out N2.out n1 hbr (by omega)
          clear q1 q2 n1 N2 HQ
          go_wp2_with fail
          go_loop [18, 16] (fun a b => ∃ q r : Int, a = .int .u64 q ∧ b = .int .u64 r ∧ D0 ≤ q ∧ q ≤ 4294967297 ∧ 0 ≤ r ∧ r < 4294967296 ∧ U2 = q * Y1 + r) (fun a _ => (intOf a).toNat)
          case atStart => exact ⟨_, _, rfl, rfl, G2.out.first, by omega, by omega, by omega, by omega⟩
          case round =>
            obtain ⟨q, r, rfl, rfl, q1, q2, r1, r2, he⟩ := hrel
            have HQ := hide he
            clear he
            by_cases hbig : 4294967296 ≤ q
            · obtain ⟨n1, n2⟩ := G2.out.step HQ.out q1 (Or.inl hbig)
              have N2 := hide n2
              clear n2
              by_cases hbr : 4294967296 ≤ r + Y1
              · have hx := G2.out.out N2.out n1 hbr (by omega)
                clear q1 q2 n1 N2 HQ
                go_wp2
                go_ret2
                exact ⟨rfl, Below.refl _ _⟩
              · go_wp2
                go_round
                case rel => exact ⟨q - 1, r + Y1, rfl, rfl, n1, by omega, by omega, by omega, N2.out⟩
                case measure => simp [intOf]; omega
            · obtain ⟨m1, m2⟩ := G2.out.mulY0 q1 (by omega)
              by_cases hgt : 4294967296 * r + U0 < q * Y0
              · obtain ⟨n1, n2⟩ := G2.out.step HQ.out q1 (Or.inr hgt)
                have N2 := hide n2
                clear n2
                by_cases hbr : 4294967296 ≤ r + Y1
                · have hx := G2.out.out N2.out n1 hbr (by omega)
                  clear q1 q2 n1 N2 HQ
                  go_wp2
                  go_ret2
                  exact ⟨rfl, Below.refl _ _⟩
                · go_wp2
                  go_round
                  case rel => exact ⟨q - 1, r + Y1, rfl, rfl, n1, by omega, by omega, by omega, N2.out⟩
                  case measure => simp [intOf]; omega
              · have hx := G2.out.done HQ.out q1 (by omega)
                subst hx
                clear q1 q2 HQ
                go_wp2
                go_ret2
                exact ⟨rfl, Below.refl _ _⟩
        · go_wp2
          go_round
          case rel => exact ⟨q - 1, r + Y1, rfl, rfl, n1, by omega, by omega, by omega, N2.out⟩
          case measure => simp [intOf]; omega
      · have hx := G1.out.done HQ.out q1 (by omega)
        subst hx
        clear q1 q2 HQ
        go_wp2_with fail
        go_loop [18, 16] (fun a b => ∃ q r : Int, a = .int .u64 q ∧ b = .int .u64 r ∧ D0 ≤ q ∧ q ≤ 4294967297 ∧ 0 ≤ r ∧ r < 4294967296 ∧ U2 = q * Y1 + r) (fun a _ => (intOf a).toNat)
        case atStart => exact ⟨_, _, rfl, rfl, G2.out.first, by omega, by omega, by omega, by omega⟩
        case round =>
          obtain ⟨q, r, rfl, rfl, q1, q2, r1, r2, he⟩ := hrel
          have HQ := hide he
          clear he
          by_cases hbig : 4294967296 ≤ q
          · obtain ⟨n1, n2⟩ := G2.out.step HQ.out q1 (Or.inl hbig)
            have N2 := hide n2
            clear n2
            by_cases hbr : 4294967296 ≤ r + Y1
            · have hx := G2.out.out N2.out n1 hbr (by omega)
              clear q1 q2 n1 N2 HQ
              go_wp2
              go_ret2
              exact ⟨rfl, Below.refl _ _⟩
            · go_wp2
              go_round
              case rel => exact ⟨q - 1, r + Y1, rfl, rfl, n1, by omega, by omega, by omega, N2.out⟩
              case measure => simp [intOf]; omega
          · obtain ⟨m1, m2⟩ := G2.out.mulY0 q1 (by omega)
            by_cases hgt : 4294967296 * r + U0 < q * Y0
            · obtain ⟨n1, n2⟩ := G2.out.step HQ.out q1 (Or.inr hgt)
              have N2 := hide n2
              clear n2
              by_cases hbr : 4294967296 ≤ r + Y1
              · have hx := G2.out.out N2.out n1 hbr (by omega)
                clear q1 q2 n1 N2 HQ
                go_wp2
                go_ret2
                exact ⟨rfl, Below.refl _ _⟩
              · go_wp2
                go_round
                case rel => exact ⟨q - 1, r + Y1, rfl, rfl, n1, by omega, by omega, by omega, N2.out⟩
                case measure => simp [intOf]; omega
            · have hx := G2.out.done HQ.out q1 (by omega)
              subst hx
              clear q1 q2 HQ
              go_wp2
              go_ret2
              exact ⟨rfl, Below.refl _ _⟩
end Go.Proofs.Ytcabpcneiddgcaa
