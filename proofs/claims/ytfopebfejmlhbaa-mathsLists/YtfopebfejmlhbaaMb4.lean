/-
  The answer's fits, Root, Fact.
-/
import Derived.Test.YtfopebfejmlhbaaMb3
import Derived.Test.YtfopebfejmlhbaaMa8
namespace Go.Proofs.Ytfopebfejmlhbaa
open Go.RowKit

theorem square_parts {x P Q : Int} (h : x = P * 1000000 + Q) : x * x = P * P * 1000000000000 + 2 * P * Q * 1000000 + Q * Q := by
  subst h
  rw [Int.add_mul, Int.mul_add, Int.mul_add]
  have e1 : P * 1000000 * (P * 1000000) = P * P * 1000000000000 := by rw [Int.mul_assoc, Int.mul_left_comm, Int.mul_comm 1000000, Int.mul_assoc, Int.mul_assoc, Int.mul_comm 1000000, Int.mul_assoc]; rfl
  have e2 : P * 1000000 * Q = P * Q * 1000000 := by rw [Int.mul_assoc, Int.mul_comm 1000000, Int.mul_assoc]
  have e3 : Q * (P * 1000000) = P * Q * 1000000 := by rw [Int.mul_comm Q, e2]
  have e4 : 2 * P * Q = P * Q + P * Q := by rw [Int.mul_assoc]; omega
  rw [e1, e2, e3, e4]
  generalize P * P = A
  generalize P * Q = B
  generalize Q * Q = C
  omega

set_option maxHeartbeats 1000000 in
theorem rfitsq_any (x n : Int) (w : World) (h0 : 0 ≤ x) (h1 : x ≤ 2000000000000) :
    Calls Try.prog 62 #[.int .i64 x, .int .i64 n] w fun e w' => e = .returned (.bool (decide (x * x ≤ n * 1000000))) ∧ w' = w := by
  obtain ⟨P, hP⟩ : ∃ P, x / 1000000 = P := ⟨_, rfl⟩
  obtain ⟨Q, hQ⟩ : ∃ Q, x % 1000000 = Q := ⟨_, rfl⟩
  have hP' : x.tdiv 1000000 = P := by rw [Int.tdiv_eq_ediv_of_nonneg h0]; exact hP
  have hQ' : x.tmod 1000000 = Q := by rw [tm_pos h0]; exact hQ
  have p0 : 0 ≤ P := by omega
  have p1 : P ≤ 2000000 := by omega
  have q0 : 0 ≤ Q := by omega
  have q1 : Q ≤ 1000000 := by omega
  have a0 : 0 ≤ P * P := Int.mul_nonneg p0 p0
  have a1 : P * P ≤ 2000000 * 2000000 := Int.mul_le_mul p1 p1 p0 (by decide)
  have b0 : 0 ≤ 2 * P * Q := Int.mul_nonneg (by omega) q0
  have b1 : 2 * P * Q ≤ 4000000 * 1000000 := Int.mul_le_mul (by omega) q1 q0 (by decide)
  have c0 : 0 ≤ Q * Q := Int.mul_nonneg q0 q0
  have c1 : Q * Q ≤ 1000000 * 1000000 := Int.mul_le_mul q1 q1 q0 (by decide)
  have hx := square_parts (x := x) (P := P) (Q := Q) (by omega)
  obtain ⟨R, hR⟩ : ∃ R, (Q * Q + 1000000 - 1) / 1000000 = R := ⟨_, rfl⟩
  have hR1 : (Q * Q + 1000000 - 1).tdiv 1000000 = R := by rw [Int.tdiv_eq_ediv_of_nonneg (by omega)]; exact hR
  have hR2 : (Q * Q + 999999) / 1000000 = R := by omega
  have hR3 : (Q * Q + 999999).tdiv 1000000 = R := by rw [Int.tdiv_eq_ediv_of_nonneg (by omega)]; exact hR2
  have HE : Hid (decide (x * x ≤ n * 1000000) = decide (P * P * 1000000 + 2 * P * Q + R ≤ n)) := by
    show _ = _
    rw [decide_eq_decide, hx]
    generalize P * P = A at *
    generalize 2 * P * Q = B at *
    generalize Q * Q = C at *
    omega
  have w1 : IntKind.i64.wrap P = P := wrapI (by omega) (by omega)
  have w2 : IntKind.i64.wrap Q = Q := wrapI (by omega) (by omega)
  have w3 : IntKind.i64.wrap (P * P) = P * P := wrapI (by omega) (by omega)
  have w4 : IntKind.i64.wrap (P * P * 1000000) = P * P * 1000000 := wrapI (by omega) (by omega)
  have w5 : IntKind.i64.wrap (2 * P) = 2 * P := wrapI (by omega) (by omega)
  have w6 : IntKind.i64.wrap (2 * P * Q) = 2 * P * Q := wrapI (by omega) (by omega)
  have w7 : IntKind.i64.wrap (P * P * 1000000 + 2 * P * Q) = P * P * 1000000 + 2 * P * Q := wrapI (by omega) (by omega)
  have w8 : IntKind.i64.wrap (Q * Q) = Q * Q := wrapI (by omega) (by omega)
  have w9 : IntKind.i64.wrap (Q * Q + 1000000) = Q * Q + 1000000 := wrapI (by omega) (by omega)
  have w10 : IntKind.i64.wrap (Q * Q + 1000000 - 1) = Q * Q + 1000000 - 1 := wrapI (by omega) (by omega)
  have w11 : IntKind.i64.wrap R = R := wrapI (by omega) (by omega)
  have w12 : IntKind.i64.wrap (P * P * 1000000 + 2 * P * Q + R) = P * P * 1000000 + 2 * P * Q + R := wrapI (by omega) (by omega)
  clear hx a0 a1 b0 b1 c0 c1 p0 p1 q0 q1 h0 h1 hR
  generalize decide (x * x ≤ n * 1000000) = r at *
  go_enter Try.func62, Try.ntmps62
  go_wp2
  go_ret
  exact ⟨by rw [HE.out]; rfl, rfl⟩

set_option maxHeartbeats 1000000 in
theorem rroot_any (n r : Int) (w : World) (hr : fitsB n = true → 0 ≤ n → RootIs (n * 1000000) r) :
    Calls Try.prog 31 #[.int .i64 n] w fun e w' => e = .returned (.tuple #[.int .i64 (shown1 n (mrootR n r)).1, .int .i64 (shown1 n (mrootR n r)).2]) ∧ w' = w := by
  have HF := hide (fun W : World => rfits_any n W)
  cases hf : fitsB n
  · rw [hf] at HF
    rw [show shown1 n (mrootR n r) = (0, 5) from if_neg (by rw [hf]; decide)]
    clear hf hr
    go_enter Try.func31, Try.ntmps31
    go_wp2_with (go_at_call 47; refine (HF.out _).mono ?_; rintro e w1 ⟨rfl, rfl⟩)
    go_ret2
    exact ⟨rfl, rfl⟩
  · rw [hf] at HF
    obtain ⟨n1, n2⟩ := fitsB_true hf
    rw [show shown1 n (mrootR n r) = shown (mrootR n r) from if_pos hf]
    by_cases hn : n < 0
    · rw [show mrootR n r = (0, 2) from if_pos hn, show shown (0, 2) = (0, 5) from rfl]
      clear hf hr
      go_enter Try.func31, Try.ntmps31
      go_wp2_with (go_at_call 47; refine (HF.out _).mono ?_; rintro e w1 ⟨rfl, rfl⟩)
      go_ret2
      exact ⟨rfl, rfl⟩
    · have hr1 := hr hf (by omega)
      have HR := hide hr1
      have r1 := root_le hr1 (by omega)
      have r0 := hr1.nn
      rw [show mrootR n r = (r, 0) from if_neg hn, shown_fit (x := (r, 0)) rfl (fitsB_of (by omega) (by omega))]
      have HQ := hide (fun (x : Int) (W : World) (h0 : 0 ≤ x) (h1 : x ≤ 2000000000000) => rfitsq_any x n W h0 h1)
      have HN : Hid (n * 1000000 < 1000000000001 * 1000000000001) := by show _ < _; omega
      have HN0 : Hid ((0 : Int) * 0 ≤ n * 1000000) := by show _ ≤ _; omega
      clear hr hr1 hf r0 r1
      go_enter Try.func31, Try.ntmps31
      go_wp2_with (go_at_call 47; refine (HF.out _).mono ?_; rintro e w1 ⟨rfl, rfl⟩)
      go_loop [4, 5] (fun lo hi => ∃ L H : Int, lo = .int .i64 L ∧ hi = .int .i64 H ∧ 0 ≤ L ∧ L < H ∧ H ≤ 1000000000001 ∧ L * L ≤ n * 1000000 ∧ n * 1000000 < H * H) (fun lo hi => (intOf hi - intOf lo).toNat)
      case atStart => exact ⟨0, 1000000000001, rfl, rfl, by decide, by decide, by decide, HN0.out, HN.out⟩
      case round =>
        obtain ⟨L, H, rfl, rfl, hL, hLH, hH, hl, hh⟩ := hrel
        have HLo := hide hl
        have HHi := hide hh
        have w0 : IntKind.i64.wrap (H - L) = H - L := wrapI (by omega) (by omega)
        clear HN HN0
        by_cases hc : 1 < H - L
        · obtain ⟨M, hM⟩ : ∃ M, (L + H) / 2 = M := ⟨_, rfl⟩
          have m1 : L < M := by omega
          have m2 : M < H := by omega
          have hM' : (L + H).tdiv 2 = M := by rw [Int.tdiv_eq_ediv_of_nonneg (by omega)]; exact hM
          have w1 : IntKind.i64.wrap (L + H) = L + H := wrapI (by omega) (by omega)
          have w2 : IntKind.i64.wrap M = M := wrapI (by omega) (by omega)
          have HX := hide (fun W : World => HQ.out M W (by omega) (by omega))
          clear hl hh HQ
          by_cases c : M * M ≤ n * 1000000
          · rw [decide_eq_true c] at HX
            have HC := hide c
            clear c
            go_wp2_with (go_at_call 62; refine (HX.out _).mono ?_; rintro e w1 ⟨rfl, rfl⟩)
            go_round
            case rel => exact ⟨M, H, rfl, rfl, by omega, by omega, hH, HC.out, HHi.out⟩
            case measure => simp [intOf]; omega
          · rw [decide_eq_false c] at HX
            have HC : Hid (n * 1000000 < M * M) := by show _ < _; omega
            clear c
            go_wp2_with (go_at_call 62; refine (HX.out _).mono ?_; rintro e w1 ⟨rfl, rfl⟩)
            go_round
            case rel => exact ⟨L, M, rfl, rfl, hL, by omega, by omega, HLo.out, HC.out⟩
            case measure => simp [intOf]; omega
        · have e : H = L + 1 := by omega
          have hh2 : n * 1000000 < L * L + (L + L + 1) := by
            rw [e] at hh
            rw [Int.add_mul, Int.mul_add] at hh
            omega
          obtain ⟨A, hA⟩ : ∃ A, IntKind.u64.wrap (n * 1000000) = A := ⟨_, rfl⟩
          obtain ⟨B, hB⟩ : ∃ B, IntKind.u64.wrap (L * L) = B := ⟨_, rfl⟩
          obtain ⟨D, hD⟩ : ∃ D, n * 1000000 - L * L = D := ⟨_, rfl⟩
          have hW : IntKind.u64.wrap (A - B) = D := by
            rw [← hA, ← hB]
            simp only [IntKind.wrap_u64]
            omega
          have u1 : IntKind.u64.wrap n = n := by rw [IntKind.wrap_u64]; omega
          have u2 : IntKind.u64.wrap L = L := by rw [IntKind.wrap_u64]; omega
          have u3 : IntKind.i64.wrap (L + 1) = L + 1 := wrapI (by omega) (by omega)
          clear HQ
          by_cases c : L < D
          · have hR : L + 1 = r := by
              refine root_unique (N := n * 1000000) ⟨by omega, ?_, Or.inr ?_⟩ HR.out
              · rw [Int.add_mul, Int.mul_add, Int.mul_add]; omega
              · rw [show L + 1 - 1 = L by omega, Int.mul_add]; omega
            subst hR
            clear hl hh hh2 hD HR HLo HHi
            go_wp2
            go_ret2
            exact ⟨rfl, rfl⟩
          · have hR : L = r := by
              refine root_unique (N := n * 1000000) ⟨hL, ?_, ?_⟩ HR.out
              · rw [Int.mul_add]; omega
              · by_cases z : L = 0
                · exact Or.inl z
                · right; rw [Int.sub_mul]; omega
            subst hR
            clear hl hh hh2 hD HR HLo HHi
            go_wp2
            go_ret2
            exact ⟨rfl, rfl⟩

theorem fa_over : fa 15 = 1307674368000 := rfl
theorem fa_next {j : Nat} : (fa j : Int) * ((j : Int) + 1) = (fa (j + 1) : Int) := by
  show _ = ((fa j * (j + 1) : Nat) : Int)
  rw [Int.natCast_mul]; rfl

set_option maxHeartbeats 1000000 in
theorem rfact_any (n : Int) (w : World) :
    Calls Try.prog 33 #[.int .i64 n] w fun e w' => e = .returned (.tuple #[.int .i64 (shown1 n (mfactR n)).1, .int .i64 (shown1 n (mfactR n)).2]) ∧ w' = w := by
  have HF := hide (fun W : World => rfits_any n W)
  cases hf : fitsB n
  · rw [hf] at HF
    rw [show shown1 n (mfactR n) = (0, 5) from if_neg (by rw [hf]; decide)]
    clear hf
    go_enter Try.func33, Try.ntmps33
    go_wp2_with (go_at_call 47; refine (HF.out _).mono ?_; rintro e w1 ⟨rfl, rfl⟩)
    go_ret2
    exact ⟨rfl, rfl⟩
  · rw [hf] at HF
    obtain ⟨n1, n2⟩ := fitsB_true hf
    rw [show shown1 n (mfactR n) = shown (mfactR n) from if_pos hf]
    by_cases hn : n < 0
    · rw [show mfactR n = (0, 2) from if_pos hn, show shown (0, 2) = (0, 5) from rfl]
      clear hf n1 n2
      go_enter Try.func33, Try.ntmps33
      go_wp2_with (go_at_call 47; refine (HF.out _).mono ?_; rintro e w1 ⟨rfl, rfl⟩)
      go_ret2
      exact ⟨rfl, rfl⟩
    · by_cases hb : 20000000 ≤ n
      · rw [show mfactR n = (0, 3) from (if_neg hn).trans (if_neg (by omega)), show shown (0, 3) = (0, 5) from rfl]
        clear hf n1 n2
        go_enter Try.func33, Try.ntmps33
        go_wp2_with (go_at_call 47; refine (HF.out _).mono ?_; rintro e w1 ⟨rfl, rfl⟩)
        go_ret2
        exact ⟨rfl, rfl⟩
      · obtain ⟨m, hm⟩ : ∃ m : Nat, n / 1000000 = (m : Int) := ⟨(n / 1000000).toNat, by omega⟩
        have hm' : n.tdiv 1000000 = (m : Int) := by rw [Int.tdiv_eq_ediv_of_nonneg (by omega)]; exact hm
        have hmn : (n / 1000000).toNat = m := by omega
        have HE : Hid (mfactR n = if m ≤ 14 then ((fa m : Int) * 1000000, 0) else (0, 3)) := by
          show mfactR n = _
          unfold mfactR
          rw [if_neg hn, hmn]
        have wm : IntKind.i64.wrap (m : Int) = (m : Int) := wrapI (by omega) (by omega)
        generalize mfactR n = G at *
        have hm20 : m < 20 := by omega
        clear hf n1 n2 hmn
        go_enter Try.func33, Try.ntmps33
        go_wp2_with (go_at_call 47; refine (HF.out _).mono ?_; rintro e w1 ⟨rfl, rfl⟩)
        go_loop [4, 5] (fun p i => ∃ j : Nat, 1 ≤ j ∧ j ≤ 14 ∧ (j ≤ m ∨ j = 1) ∧ p = .int .i64 (fa j : Int) ∧ i = .int .i64 ((j : Int) + 1)) (fun _ i => (16 - intOf i).toNat)
        case atStart => exact ⟨1, Nat.le_refl _, by decide, Or.inr rfl, rfl, rfl⟩
        case round =>
          obtain ⟨j, hj1, hj, hjm, rfl, rfl⟩ := hrel
          have fl := fa_le hj
          by_cases hc : (j : Int) + 1 ≤ (m : Int)
          · have HX := hide (fa_next (j := j))
            obtain ⟨x, hx⟩ : ∃ x, (fa j : Int) * ((j : Int) + 1) = x := ⟨_, rfl⟩
            have hxe : x = (fa (j + 1) : Int) := hx.symm.trans HX.out
            have w2 : IntKind.i64.wrap ((j : Int) + 1 + 1) = (j : Int) + 1 + 1 := wrapI (by omega) (by omega)
            by_cases e : j = 14
            · subst e
              rw [fa_over] at hxe
              subst hxe
              have w1 : IntKind.i64.wrap 1307674368000 = 1307674368000 := wrapI (by omega) (by omega)
              have HO : Hid (shown G = (0, 5)) := by show shown G = _; rw [HE.out, if_neg (by omega)]; rfl
              clear HE HX fl
              go_wp2
              go_ret2
              exact ⟨by rw [HO.out]; rfl, rfl⟩
            · have fl2 := fa_le (k := j + 1) (by omega)
              have w1 : IntKind.i64.wrap x = x := wrapI (by omega) (by omega)
              have hxl : ¬ 1000000000000 < x := by omega
              have HY := hide hxe
              have HI : Hid ((j : Int) + 1 + 1 = ((j + 1 : Nat) : Int) + 1) := by show _ = _; omega
              clear HE HX fl fl2 hxe
              go_wp2
              go_round
              case rel => exact ⟨j + 1, by omega, by omega, Or.inl (by omega), congrArg (Value.int .i64) HY.out, congrArg (Value.int .i64) HI.out⟩
              case measure => simp [intOf]; omega
          · have hfm : fa m = fa j := by
              have : m = j ∨ (m = 0 ∧ j = 1) := by omega
              rcases this with h | ⟨h1, h2⟩
              · rw [h]
              · rw [h1, h2]; rfl
            have HO : Hid (shown G = ((fa j : Int) * 1000000, 0)) := by
              show shown G = _
              rw [HE.out, if_pos (by omega), hfm, shown_fit rfl (fitsB_of (by show _ ≤ (fa j : Int) * 1000000; omega) (by show (fa j : Int) * 1000000 ≤ _; omega))]
            have w3 : IntKind.i64.wrap ((fa j : Int) * 1000000) = (fa j : Int) * 1000000 := wrapI (by omega) (by omega)
            clear HE fl hfm
            generalize (fa j : Int) = f at *
            go_wp2
            go_ret2
            exact ⟨by rw [HO.out]; rfl, rfl⟩
end Go.Proofs.Ytfopebfejmlhbaa
