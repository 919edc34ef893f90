/-
  The contract of the answer's Of of layer 2: a float's number, half by half.
-/
import Derived.Test.YtnjnbhfpgoondaaRefReal
namespace Go.Proofs.Ytnjnbhfpgoondaa
open Go.RowKit

theorem rof_keep {w1 w2 : World} {E F : Int} {ng : Bool} {t : TypeId} (hb : Below (w1.alloc (.cells #[.bool ng, .int .i64 E, .int .u64 F] t)).heap.size (w1.alloc (.cells #[.bool ng, .int .i64 E, .int .u64 F] t)) w2) : w2.cell? ⟨w1.heap.size, 0, none⟩ = some (.bool ng) := by
  rw [hb.cell (p := ⟨w1.heap.size, 0, none⟩) (by simp)]
  simp [go_sem]
theorem rof_below {w w1 w2 : World} {o : Obj} (hB : Below w.heap.size w w1) (hb : Below (w1.alloc o).heap.size (w1.alloc o) w2) : Below w.heap.size w w2 :=
  (hB.alloc hB.size _).trans (hb.mono (by have := hB.size; simp; omega))
set_option maxHeartbeats 4000000 in
theorem rof_arg (b kd : Int) (w : World) (hk : kd < 2)
    (HK : Hid (∀ W : World, Calls Try.prog 11 #[.int .u64 b] W fun e w' => e = .returned (.int .i64 kd) ∧ Below W.heap.size W w')) :
    Calls Try.prog 14 #[.int .u64 b] w fun e w' => e = .returned (.tuple #[.int .i64 0, .int .i64 2]) ∧ Below w.heap.size w w' := by
  have hB := Below.refl w.heap.size w
  go_enter Try.func14, Try.ntmps14
  go_wp2_with (go_at_call 11; refine (HK.out _).mono ?_; rintro e wn ⟨rfl, hbn⟩; replace hB := hB.trans (hbn.mono hB.size); clear hbn)
  go_ret2
  exact ⟨rfl, hB⟩
set_option maxHeartbeats 4000000 in
theorem rof_big (b kd E F m p : Int) (ng : Bool) (w : World) (hk : 2 ≤ kd) (m0 : 0 < m) (p0 : 10 < p)
    (HK : Hid (∀ W : World, Calls Try.prog 11 #[.int .u64 b] W fun e w' => e = .returned (.int .i64 kd) ∧ Below W.heap.size W w'))
    (HP : Hid (∀ W : World, Calls Try.prog 24 #[.int .u64 b] W fun e w' => e = .returned (.agg #[.bool ng, .int .i64 E, .int .u64 F]) ∧ Below W.heap.size W w'))
    (HS : Hid (∀ W : World, Calls Try.prog 26 #[.agg #[.bool ng, .int .i64 E, .int .u64 F]] W fun e w' => e = .returned (.tuple #[.int .u64 m, .int .i64 p]) ∧ Below W.heap.size W w')) :
    Calls Try.prog 14 #[.int .u64 b] w fun e w' => e = .returned (.tuple #[.int .i64 0, .int .i64 3]) ∧ Below w.heap.size w w' := by
  have hB := Below.refl w.heap.size w
  go_enter Try.func14, Try.ntmps14
  go_wp2_with (first | (go_at_call 11; refine (HK.out _).mono ?_; rintro e wn ⟨rfl, hbn⟩; replace hB := hB.trans (hbn.mono hB.size); clear hbn) | (go_at_call 24; refine (HP.out _).mono ?_; rintro e w1 ⟨rfl, hbn⟩; replace hB := hB.trans (hbn.mono hB.size); clear hbn) | (go_at_call 26; refine (HS.out _).mono ?_; rintro e w2 ⟨rfl, hbn⟩; have hc := rof_keep hbn; replace hB := rof_below hB hbn; clear hbn))
  go_ret2
  exact ⟨rfl, hB⟩
set_option maxHeartbeats 4000000 in
theorem rof_tiny (b kd E F m p : Int) (ng : Bool) (w : World) (hk : 2 ≤ kd) (m0 : 0 ≤ m) (p0 : p < -130)
    (HK : Hid (∀ W : World, Calls Try.prog 11 #[.int .u64 b] W fun e w' => e = .returned (.int .i64 kd) ∧ Below W.heap.size W w'))
    (HP : Hid (∀ W : World, Calls Try.prog 24 #[.int .u64 b] W fun e w' => e = .returned (.agg #[.bool ng, .int .i64 E, .int .u64 F]) ∧ Below W.heap.size W w'))
    (HS : Hid (∀ W : World, Calls Try.prog 26 #[.agg #[.bool ng, .int .i64 E, .int .u64 F]] W fun e w' => e = .returned (.tuple #[.int .u64 m, .int .i64 p]) ∧ Below W.heap.size W w')) :
    Calls Try.prog 14 #[.int .u64 b] w fun e w' => e = .returned (.tuple #[.int .i64 0, .int .i64 0]) ∧ Below w.heap.size w w' := by
  have hB := Below.refl w.heap.size w
  by_cases c : 0 < m
  · go_enter Try.func14, Try.ntmps14
    go_wp2_with (first | (go_at_call 11; refine (HK.out _).mono ?_; rintro e wn ⟨rfl, hbn⟩; replace hB := hB.trans (hbn.mono hB.size); clear hbn) | (go_at_call 24; refine (HP.out _).mono ?_; rintro e w1 ⟨rfl, hbn⟩; replace hB := hB.trans (hbn.mono hB.size); clear hbn) | (go_at_call 26; refine (HS.out _).mono ?_; rintro e w2 ⟨rfl, hbn⟩; have hc := rof_keep hbn; replace hB := rof_below hB hbn; clear hbn))
    go_ret2
    exact ⟨rfl, hB⟩
  · go_enter Try.func14, Try.ntmps14
    go_wp2_with (first | (go_at_call 11; refine (HK.out _).mono ?_; rintro e wn ⟨rfl, hbn⟩; replace hB := hB.trans (hbn.mono hB.size); clear hbn) | (go_at_call 24; refine (HP.out _).mono ?_; rintro e w1 ⟨rfl, hbn⟩; replace hB := hB.trans (hbn.mono hB.size); clear hbn) | (go_at_call 26; refine (HS.out _).mono ?_; rintro e w2 ⟨rfl, hbn⟩; have hc := rof_keep hbn; replace hB := rof_below hB hbn; clear hbn))
    go_ret2
    exact ⟨rfl, hB⟩
theorem split_N (m : Int) : (m / 68719476736 * 1000000 + m % 68719476736 * 1000000 / 68719476736) * 68719476736 + m % 68719476736 * 1000000 % 68719476736 = m * 1000000 := by omega
theorem halve {H L X : Int} (h : H * 68719476736 + L = X) : H / 2 * 68719476736 + (L / 2 + H % 2 * 34359738368) = X / 2 ∧ L % 2 = X % 2 := by omega
theorem doubled {H L X : Int} (h : H * 68719476736 + L = X) : (2 * H + 2 * L / 68719476736) * 68719476736 + 2 * L % 68719476736 = 2 * X := by omega
/-- What is left behind the halvings, rounded. -/
theorem half_end (N V : Int) (k : Nat) (hV : halfEven N (2 ^ k) = V) : V = if hb N k = 1 ∧ (hm N k = true ∨ hx N k % 2 = 1) then hx N k + 1 else hx N k := by
  rw [← hV]; exact half_steps N k
theorem hm_step (N : Int) (i : Nat) (M : Bool) (B : Int) (h1 : M = hm N i) (h2 : B = hb N i) : hm N (i + 1) = (M || decide (B = 1)) := by rw [h1, h2]; rfl
set_option maxHeartbeats 8000000 in
theorem rof_mid (b kd E F m p V r1 r2 : Int) (ng : Bool) (k : Nat) (w : World) (hk : 2 ≤ kd) (m0 : 4503599627370496 ≤ m) (m1 : m < 9007199254740992) (hp : p = -(k : Int)) (k0 : 1 ≤ k) (k1 : k ≤ 130)
    (HK : Hid (∀ W : World, Calls Try.prog 11 #[.int .u64 b] W fun e w' => e = .returned (.int .i64 kd) ∧ Below W.heap.size W w'))
    (HP : Hid (∀ W : World, Calls Try.prog 24 #[.int .u64 b] W fun e w' => e = .returned (.agg #[.bool ng, .int .i64 E, .int .u64 F]) ∧ Below W.heap.size W w'))
    (HS : Hid (∀ W : World, Calls Try.prog 26 #[.agg #[.bool ng, .int .i64 E, .int .u64 F]] W fun e w' => e = .returned (.tuple #[.int .u64 m, .int .i64 p]) ∧ Below W.heap.size W w'))
    (HV : Hid (halfEven (m * 1000000) (2 ^ k) = V)) (HR : Hid ((1000000000000000000 < V → r1 = 0 ∧ r2 = 3) ∧ (V ≤ 1000000000000000000 → r1 = put ng V ∧ r2 = 0))) :
    Calls Try.prog 14 #[.int .u64 b] w fun e w' => e = .returned (.tuple #[.int .i64 r1, .int .i64 r2]) ∧ Below w.heap.size w w' := by
  have hB := Below.refl w.heap.size w
  subst hp
  go_enter Try.func14, Try.ntmps14
  go_wp2_with (first | (go_at_call 11; refine (HK.out _).mono ?_; rintro e wn ⟨rfl, hbn⟩; replace hB := hB.trans (hbn.mono hB.size); clear hbn) | (go_at_call 24; refine (HP.out _).mono ?_; rintro e w1 ⟨rfl, hbn⟩; replace hB := hB.trans (hbn.mono hB.size); clear hbn) | (go_at_call 26; refine (HS.out _).mono ?_; rintro e w2 ⟨rfl, hbn⟩; have hc := rof_keep hbn; replace hB := rof_below hB hbn; clear hbn))
  go_loop [7, 8, 6] (fun a b c => ∃ L H : Int, a = .int .u64 L ∧ b = .int .u64 H ∧ c = .int .i64 (-(k : Int)) ∧ 0 ≤ L ∧ L < 68719476736 ∧ 0 ≤ H ∧ H < 137438953472 ∧ Hid (H * 68719476736 + L = m * 1000000)) (fun _ _ _ => 0)
  case atStart => exact ⟨_, _, rfl, rfl, rfl, by omega, by omega, by omega, by omega, split_N m⟩
  case round =>
    obtain ⟨L0, H0, rfl, rfl, rfl, l0, l1, g0, g1, HN⟩ := hrel
    have HH := hide (half_end (m * 1000000) V k HV.out)
    clear HV HK HP HS m0 m1 hk
    generalize m * 1000000 = N at *
    go_wp2_with fail
    go_loop [6, 7, 8, 9, 10] (fun a b c d e => ∃ (i : Nat) (L H B : Int) (M : Bool), a = .int .i64 ((i : Int) - k) ∧ b = .int .u64 L ∧ c = .int .u64 H ∧ d = .int .u64 B ∧ e = .bool M ∧ i ≤ k ∧ 0 ≤ L ∧ L < 68719476736 ∧ 0 ≤ H ∧ H < 137438953472 ∧ (B = 0 ∨ B = 1) ∧ Hid (H * 68719476736 + L = hx N i) ∧ Hid (B = hb N i) ∧ Hid (M = hm N i)) (fun a _ _ _ _ => (-(intOf a)).toNat)
    case atStart => exact ⟨0, L0, H0, 0, false, by simp, rfl, rfl, rfl, rfl, by omega, l0, l1, g0, g1, Or.inl rfl, HN, rfl, rfl⟩
    case round =>
      obtain ⟨i, L, H, B, M, rfl, rfl, rfl, rfl, rfl, hi, a0, a1, b0, b1, hB1, HX, HBB, HM⟩ := hrel
      by_cases c : i < k
      · have HX2 : Hid (H / 2 * 68719476736 + (L / 2 + H % 2 * 34359738368) = hx N (i + 1)) := (halve HX.out).1
        have HB2 : Hid (L % 2 = hb N (i + 1)) := (halve HX.out).2
        have hm2 := hm_step N i M B HM.out HBB.out
        have lt : (i : Int) - k < 0 := by omega
        clear HX HBB HM HN HH
        cases M
        · rcases hB1 with rfl | rfl
          · have HM2 : Hid (false = hm N (i + 1)) := hm2.symm
            clear hm2
            go_wp2
            go_round
            case rel => exact ⟨i + 1, L / 2 + H % 2 * 34359738368, H / 2, L % 2, false, by go_num, by go_num, by go_num, by go_num, by simp, by omega, by omega, by omega, by omega, by omega, by omega, HX2, HB2, HM2⟩
            case measure => simp [intOf]; omega
          · have HM2 : Hid (true = hm N (i + 1)) := hm2.symm
            clear hm2
            go_wp2
            go_round
            case rel => exact ⟨i + 1, L / 2 + H % 2 * 34359738368, H / 2, L % 2, true, by go_num, by go_num, by go_num, by go_num, by simp, by omega, by omega, by omega, by omega, by omega, by omega, HX2, HB2, HM2⟩
            case measure => simp [intOf]; omega
        · have HM2 : Hid (true = hm N (i + 1)) := hm2.symm
          clear hm2 hB1
          go_wp2
          go_round
          case rel => exact ⟨i + 1, L / 2 + H % 2 * 34359738368, H / 2, L % 2, true, by go_num, by go_num, by go_num, by go_num, by simp, by omega, by omega, by omega, by omega, by omega, by omega, HX2, HB2, HM2⟩
          case measure => simp [intOf]; omega
      · have ik : i = k := by omega
        subst ik
        have hx' := HX.out
        have hb' := HBB.out
        have hm' := HM.out
        have hE := HH.out
        rw [← hx', ← hb', ← hm'] at hE
        have HE := hide hE
        clear HX HBB HM HN HH hx' hb' hm' hE
        have zz : (i : Int) - i = 0 := by omega
        by_cases c4 : 67108864 ≤ H
        · have hv : 1000000000000000000 < V := by
            have := HE.out
            split at this <;> omega
          have C5 := hide hv
          clear HE hB1 hv
          go_wp2
          go_ret2
          exact ⟨by rw [(HR.out.1 C5.out).1, (HR.out.1 C5.out).2]; rfl, hB⟩
        · rcases hB1 with rfl | rfl
          · rw [if_neg (by simp)] at HE
            by_cases c5 : 1000000000000000000 < V
            · have c6 : 1000000000000000000 < H * 68719476736 + L := by have := HE.out; omega
              have C5 := hide c5
              clear c5
              go_wp2
              go_ret2
              exact ⟨by rw [(HR.out.1 C5.out).1, (HR.out.1 C5.out).2]; rfl, hB⟩
            · have c6 : H * 68719476736 + L ≤ 1000000000000000000 := by have := HE.out; omega
              have C5 := hide (Int.not_lt.1 c5)
              clear c5
              cases ng
              all_goals
                go_wp2
                go_ret2
                exact ⟨by rw [(HR.out.2 C5.out).1, (HR.out.2 C5.out).2, HE.out]; simp [put], hB⟩
          · cases M
            · by_cases c7 : (H * 68719476736 + L) % 2 = 1
              · rw [if_pos ⟨rfl, Or.inr c7⟩] at HE
                have t7 : ((H * 68719476736 + L) % 2 == 1) = true := by simpa using c7
                clear c7
                by_cases c5 : 1000000000000000000 < V
                · have c6 : 1000000000000000000 < H * 68719476736 + L + 1 := by have := HE.out; omega
                  have C5 := hide c5
                  clear c5
                  go_wp2
                  go_ret2
                  exact ⟨by rw [(HR.out.1 C5.out).1, (HR.out.1 C5.out).2]; rfl, hB⟩
                · have c6 : H * 68719476736 + L + 1 ≤ 1000000000000000000 := by have := HE.out; omega
                  have C5 := hide (Int.not_lt.1 c5)
                  clear c5
                  cases ng
                  all_goals
                    go_wp2
                    go_ret2
                    exact ⟨by rw [(HR.out.2 C5.out).1, (HR.out.2 C5.out).2, HE.out]; simp [put], hB⟩
              · rw [if_neg (fun h => h.2.elim (fun h => by cases h) c7)] at HE
                have t7 : ((H * 68719476736 + L) % 2 == 1) = false := by simpa using c7
                clear c7
                by_cases c5 : 1000000000000000000 < V
                · have c6 : 1000000000000000000 < H * 68719476736 + L := by have := HE.out; omega
                  have C5 := hide c5
                  clear c5
                  go_wp2
                  go_ret2
                  exact ⟨by rw [(HR.out.1 C5.out).1, (HR.out.1 C5.out).2]; rfl, hB⟩
                · have c6 : H * 68719476736 + L ≤ 1000000000000000000 := by have := HE.out; omega
                  have C5 := hide (Int.not_lt.1 c5)
                  clear c5
                  cases ng
                  all_goals
                    go_wp2
                    go_ret2
                    exact ⟨by rw [(HR.out.2 C5.out).1, (HR.out.2 C5.out).2, HE.out]; simp [put], hB⟩
            · rw [if_pos ⟨rfl, Or.inl rfl⟩] at HE
              by_cases c5 : 1000000000000000000 < V
              · have c6 : 1000000000000000000 < H * 68719476736 + L + 1 := by have := HE.out; omega
                have C5 := hide c5
                clear c5
                go_wp2
                go_ret2
                exact ⟨by rw [(HR.out.1 C5.out).1, (HR.out.1 C5.out).2]; rfl, hB⟩
              · have c6 : H * 68719476736 + L + 1 ≤ 1000000000000000000 := by have := HE.out; omega
                have C5 := hide (Int.not_lt.1 c5)
                clear c5
                cases ng
                all_goals
                  go_wp2
                  go_ret2
                  exact ⟨by rw [(HR.out.2 C5.out).1, (HR.out.2 C5.out).2, HE.out]; simp [put], hB⟩
theorem double_bd {N H L : Int} {i : Nat} (hi : i ≤ 10) (n0 : 4503599627370496000000 ≤ N) (n1 : N < 9007199254740992000000) (l0 : 0 ≤ L) (l1 : L < 68719476736) (h : H * 68719476736 + L = N * 2 ^ i) : 67108864 ≤ H ∧ H < 140737488355328 := by
  have a := pow_mono (s := N) (by omega) 0 i
  have b := pow_mono (s := N) (by omega) i (10 - i)
  rw [show i + (10 - i) = 10 by omega] at b
  rw [Nat.zero_add] at a
  have c : N * 2 ^ 10 = N * 1024 := rfl
  have d : N * 2 ^ 0 = N := by simp
  omega
set_option maxHeartbeats 8000000 in
theorem rof_high (b kd E F m p : Int) (ng : Bool) (q : Nat) (w : World) (hk : 2 ≤ kd) (m0 : 4503599627370496 ≤ m) (m1 : m < 9007199254740992) (hp : p = (q : Int)) (q1 : q ≤ 10)
    (HK : Hid (∀ W : World, Calls Try.prog 11 #[.int .u64 b] W fun e w' => e = .returned (.int .i64 kd) ∧ Below W.heap.size W w'))
    (HP : Hid (∀ W : World, Calls Try.prog 24 #[.int .u64 b] W fun e w' => e = .returned (.agg #[.bool ng, .int .i64 E, .int .u64 F]) ∧ Below W.heap.size W w'))
    (HS : Hid (∀ W : World, Calls Try.prog 26 #[.agg #[.bool ng, .int .i64 E, .int .u64 F]] W fun e w' => e = .returned (.tuple #[.int .u64 m, .int .i64 p]) ∧ Below W.heap.size W w')) :
    Calls Try.prog 14 #[.int .u64 b] w fun e w' => e = .returned (.tuple #[.int .i64 0, .int .i64 3]) ∧ Below w.heap.size w w' := by
  have hB := Below.refl w.heap.size w
  subst hp
  go_enter Try.func14, Try.ntmps14
  go_wp2_with (first | (go_at_call 11; refine (HK.out _).mono ?_; rintro e wn ⟨rfl, hbn⟩; replace hB := hB.trans (hbn.mono hB.size); clear hbn) | (go_at_call 24; refine (HP.out _).mono ?_; rintro e w1 ⟨rfl, hbn⟩; replace hB := hB.trans (hbn.mono hB.size); clear hbn) | (go_at_call 26; refine (HS.out _).mono ?_; rintro e w2 ⟨rfl, hbn⟩; have hc := rof_keep hbn; replace hB := rof_below hB hbn; clear hbn))
  go_loop [7, 8, 6] (fun a b c => ∃ (i : Nat) (L H : Int), a = .int .u64 L ∧ b = .int .u64 H ∧ c = .int .i64 ((q : Int) - i) ∧ i ≤ q ∧ 0 ≤ L ∧ L < 68719476736 ∧ 67108864 ≤ H ∧ H < 140737488355328 ∧ Hid (H * 68719476736 + L = m * 1000000 * 2 ^ i)) (fun _ _ c => (intOf c).toNat)
  case atStart =>
    have s := split_N m
    have s2 : (m / 68719476736 * 1000000 + m % 68719476736 * 1000000 / 68719476736) * 68719476736 + m % 68719476736 * 1000000 % 68719476736 = m * 1000000 * 2 ^ 0 := by rw [Int.pow_zero, Int.mul_one]; exact s
    have bd := double_bd (N := m * 1000000) (i := 0) (by decide) (by omega) (by omega) (by omega) (by omega) s2
    exact ⟨0, _, _, rfl, rfl, by simp, by omega, by omega, by omega, bd.1, bd.2, s2⟩
  case round =>
    obtain ⟨i, L, H, rfl, rfl, rfl, hi, l0, l1, g0, g1, HX⟩ := hrel
    by_cases c : i < q
    · have h2 := doubled HX.out
      rw [← pow_step] at h2
      have bd := double_bd (N := m * 1000000) (i := i + 1) (by omega) (by omega) (by omega) (by omega) (by omega) h2
      have BD := hide bd
      have H2 := hide h2
      have gt : 0 < (q : Int) - i := by omega
      clear h2 bd HX HK HP HS
      go_wp2
      go_round
      case rel => exact ⟨i + 1, 2 * L % 68719476736, 2 * H + 2 * L / 68719476736, by go_num, by go_num, by go_num, by omega, by omega, by omega, BD.out.1, BD.out.2, H2.out⟩
      case measure => simp [intOf]; omega
    · have iq : i = q := by omega
      subst iq
      have zz : (i : Int) - i = 0 := by omega
      clear HX HK HP HS
      go_wp2_with fail
      go_loop [6, 7, 8, 9, 10] (fun a b c d e => a = .int .i64 0 ∧ b = .int .u64 L ∧ c = .int .u64 H ∧ d = .int .u64 0 ∧ e = .bool false) (fun _ _ _ _ _ => 0)
      case atStart => exact ⟨by first | rfl | simp, rfl, rfl, rfl, rfl⟩
      case round =>
        obtain ⟨rfl, rfl, rfl, rfl, rfl⟩ := hrel
        go_wp2
        go_ret2
        exact ⟨rfl, hB⟩
theorem size_big {b : Int} (h : powR b ≠ -1074) : 4503599627370496 ≤ sizeR b := by
  have f := fPart_bd b
  unfold powR at h
  unfold sizeR
  split at h
  · exact absurd rfl h
  · rename_i c; rw [if_neg c]; omega
theorem rof_any (b : Nat) (w : World) (h : b < 18446744073709551616) :
    Calls Try.prog 14 #[.int .u64 (b : Int)] w fun e w' => e = .returned (.tuple #[.int .i64 (ofR b).1, .int .i64 (ofR b).2]) ∧ Below w.heap.size w w' := by
  have HK := fun W : World => rkind_any b W h
  have HP := fun W : World => rparts_any b W h
  obtain ⟨x0, x1⟩ := fExp_bd b
  obtain ⟨f0, f1⟩ := fPart_bd b
  have HS : ∀ W : World, Calls Try.prog 26 #[.agg #[.bool (fNeg b), .int .i64 (fExp b), .int .u64 (fPart b)]] W fun e w' => e = .returned (.tuple #[.int .u64 (sizeR b), .int .i64 (powR b)]) ∧ Below W.heap.size W w' := fun W => rscale_any (fExp b) (fPart b) (fNeg b) W x0 x1 f0 f1
  obtain ⟨s0, s1⟩ := sizeR_bd b
  obtain ⟨p0, p1⟩ := powR_bd b
  by_cases k : kindR b < 2
  · rw [show ofR b = (0, 2) from by unfold ofR; rw [if_pos k]]
    exact rof_arg b _ w k HK
  · by_cases c1 : 10 < powR b
    · rw [show ofR b = (0, 3) from by unfold ofR; rw [if_neg k, if_pos (by omega)]]
      have sb := size_big (b := b) (by omega)
      exact rof_big b _ _ _ _ _ _ w (by omega) (by omega) c1 HK HP HS
    · by_cases c2 : powR b < -130
      · have pw : (2 : Int) ^ 131 ≤ 2 ^ (-powR b).toNat := by
          have m := pow_mono (s := 1) (by decide) 131 ((-powR b).toNat - 131)
          rw [show 131 + ((-powR b).toNat - 131) = (-powR b).toNat by omega, Int.one_mul, Int.one_mul] at m
          exact m
        have e131 : (2 : Int) ^ 131 = 2722258935367507707706996859454145691648 := rfl
        have z : halfEven (sizeR b * 1000000) (2 ^ (-powR b).toNat) = 0 := half_small (by omega) (by omega)
        have e : ofR b = (0, 0) := by
          unfold ofR
          rw [if_neg k, if_neg (by omega), z, if_neg (by decide)]
          unfold put
          cases fNeg b <;> rfl
        rw [e]
        exact rof_tiny b _ _ _ _ _ _ w (by omega) s0 c2 HK HP HS
      · have sb := size_big (b := b) (by omega)
        by_cases c3 : 0 ≤ powR b
        · rw [show ofR b = (0, 3) from by unfold ofR; rw [if_neg k, if_pos c3]]
          exact rof_high b _ _ _ _ _ _ (powR b).toNat w (by omega) sb s1 (by omega) (by omega) HK HP HS
        · refine rof_mid b _ _ _ _ _ (halfEven (sizeR b * 1000000) (2 ^ (-powR b).toNat)) _ _ (fNeg b) (-powR b).toNat w (by omega) sb s1 (by omega) (by omega) (by omega) HK HP HS rfl ?_
          unfold ofR
          rw [if_neg k, if_neg c3]
          refine ⟨fun h => ?_, fun h => ?_⟩
          · rw [if_pos h]; exact ⟨rfl, rfl⟩
          · rw [if_neg (by omega)]; exact ⟨rfl, rfl⟩
end Go.Proofs.Ytnjnbhfpgoondaa
