/-
  The contracts of the answer's Leap, Long, first, far and Weekday.
-/
import Derived.Test.YtlhpplhhdeifhaaDoorDt1
namespace Go.Proofs.YtlhpplhhdeifhaaDoor
open Go.RowKit

set_option maxHeartbeats 1000000 in
theorem rleap_any (y : Int) (w : World) :
    Calls Tryd.prog 12 #[.int .i64 y] w fun e w' => e = .returned (.bool (leapB y)) ∧ w' = w := by
  obtain ⟨a1, a2⟩ := tm_bd y 4 (by decide)
  obtain ⟨b1, b2⟩ := tm_bd y 100 (by decide)
  obtain ⟨c1, c2⟩ := tm_bd y 400 (by decide)
  by_cases a : y % 4 = 0
  · have a3 := tm_yes a
    by_cases b : y % 100 = 0
    · have b3 := tm_yes' b
      by_cases c : y % 400 = 0
      · have c3 := tm_yes c
        rw [leap_iff.2 ⟨a, Or.inr c⟩]
        clear a b c
        go_enter Tryd.func12, Tryd.ntmps12
        go_wp2
        go_ret
        exact ⟨rfl, rfl⟩
      · have c3 := tm_no c
        rw [leap_no.2 (by omega)]
        clear a b c
        go_enter Tryd.func12, Tryd.ntmps12
        go_wp2
        go_ret
        exact ⟨rfl, rfl⟩
    · have b3 := tm_no' b
      rw [leap_iff.2 ⟨a, Or.inl b⟩]
      clear a b
      go_enter Tryd.func12, Tryd.ntmps12
      go_wp2
      go_ret
      exact ⟨rfl, rfl⟩
  · have a3 := tm_no a
    have c3 : (y.tmod 400 == 0) = false := tm_no (by omega)
    rw [leap_no.2 (fun h => a h.1)]
    clear a
    go_enter Tryd.func12, Tryd.ntmps12
    go_wp2
    go_ret
    exact ⟨rfl, rfl⟩
set_option maxHeartbeats 2000000 in
theorem rlong_any (y : Int) (k : Nat) (w : World) (hk : k < 12) :
    Calls Tryd.prog 31 #[.int .i64 y, .int .i64 ((k : Int) + 1)] w fun e w' => e = .returned (.int .i64 (lenM y (k + 1))) ∧ w' = w := by
  have HL : Hid (∀ W : World, Calls Tryd.prog 12 #[.int .i64 y] W fun e w' => e = .returned (.bool (leapB y)) ∧ w' = W) := fun W => rleap_any y W
  by_cases h1 : k = 1
  · subst h1
    cases h : leapB y
    · rw [h] at HL
      rw [show lenM y (1 + 1) = 28 by simp [lenM, h]]
      clear h
      go_enter Tryd.func31, Tryd.ntmps31
      go_wp2_with (go_at_call 12; refine (HL.out _).mono ?_; rintro e wz ⟨rfl, hz⟩; subst wz)
      go_ret
      exact ⟨rfl, rfl⟩
    · rw [h] at HL
      rw [show lenM y (1 + 1) = 29 by simp [lenM, h]]
      clear h
      go_enter Tryd.func31, Tryd.ntmps31
      go_wp2_with (go_at_call 12; refine (HL.out _).mono ?_; rintro e wz ⟨rfl, hz⟩; subst wz)
      go_ret
      exact ⟨rfl, rfl⟩
  · have : k = 0 ∨ k = 2 ∨ k = 3 ∨ k = 4 ∨ k = 5 ∨ k = 6 ∨ k = 7 ∨ k = 8 ∨ k = 9 ∨ k = 10 ∨ k = 11 := by omega
    clear h1 hk HL
    rcases this with rfl | rfl | rfl | rfl | rfl | rfl | rfl | rfl | rfl | rfl | rfl
    all_goals
      go_enter Tryd.func31, Tryd.ntmps31
      go_wp2
      go_ret
      exact ⟨rfl, rfl⟩
set_option maxHeartbeats 400000 in
theorem far_any (n m : Int) (w : World) (h1 : 0 ≤ m) (h2 : m ≤ 1000000) :
    Calls Tryd.prog 27 #[.int .i64 n, .int .i64 m] w fun e w' => e = .returned (.bool (!decide (-m ≤ n ∧ n ≤ m))) ∧ w' = w := by
  by_cases a : n < -m
  · rw [decide_eq_false (fun h => by omega)]
    go_enter Tryd.func27, Tryd.ntmps27
    go_wp2
    go_ret
    exact ⟨rfl, rfl⟩
  · by_cases b : m < n
    · rw [decide_eq_false (fun h => by omega)]
      go_enter Tryd.func27, Tryd.ntmps27
      go_wp2
      go_ret
      exact ⟨rfl, rfl⟩
    · rw [decide_eq_true (by omega)]
      go_enter Tryd.func27, Tryd.ntmps27
      go_wp2
      go_ret
      exact ⟨rfl, rfl⟩
theorem dA_step (q : Int) : dA (q + 1) = dA q + if leapB q then 366 else 365 := by rw [dA_succ, cum_twelve]
set_option maxHeartbeats 2000000 in
theorem first_any (y : Int) (k : Nat) (w : World) (h1 : 1500 ≤ y) (h2 : y ≤ 10400) (hk : k < 12) :
    Calls Tryd.prog 28 #[.int .i64 y, .int .i64 ((k : Int) + 1)] w fun e w' => e = .returned (.int .i64 (dA y + cum y k + 1)) ∧ Below w.heap.size w w' := by
  go_enter Tryd.func28, Tryd.ntmps28
  go_wp2
  go_loopw [5, 6] (fun nv qv wr => ∃ q : Int, 1900 ≤ q ∧ (q ≤ y ∨ q = 1900) ∧ qv = .int .i64 q ∧ nv = .int .i64 (1 + dA q) ∧ Below w.heap.size w wr) (fun _ qv _ => (y - intOf qv).toNat)
  case atStart => exact ⟨1900, by omega, Or.inr rfl, rfl, rfl, Below.refl _ _⟩
  case round =>
    obtain ⟨q, hq1, hq2, rfl, rfl, hB⟩ := hrel
    have hb := dA_bd q (by omega) (by omega)
    have HL : Hid (∀ W : World, Calls Tryd.prog 12 #[.int .i64 q] W fun e w' => e = .returned (.bool (leapB q)) ∧ w' = W) := fun W => rleap_any q W
    obtain ⟨hb1, hb2⟩ := hb
    by_cases hlt : q < y
    · cases hl : leapB q
      · have HD : Hid (dA (q + 1) = dA q + 365) := by show _ = _; rw [dA_step, hl]; rfl
        rw [hl] at HL
        clear hl
        generalize dA q = A at *
        go_wp2_with (go_at_call 12; refine (HL.out _).mono ?_; rintro e wz ⟨rfl, hz⟩; subst wz)
        go_roundw
        case rel => exact ⟨q + 1, by omega, by omega, by go_num, by rw [HD.out]; first | go_num | (congr 1; omega), by first | assumption | exact Below.drew (by assumption)⟩
        case measure => simp [intOf]; omega
      · have HD : Hid (dA (q + 1) = dA q + 366) := by show _ = _; rw [dA_step, hl]; rfl
        rw [hl] at HL
        clear hl
        generalize dA q = A at *
        go_wp2_with (go_at_call 12; refine (HL.out _).mono ?_; rintro e wz ⟨rfl, hz⟩; subst wz)
        go_roundw
        case rel => exact ⟨q + 1, by omega, by omega, by go_num, by rw [HD.out]; first | go_num | (congr 1; omega), by first | assumption | exact Below.drew (by assumption)⟩
        case measure => simp [intOf]; omega
    · clear HL
      obtain ⟨E, hE⟩ : ∃ E : Int, E = 1 + dA q := ⟨_, rfl⟩
      rw [← hE]
      have HE : Hid ((y < 1900 → E = 1) ∧ (1900 ≤ y → E = 1 + dA y)) := by
        refine ⟨fun h => ?_, fun h => ?_⟩
        · rw [hE, show q = 1900 by omega, dA_first]; rfl
        · rw [hE, show q = y by omega]
      have e1 : -50000000 ≤ E := by omega
      have e2 : E ≤ 50000000 := by omega
      clear hE hb1 hb2 hq1 hq2
      go_wp2
      obtain ⟨wo, rfl⟩ : ∃ wo : World, wo = wr := ⟨_, rfl⟩
      go_loopw [5, 7] (fun nv qv wr => ∃ q : Int, y ≤ q ∧ (q ≤ 1900 ∨ q = y) ∧ qv = .int .i64 q ∧ nv = .int .i64 (E + dA y - dA q) ∧ Below w.heap.size w wr) (fun _ qv _ => (1900 - intOf qv).toNat)
      case atStart => exact ⟨y, by omega, Or.inr rfl, rfl, by congr 1; omega, hB⟩
      case round =>
        obtain ⟨q, hq1, hq2, rfl, rfl, hB⟩ := hrel
        have hb := dA_bd q (by omega) (by omega)
        have hc := dA_bd y (by omega) (by omega)
        have HL : Hid (∀ W : World, Calls Tryd.prog 12 #[.int .i64 q] W fun e w' => e = .returned (.bool (leapB q)) ∧ w' = W) := fun W => rleap_any q W
        obtain ⟨hb1, hb2⟩ := hb
        obtain ⟨hc1, hc2⟩ := hc
        by_cases hlt' : q < 1900
        · cases hl : leapB q
          · have HD : Hid (dA (q + 1) = dA q + 365) := by show _ = _; rw [dA_step, hl]; rfl
            rw [hl] at HL
            clear hl HE
            generalize dA q = A at *
            generalize dA y = B at *
            go_wp2_with (go_at_call 12; refine (HL.out _).mono ?_; rintro e wz ⟨rfl, hz⟩; subst wz)
            go_roundw
            case rel => exact ⟨q + 1, by omega, by omega, by go_num, by rw [HD.out]; first | go_num | (congr 1; omega), by first | assumption | exact Below.drew (by assumption)⟩
            case measure => simp [intOf]; omega
          · have HD : Hid (dA (q + 1) = dA q + 366) := by show _ = _; rw [dA_step, hl]; rfl
            rw [hl] at HL
            clear hl HE
            generalize dA q = A at *
            generalize dA y = B at *
            go_wp2_with (go_at_call 12; refine (HL.out _).mono ?_; rintro e wz ⟨rfl, hz⟩; subst wz)
            go_roundw
            case rel => exact ⟨q + 1, by omega, by omega, by go_num, by rw [HD.out]; first | go_num | (congr 1; omega), by first | assumption | exact Below.drew (by assumption)⟩
            case measure => simp [intOf]; omega
        · clear HL
          have hF : E + dA y - dA q = 1 + dA y := by
            by_cases h : y < 1900
            · rw [HE.out.1 h, show q = 1900 by omega, dA_first]; omega
            · rw [HE.out.2 (by omega), show q = y by omega]; omega
          rw [hF]
          clear hF HE hb1 hb2
          generalize hDA : dA y = B at *
          have HDA := hide hDA
          clear hDA
          go_wp2
          obtain ⟨wo, rfl⟩ : ∃ wo : World, wo = wr := ⟨_, rfl⟩
          go_loopw [5, 8] (fun nv mv wr => ∃ j : Nat, j ≤ k ∧ mv = .int .i64 ((j : Int) + 1) ∧ nv = .int .i64 (B + cum y j + 1) ∧ Below w.heap.size w wr) (fun _ mv _ => k + 1 - (intOf mv).toNat)
          case atStart => exact ⟨0, Nat.zero_le _, rfl, by simp only [cum]; congr 1; omega, hB⟩
          case round =>
            obtain ⟨j, hj, rfl, rfl, hB⟩ := hrel
            have hu := cum_le y j
            obtain ⟨hu1, hu2⟩ := hu
            by_cases hjk : j < k
            · have HG : Hid (∀ W : World, Calls Tryd.prog 31 #[.int .i64 y, .int .i64 ((j : Int) + 1)] W fun e w' => e = .returned (.int .i64 (lenM y (j + 1))) ∧ w' = W) := fun W => rlong_any y j W (by omega)
              have HCu : Hid (cum y (j + 1) = cum y j + lenM y (j + 1)) := rfl
              have q2 := len_bd y (j + 1)
              have l1 : (j : Int) + 1 < (k : Int) + 1 := by omega
              obtain ⟨q5, q6⟩ := q2
              generalize lenM y (j + 1) = L at *
              generalize cum y j = C at *
              go_wp2_with (go_at_call 31; refine (HG.out _).mono ?_; rintro e wz ⟨rfl, hz⟩; subst wz)
              go_roundw
              case rel => exact ⟨j + 1, by omega, by go_num, by rw [HCu.out]; first | go_num | (congr 1; omega), by first | assumption | exact Below.drew (by assumption)⟩
              case measure => simp [intOf]; omega
            · have l1 : ¬ (j : Int) + 1 < (k : Int) + 1 := by omega
              obtain rfl : j = k := by omega
              go_wp2
              go_ret
              exact ⟨by rw [HDA.out]; rfl, hB⟩
end Go.Proofs.YtlhpplhhdeifhaaDoor
