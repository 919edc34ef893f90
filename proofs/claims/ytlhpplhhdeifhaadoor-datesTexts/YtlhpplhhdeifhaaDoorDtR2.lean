/-
  The contracts of the answer's Serial, Weekday, Parts and Months.
-/
import Derived.Test.YtlhpplhhdeifhaaDoorDtR1
import Derived.Test.YtlhpplhhdeifhaaDoorDt3
namespace Go.Proofs.YtlhpplhhdeifhaaDoor
open Go.RowKit

theorem serial_early {y m d : Int} (h1 : y + (m - 1) / 12 < 1500) (h2 : d ≤ 100000) : dailyR (countR y m d) = (0, 3) := by
  apply daily_no
  left
  unfold countR
  have a1 := cum_mono (y + (m - 1) / 12) (show ((m - 1) % 12).toNat ≤ 12 by omega)
  have a2 := dA_succ (y + (m - 1) / 12)
  have a3 := dA_mono (show y + (m - 1) / 12 + 1 ≤ 1500 by omega)
  have a4 : dA 1500 = -146097 := by decide
  omega
theorem serial_late {y m d : Int} (h1 : 10400 < y + (m - 1) / 12) (h2 : -100000 ≤ d) : dailyR (countR y m d) = (0, 3) := by
  apply daily_no
  right
  unfold countR
  have a1 := cum_le (y + (m - 1) / 12) ((m - 1) % 12).toNat
  have a3 := dA_mono (show 10401 ≤ y + (m - 1) / 12 by omega)
  have a4 : 3060000 ≤ dA 10401 := by decide
  omega
set_option maxHeartbeats 2000000 in
theorem rserial_any (y m d : Int) (w : World) :
    Calls Tryd.prog 10 #[.int .i64 y, .int .i64 m, .int .i64 d] w fun e w' => e = .returned (.tuple #[.int .i64 (serialR y m d).1, .int .i64 (serialR y m d).2]) ∧ Below w.heap.size w w' := by
  have HM : Hid (∀ W : World, Calls Tryd.prog 27 #[.int .i64 m, .int .i64 100000] W fun e w' => e = .returned (.bool (!decide (-100000 ≤ m ∧ m ≤ 100000))) ∧ w' = W) := fun W => far_any m 100000 W (by decide) (by decide)
  have HD : Hid (∀ W : World, Calls Tryd.prog 27 #[.int .i64 d, .int .i64 100000] W fun e w' => e = .returned (.bool (!decide (-100000 ≤ d ∧ d ≤ 100000))) ∧ w' = W) := fun W => far_any d 100000 W (by decide) (by decide)
  by_cases a1 : y < 1900
  · rw [serial_no (by omega)]
    go_enter Tryd.func10, Tryd.ntmps10
    go_wp2
    go_ret2
    exact ⟨rfl, Below.refl _ _⟩
  · by_cases a2 : 9999 < y
    · rw [serial_no (by omega)]
      go_enter Tryd.func10, Tryd.ntmps10
      go_wp2
      go_ret2
      exact ⟨rfl, Below.refl _ _⟩
    · by_cases a3 : -100000 ≤ m ∧ m ≤ 100000
      · rw [decide_eq_true a3] at HM
        by_cases a4 : -100000 ≤ d ∧ d ≤ 100000
        · rw [decide_eq_true a4] at HD
          rw [serial_yes (by omega)]
          obtain ⟨m1, m2⟩ := a3
          obtain ⟨d1, d2⟩ := a4
          by_cases c1 : 12 * y + m - 1 < 18000
          · rw [serial_early (by omega) d2]
            have c2 : (12 * y + m - 1).tdiv 12 < 1500 := by rw [Int.tdiv_eq_ediv, show Int.sign 12 = 1 from rfl]; split <;> omega
            have t1 := td_bd (n := 12 * y + m - 1) (d := 12) (by omega) (by omega)
            have t2 := tm_bd (12 * y + m - 1) 12 (by decide)
            obtain ⟨t3, t4⟩ := t1
            obtain ⟨t5, t6⟩ := t2
            generalize hA : (12 * y + m - 1).tdiv 12 = A at *
            generalize hB : (12 * y + m - 1).tmod 12 = B at *
            go_enter Tryd.func10, Tryd.ntmps10
            go_wp2_with fail
            refine (HM.out _).mono ?_
            rintro e wz ⟨rfl, hz⟩
            subst wz
            go_wp2_with fail
            refine (HD.out _).mono ?_
            rintro e wz ⟨rfl, hz⟩
            subst wz
            go_wp2
            go_ret2
            exact ⟨rfl, Below.refl _ _⟩
          · have e1 : y + (m - 1) / 12 = (12 * y + m - 1) / 12 := by omega
            have e2 : (m - 1) % 12 = (12 * y + m - 1) % 12 := by omega
            have k0 : 0 ≤ 12 * y + m - 1 := by omega
            obtain ⟨k, hk1, hk2⟩ : ∃ k : Nat, (12 * y + m - 1) % 12 = (k : Int) ∧ k < 12 := ⟨((12 * y + m - 1) % 12).toNat, by omega, by omega⟩
            by_cases c2 : 10400 < (12 * y + m - 1) / 12
            · rw [serial_late (by omega) d1]
              clear e1 e2 hk1 hk2
              go_enter Tryd.func10, Tryd.ntmps10
              go_wp2_with fail
              refine (HM.out _).mono ?_
              rintro e wz ⟨rfl, hz⟩
              subst wz
              go_wp2_with fail
              refine (HD.out _).mono ?_
              rintro e wz ⟨rfl, hz⟩
              subst wz
              have c3 : ¬ (12 * y + m - 1) / 12 < 1500 := by omega
              go_wp2
              go_ret2
              exact ⟨rfl, Below.refl _ _⟩
            · have c3 : ¬ (12 * y + m - 1) / 12 < 1500 := by omega
              have HF : Hid (∀ W : World, Calls Tryd.prog 28 #[.int .i64 ((12 * y + m - 1) / 12), .int .i64 ((k : Int) + 1)] W fun e w' => e = .returned (.int .i64 (dA ((12 * y + m - 1) / 12) + cum ((12 * y + m - 1) / 12) k + 1)) ∧ Below W.heap.size W w') := fun W => first_any _ k W (by omega) (by omega) hk2
              have HN : Hid (countR y m d = dA ((12 * y + m - 1) / 12) + cum ((12 * y + m - 1) / 12) k + 1 + d - 1) := by
                show _ = _
                unfold countR
                rw [e1, e2, hk1, Int.toNat_natCast]
                omega
              have q1 := dA_bd ((12 * y + m - 1) / 12) (by omega) (by omega)
              have q2 := cum_le ((12 * y + m - 1) / 12) k
              rw [HN.out]
              clear HN e1 e2
              have q3 : -50000000 ≤ dA ((12 * y + m - 1) / 12) + cum ((12 * y + m - 1) / 12) k + 1 := by omega
              have q4 : dA ((12 * y + m - 1) / 12) + cum ((12 * y + m - 1) / 12) k + 1 ≤ 50000000 := by omega
              generalize dA ((12 * y + m - 1) / 12) + cum ((12 * y + m - 1) / 12) k + 1 = F at *
              clear q1 q2
              by_cases g1 : F + d - 1 < 1
              · rw [daily_no (Or.inl g1)]
                go_enter Tryd.func10, Tryd.ntmps10
                go_wp2_with fail
                refine (HM.out _).mono ?_
                rintro e wz ⟨rfl, hz⟩
                subst wz
                go_wp2_with fail
                refine (HD.out _).mono ?_
                rintro e wz ⟨rfl, hz⟩
                subst wz
                go_wp2_with (go_at_call 28; refine (HF.out _).mono ?_; rintro e w1 ⟨rfl, hb1⟩)
                go_ret2
                exact ⟨rfl, by assumption⟩
              · by_cases g2 : 2958464 < F + d - 1
                · rw [daily_no (Or.inr g2)]
                  go_enter Tryd.func10, Tryd.ntmps10
                  go_wp2_with fail
                  refine (HM.out _).mono ?_
                  rintro e wz ⟨rfl, hz⟩
                  subst wz
                  go_wp2_with fail
                  refine (HD.out _).mono ?_
                  rintro e wz ⟨rfl, hz⟩
                  subst wz
                  go_wp2_with (go_at_call 28; refine (HF.out _).mono ?_; rintro e w1 ⟨rfl, hb1⟩)
                  go_ret2
                  exact ⟨rfl, by assumption⟩
                · rw [daily_yes (by omega) (by omega)]
                  go_enter Tryd.func10, Tryd.ntmps10
                  go_wp2_with fail
                  refine (HM.out _).mono ?_
                  rintro e wz ⟨rfl, hz⟩
                  subst wz
                  go_wp2_with fail
                  refine (HD.out _).mono ?_
                  rintro e wz ⟨rfl, hz⟩
                  subst wz
                  go_wp2_with (go_at_call 28; refine (HF.out _).mono ?_; rintro e w1 ⟨rfl, hb1⟩)
                  go_ret2
                  exact ⟨rfl, by assumption⟩
        · rw [decide_eq_false a4] at HD
          rw [serial_no (fun h => a4 ⟨h.2.2.2.2.1, h.2.2.2.2.2⟩)]
          clear a3 a4
          go_enter Tryd.func10, Tryd.ntmps10
          go_wp2_with fail
          refine (HM.out _).mono ?_
          rintro e wz ⟨rfl, hz⟩
          subst wz
          go_wp2_with fail
          refine (HD.out _).mono ?_
          rintro e wz ⟨rfl, hz⟩
          subst wz
          go_wp2
          go_ret2
          exact ⟨rfl, Below.refl _ _⟩
      · rw [decide_eq_false a3] at HM
        rw [serial_no (fun h => a3 ⟨h.2.2.1, h.2.2.2.1⟩)]
        clear a3
        go_enter Tryd.func10, Tryd.ntmps10
        go_wp2_with fail
        refine (HM.out _).mono ?_
        rintro e wz ⟨rfl, hz⟩
        subst wz
        go_wp2
        go_ret2
        exact ⟨rfl, Below.refl _ _⟩
set_option maxHeartbeats 1000000 in
theorem rweekday_any (n : Int) (w : World) :
    Calls Tryd.prog 17 #[.int .i64 n] w fun e w' => e = .returned (.tuple #[.int .i64 (weekR n).1, .int .i64 (weekR n).2]) ∧ Below w.heap.size w w' := by
  by_cases a1 : n < 1
  · rw [week_no (by omega)]
    go_enter Tryd.func17, Tryd.ntmps17
    go_wp2
    go_ret2
    exact ⟨rfl, Below.refl _ _⟩
  · by_cases a2 : 2958464 < n
    · rw [week_no (by omega)]
      go_enter Tryd.func17, Tryd.ntmps17
      go_wp2
      go_ret2
      exact ⟨rfl, Below.refl _ _⟩
    · rw [week_yes (by omega)]
      have h0 : 0 ≤ n := by omega
      go_enter Tryd.func17, Tryd.ntmps17
      go_wp2
      go_ret2
      exact ⟨rfl, Below.refl _ _⟩
set_option maxHeartbeats 1000000 in
theorem rparts_no (n : Int) (w : World) (h : ¬ (1 ≤ n ∧ n ≤ 2958464)) :
    Calls Tryd.prog 15 #[.int .i64 n] w fun e w' => e = .returned (.tuple #[.int .i64 0, .int .i64 0, .int .i64 0, .int .i64 2]) ∧ Below w.heap.size w w' := by
  by_cases a1 : n < 1
  · go_enter Tryd.func15, Tryd.ntmps15
    go_wp2
    refine bodyPost_ret (v := .tuple #[.int .i64 0, .int .i64 0, .int .i64 0, .int .i64 2]) (by simp [results, Tryd.results15, go_sem]) rfl ⟨rfl, ?_⟩
    repeat' (first | with_reducible exact Below.refl _ _ | with_reducible refine Below.setCell ?_ ?_ _ | with_reducible refine Below.alloc ?_ ?_ _ | with_reducible refine below_drewN ?_ _ | with_reducible refine Below.drew ?_ | with_reducible refine Below.trans ?_ (Below.mono (by assumption) ?_) | with_reducible exact Nat.le_refl _ | with_reducible refine Nat.le_trans ?_ (Below.size (by assumption)) | with_reducible refine Nat.le_trans ?_ (size_alloc _ _) | with_reducible refine Nat.le_trans ?_ (size_set _ _ _) | with_reducible refine Nat.le_trans ?_ (size_drewN _ _) | with_reducible refine Nat.le_trans ?_ (size_drew _) | (simp; done) | (simp; omega) | omega)
  · have a2 : 2958464 < n := by omega
    clear h
    go_enter Tryd.func15, Tryd.ntmps15
    go_wp2
    refine bodyPost_ret (v := .tuple #[.int .i64 0, .int .i64 0, .int .i64 0, .int .i64 2]) (by simp [results, Tryd.results15, go_sem]) rfl ⟨rfl, ?_⟩
    repeat' (first | with_reducible exact Below.refl _ _ | with_reducible refine Below.setCell ?_ ?_ _ | with_reducible refine Below.alloc ?_ ?_ _ | with_reducible refine below_drewN ?_ _ | with_reducible refine Below.drew ?_ | with_reducible refine Below.trans ?_ (Below.mono (by assumption) ?_) | with_reducible exact Nat.le_refl _ | with_reducible refine Nat.le_trans ?_ (Below.size (by assumption)) | with_reducible refine Nat.le_trans ?_ (size_alloc _ _) | with_reducible refine Nat.le_trans ?_ (size_set _ _ _) | with_reducible refine Nat.le_trans ?_ (size_drewN _ _) | with_reducible refine Nat.le_trans ?_ (size_drew _) | (simp; done) | (simp; omega) | omega)
end Go.Proofs.YtlhpplhhdeifhaaDoor
