/-
  Out of DtR1, DtR2, DtR3, what is asked for (laid by pack9.py).
-/
import Derived.Test.YtnhaapcpklfkpaaGreatDoorVDat
import Derived.Deep.LoopGhost
import Derived.Deep.RegionHeld3
import Derived.Lib.LaidTab
import Derived.Lib.MinMax
import Derived.Lib.SmallJoins
import Derived.WalkKit
import Derived.WalkLawsBesides
import Derived.WalkSpells
namespace Go.Proofs.YtnhaapcpklfkpaaGreatDoor.Dat
section
open Go.RowKit
set_option maxHeartbeats 1000000 in
theorem rleap_any (y : Int) (w : World) :
    Calls Tryz.prog 97 #[.int .i64 y] w fun e w' => e = .returned (.bool (leapB y)) ∧ w' = w := by
  obtain ⟨a1, a2⟩ := tm_bd y 4 (by decide)
  obtain ⟨b1, b2⟩ := tm_bd y 100 (by decide)
  obtain ⟨c1, c2⟩ := tm_bd y 400 (by decide)
  by_cases a : y % 4 = 0
  · have a3 := tm_yes a
    by_cases b : y % 100 = 0
    · have b3 := tm_yes' b
      by_cases c : y % 400 = 0
      · have c3 := tm_yes c
        rw [leap_iff.2 ⟨a, Or.inr c⟩]
        clear a b c
        go_enter Tryz.func97, Tryz.ntmps97
        go_wp2
        go_ret
        exact ⟨rfl, rfl⟩
      · have c3 := tm_no c
        rw [leap_no.2 (by omega)]
        clear a b c
        go_enter Tryz.func97, Tryz.ntmps97
        go_wp2
        go_ret
        exact ⟨rfl, rfl⟩
    · have b3 := tm_no' b
      rw [leap_iff.2 ⟨a, Or.inl b⟩]
      clear a b
      go_enter Tryz.func97, Tryz.ntmps97
      go_wp2
      go_ret
      exact ⟨rfl, rfl⟩
  · have a3 := tm_no a
    have c3 : (y.tmod 400 == 0) = false := tm_no (by omega)
    rw [leap_no.2 (fun h => a h.1)]
    clear a
    go_enter Tryz.func97, Tryz.ntmps97
    go_wp2
    go_ret
    exact ⟨rfl, rfl⟩
set_option maxHeartbeats 2000000 in
theorem rlong_any (y : Int) (k : Nat) (w : World) (hk : k < 12) :
    Calls Tryz.prog 98 #[.int .i64 y, .int .i64 ((k : Int) + 1)] w fun e w' => e = .returned (.int .i64 (lenM y (k + 1))) ∧ w' = w := by
  have HL : Hid (∀ W : World, Calls Tryz.prog 97 #[.int .i64 y] W fun e w' => e = .returned (.bool (leapB y)) ∧ w' = W) := fun W => rleap_any y W
  by_cases h1 : k = 1
  · subst h1
    cases h : leapB y
    · rw [h] at HL
      rw [show lenM y (1 + 1) = 28 by simp [lenM, h]]
      clear h
      go_enter Tryz.func98, Tryz.ntmps98
      go_wp2_with (go_at_call 97; refine (HL.out _).mono ?_; rintro e wz ⟨rfl, hz⟩; subst wz)
      go_ret
      exact ⟨rfl, rfl⟩
    · rw [h] at HL
      rw [show lenM y (1 + 1) = 29 by simp [lenM, h]]
      clear h
      go_enter Tryz.func98, Tryz.ntmps98
      go_wp2_with (go_at_call 97; refine (HL.out _).mono ?_; rintro e wz ⟨rfl, hz⟩; subst wz)
      go_ret
      exact ⟨rfl, rfl⟩
  · have : k = 0 ∨ k = 2 ∨ k = 3 ∨ k = 4 ∨ k = 5 ∨ k = 6 ∨ k = 7 ∨ k = 8 ∨ k = 9 ∨ k = 10 ∨ k = 11 := by omega
    clear h1 hk HL
    rcases this with rfl | rfl | rfl | rfl | rfl | rfl | rfl | rfl | rfl | rfl | rfl
    all_goals
      go_enter Tryz.func98, Tryz.ntmps98
      go_wp2
      go_ret
      exact ⟨rfl, rfl⟩
theorem dA_step (q : Int) : dA (q + 1) = dA q + if leapB q then 366 else 365 := by rw [dA_succ, cum_twelve]
end
section
open Go.RowKit
set_option maxHeartbeats 1000000 in
theorem rparts_no (n : Int) (w : World) (h : ¬ (1 ≤ n ∧ n ≤ 2958464)) :
    Calls Tryz.prog 72 #[.int .i64 n] w fun e w' => e = .returned (.tuple #[.int .i64 0, .int .i64 0, .int .i64 0, .int .i64 2]) ∧ Below w.heap.size w w' := by
  by_cases a1 : n < 1
  · go_enter Tryz.func72, Tryz.ntmps72
    go_wp2
    refine bodyPost_ret (v := .tuple #[.int .i64 0, .int .i64 0, .int .i64 0, .int .i64 2]) (by simp [results, Tryz.results72, go_sem]) rfl ⟨rfl, ?_⟩
    repeat' (first | with_reducible exact Below.refl _ _ | with_reducible refine Below.setCell ?_ ?_ _ | with_reducible refine Below.alloc ?_ ?_ _ | with_reducible refine below_drewN ?_ _ | with_reducible refine Below.drew ?_ | with_reducible refine Below.trans ?_ (Below.mono (by assumption) ?_) | with_reducible exact Nat.le_refl _ | with_reducible refine Nat.le_trans ?_ (Below.size (by assumption)) | with_reducible refine Nat.le_trans ?_ (size_alloc _ _) | with_reducible refine Nat.le_trans ?_ (size_set _ _ _) | with_reducible refine Nat.le_trans ?_ (size_drewN _ _) | with_reducible refine Nat.le_trans ?_ (size_drew _) | (simp; done) | (simp; omega) | omega)
  · have a2 : 2958464 < n := by omega
    clear h
    go_enter Tryz.func72, Tryz.ntmps72
    go_wp2
    refine bodyPost_ret (v := .tuple #[.int .i64 0, .int .i64 0, .int .i64 0, .int .i64 2]) (by simp [results, Tryz.results72, go_sem]) rfl ⟨rfl, ?_⟩
    repeat' (first | with_reducible exact Below.refl _ _ | with_reducible refine Below.setCell ?_ ?_ _ | with_reducible refine Below.alloc ?_ ?_ _ | with_reducible refine below_drewN ?_ _ | with_reducible refine Below.drew ?_ | with_reducible refine Below.trans ?_ (Below.mono (by assumption) ?_) | with_reducible exact Nat.le_refl _ | with_reducible refine Nat.le_trans ?_ (Below.size (by assumption)) | with_reducible refine Nat.le_trans ?_ (size_alloc _ _) | with_reducible refine Nat.le_trans ?_ (size_set _ _ _) | with_reducible refine Nat.le_trans ?_ (size_drewN _ _) | with_reducible refine Nat.le_trans ?_ (size_drew _) | (simp; done) | (simp; omega) | omega)
end
section
open Go.RowKit
set_option maxHeartbeats 4000000 in
theorem rparts_yes (y : Int) (k : Nat) (d n : Int) (w : World) (h : DayIs y k d n) :
    Calls Tryz.prog 72 #[.int .i64 n] w fun e w' => e = .returned (.tuple #[.int .i64 y, .int .i64 ((k : Int) + 1), .int .i64 d, .int .i64 0]) ∧ Below w.heap.size w w' := by
  obtain ⟨n1, n2⟩ := h.day
  obtain ⟨r1, r2⟩ := h.within
  have y1 := h.y1
  have y2 := h.y2
  have HH := hide h
  clear h
  have n3 : ¬ n < 1 := by omega
  have n4 : ¬ 2958464 < n := by omega
  go_enter Tryz.func72, Tryz.ntmps72
  go_wp2_with fail
  go_loopw [6, 7] (fun yv lv wr => ∃ q : Int, 1900 ≤ q ∧ q ≤ y ∧ yv = .int .i64 q ∧ lv = .int .i64 (n - dA q) ∧ Below w.heap.size w wr) (fun yv _ _ => (y - intOf yv).toNat)
  case atStart => exact ⟨1900, by omega, by omega, rfl, by rw [dA_first]; simp, Below.refl _ _⟩
  case round =>
    obtain ⟨q, hq1, hq2, rfl, rfl, hB⟩ := hrel
    have ⟨hb1, hb2⟩ := dA_bd q (by omega) (by omega)
    have HL : Hid (∀ W : World, Calls Tryz.prog 97 #[.int .i64 q] W fun e w' => e = .returned (.bool (leapB q)) ∧ w' = W) := fun W => rleap_any q W
    by_cases hlt : q < y
    · have hm := dA_mono (show q + 1 ≤ y by omega)
      cases hl : leapB q
      · have HD : Hid (dA (q + 1) = dA q + 365) := by show _ = _; rw [dA_step, hl]; rfl
        rw [hl] at HL
        have l1 : ¬ n - dA q ≤ 365 := by have := HD.out; omega
        clear hl hm r1 r2
        generalize dA q = A at *
        go_wp2_with (go_at_call 97; refine (HL.out _).mono ?_; rintro e wz ⟨rfl, hz⟩; subst wz)
        go_roundw
        case rel => exact ⟨q + 1, by omega, by omega, by go_num, by rw [HD.out]; first | go_num | (congr 1; omega), by first | assumption | exact Below.drew (by assumption)⟩
        case measure => simp [intOf]; omega
      · have HD : Hid (dA (q + 1) = dA q + 366) := by show _ = _; rw [dA_step, hl]; rfl
        rw [hl] at HL
        have l1 : ¬ n - dA q ≤ 366 := by have := HD.out; omega
        clear hl hm r1 r2
        generalize dA q = A at *
        go_wp2_with (go_at_call 97; refine (HL.out _).mono ?_; rintro e wz ⟨rfl, hz⟩; subst wz)
        go_roundw
        case rel => exact ⟨q + 1, by omega, by omega, by go_num, by rw [HD.out]; first | go_num | (congr 1; omega), by first | assumption | exact Below.drew (by assumption)⟩
        case measure => simp [intOf]; omega
    · obtain rfl : q = y := by omega
      have HN := hide HH.out.n1
      have HK := hide HH.out.k1
      have HE1 := hide HH.out.d1
      have HE2 := hide HH.out.d2
      cases hl : leapB q
      · have l1 : n - dA q ≤ 365 := by
          have : dA (q + 1) = dA q + 365 := by rw [dA_step, hl]; rfl
          omega
        rw [hl] at HL
        clear hl r1 r2 hlt
        generalize dA q = A at *
        go_wp2_with (first | (go_at_call 97; refine (HL.out _).mono ?_; rintro e wz ⟨rfl, hz⟩; subst wz))
        clear HL l1
        obtain ⟨wo, rfl⟩ : ∃ wo : World, wo = wr := ⟨_, rfl⟩
        go_loopw [7, 9] (fun lv mv wr => ∃ j : Nat, j ≤ k ∧ mv = .int .i64 ((j : Int) + 1) ∧ lv = .int .i64 (n - A - cum q j) ∧ Below w.heap.size w wr) (fun _ mv _ => k + 1 - (intOf mv).toNat)
        case atStart => exact ⟨0, Nat.zero_le _, rfl, by simp [cum], hB⟩
        case round =>
          obtain ⟨j, hj, rfl, rfl, hB⟩ := hrel
          have ⟨hu1, hu2⟩ := cum_le q j
          have ⟨hl1, hl2⟩ := len_bd q (j + 1)
          have HJ : Hid (j < 12) := by have := HK.out; show j < 12; omega
          have hj12 : (j : Int) < 12 := by have := HJ.out; omega
          have HG : Hid (∀ W : World, Calls Tryz.prog 98 #[.int .i64 q, .int .i64 ((j : Int) + 1)] W fun e w' => e = .returned (.int .i64 (lenM q (j + 1))) ∧ w' = W) := fun W => rlong_any q j W HJ.out
          have HCu : Hid (cum q (j + 1) = cum q j + lenM q (j + 1)) := rfl
          by_cases hjk : j < k
          · have g1 : lenM q (j + 1) < n - A - cum q j := by have := HN.out; have := HE1.out; have := cum_mono q (show j + 1 ≤ k by omega); rw [HCu.out] at this; omega
            generalize lenM q (j + 1) = L at *
            generalize cum q j = C at *
            go_wp2_with (go_at_call 98; refine (HG.out _).mono ?_; rintro e wz ⟨rfl, hz⟩; subst wz)
            go_roundw
            case rel => exact ⟨j + 1, by omega, by go_num, by rw [HCu.out]; first | go_num | (congr 1; omega), by first | assumption | exact Below.drew (by assumption)⟩
            case measure => simp [intOf]; omega
          · obtain rfl : j = k := by omega
            have g1 : ¬ lenM q (j + 1) < n - A - cum q j := by have := HN.out; have := HE2.out; omega
            have g2 : n - A - cum q j = d := by have := HN.out; omega
            rw [g2] at g1 ⊢
            clear g2
            generalize lenM q (j + 1) = L at *
            generalize cum q j = C at *
            go_wp2_with (go_at_call 98; refine (HG.out _).mono ?_; rintro e wz ⟨rfl, hz⟩; subst wz)
            refine bodyPost_ret (v := .tuple #[.int .i64 q, .int .i64 ((j : Int) + 1), .int .i64 d, .int .i64 0]) (by simp [results, Tryz.results72, go_sem, *]) rfl ⟨rfl, ?_⟩
            repeat' (first | with_reducible exact Below.refl _ _ | with_reducible refine Below.setCell ?_ ?_ _ | with_reducible refine Below.alloc ?_ ?_ _ | with_reducible refine below_drewN ?_ _ | with_reducible refine Below.drew ?_ | with_reducible refine Below.trans ?_ (Below.mono (by assumption) ?_) | with_reducible exact Nat.le_refl _ | with_reducible refine Nat.le_trans ?_ (Below.size (by assumption)) | with_reducible refine Nat.le_trans ?_ (size_alloc _ _) | with_reducible refine Nat.le_trans ?_ (size_set _ _ _) | with_reducible refine Nat.le_trans ?_ (size_drewN _ _) | with_reducible refine Nat.le_trans ?_ (size_drew _) | (simp; done) | (simp; omega) | omega)
      · have l1 : n - dA q ≤ 366 := by
          have : dA (q + 1) = dA q + 366 := by rw [dA_step, hl]; rfl
          omega
        rw [hl] at HL
        clear hl r1 r2 hlt
        generalize dA q = A at *
        go_wp2_with (first | (go_at_call 97; refine (HL.out _).mono ?_; rintro e wz ⟨rfl, hz⟩; subst wz))
        clear HL l1
        obtain ⟨wo, rfl⟩ : ∃ wo : World, wo = wr := ⟨_, rfl⟩
        go_loopw [7, 9] (fun lv mv wr => ∃ j : Nat, j ≤ k ∧ mv = .int .i64 ((j : Int) + 1) ∧ lv = .int .i64 (n - A - cum q j) ∧ Below w.heap.size w wr) (fun _ mv _ => k + 1 - (intOf mv).toNat)
        case atStart => exact ⟨0, Nat.zero_le _, rfl, by simp [cum], hB⟩
        case round =>
          obtain ⟨j, hj, rfl, rfl, hB⟩ := hrel
          have ⟨hu1, hu2⟩ := cum_le q j
          have ⟨hl1, hl2⟩ := len_bd q (j + 1)
          have HJ : Hid (j < 12) := by have := HK.out; show j < 12; omega
          have hj12 : (j : Int) < 12 := by have := HJ.out; omega
          have HG : Hid (∀ W : World, Calls Tryz.prog 98 #[.int .i64 q, .int .i64 ((j : Int) + 1)] W fun e w' => e = .returned (.int .i64 (lenM q (j + 1))) ∧ w' = W) := fun W => rlong_any q j W HJ.out
          have HCu : Hid (cum q (j + 1) = cum q j + lenM q (j + 1)) := rfl
          by_cases hjk : j < k
          · have g1 : lenM q (j + 1) < n - A - cum q j := by have := HN.out; have := HE1.out; have := cum_mono q (show j + 1 ≤ k by omega); rw [HCu.out] at this; omega
            generalize lenM q (j + 1) = L at *
            generalize cum q j = C at *
            go_wp2_with (go_at_call 98; refine (HG.out _).mono ?_; rintro e wz ⟨rfl, hz⟩; subst wz)
            go_roundw
            case rel => exact ⟨j + 1, by omega, by go_num, by rw [HCu.out]; first | go_num | (congr 1; omega), by first | assumption | exact Below.drew (by assumption)⟩
            case measure => simp [intOf]; omega
          · obtain rfl : j = k := by omega
            have g1 : ¬ lenM q (j + 1) < n - A - cum q j := by have := HN.out; have := HE2.out; omega
            have g2 : n - A - cum q j = d := by have := HN.out; omega
            rw [g2] at g1 ⊢
            clear g2
            generalize lenM q (j + 1) = L at *
            generalize cum q j = C at *
            go_wp2_with (go_at_call 98; refine (HG.out _).mono ?_; rintro e wz ⟨rfl, hz⟩; subst wz)
            refine bodyPost_ret (v := .tuple #[.int .i64 q, .int .i64 ((j : Int) + 1), .int .i64 d, .int .i64 0]) (by simp [results, Tryz.results72, go_sem, *]) rfl ⟨rfl, ?_⟩
            repeat' (first | with_reducible exact Below.refl _ _ | with_reducible refine Below.setCell ?_ ?_ _ | with_reducible refine Below.alloc ?_ ?_ _ | with_reducible refine below_drewN ?_ _ | with_reducible refine Below.drew ?_ | with_reducible refine Below.trans ?_ (Below.mono (by assumption) ?_) | with_reducible exact Nat.le_refl _ | with_reducible refine Nat.le_trans ?_ (Below.size (by assumption)) | with_reducible refine Nat.le_trans ?_ (size_alloc _ _) | with_reducible refine Nat.le_trans ?_ (size_set _ _ _) | with_reducible refine Nat.le_trans ?_ (size_drewN _ _) | with_reducible refine Nat.le_trans ?_ (size_drew _) | (simp; done) | (simp; omega) | omega)
end
end Go.Proofs.YtnhaapcpklfkpaaGreatDoor.Dat
