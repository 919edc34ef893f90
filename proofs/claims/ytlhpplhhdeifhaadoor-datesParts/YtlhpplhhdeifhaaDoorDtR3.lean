/-
  The contracts of the answer's Parts and Months.
-/
import Derived.Test.YtlhpplhhdeifhaaDoorDtR2
namespace Go.Proofs.YtlhpplhhdeifhaaDoor
open Go.RowKit

theorem up' {w0 w w' : World} (h : Below w0.heap.size w0 w) (k : Below w.heap.size w w') : Below w0.heap.size w0 w' := h.trans (k.mono h.size)
set_option maxHeartbeats 4000000 in
theorem rparts_yes (y : Int) (k : Nat) (d n : Int) (w : World) (h : DayIs y k d n) :
    Calls Tryd.prog 15 #[.int .i64 n] w fun e w' => e = .returned (.tuple #[.int .i64 y, .int .i64 ((k : Int) + 1), .int .i64 d, .int .i64 0]) ∧ Below w.heap.size w w' := by
  obtain ⟨n1, n2⟩ := h.day
  obtain ⟨r1, r2⟩ := h.within
  have y1 := h.y1
  have y2 := h.y2
  have HH := hide h
  clear h
  have n3 : ¬ n < 1 := by omega
  have n4 : ¬ 2958464 < n := by omega
  go_enter Tryd.func15, Tryd.ntmps15
  go_wp2_with fail
  go_loopw [6, 7] (fun yv lv wr => ∃ q : Int, 1900 ≤ q ∧ q ≤ y ∧ yv = .int .i64 q ∧ lv = .int .i64 (n - dA q) ∧ Below w.heap.size w wr) (fun yv _ _ => (y - intOf yv).toNat)
  case atStart => exact ⟨1900, by omega, by omega, rfl, by rw [dA_first]; simp, Below.refl _ _⟩
  case round =>
    obtain ⟨q, hq1, hq2, rfl, rfl, hB⟩ := hrel
    have ⟨hb1, hb2⟩ := dA_bd q (by omega) (by omega)
    have HL : Hid (∀ W : World, Calls Tryd.prog 12 #[.int .i64 q] W fun e w' => e = .returned (.bool (leapB q)) ∧ w' = W) := fun W => rleap_any q W
    by_cases hlt : q < y
    · have hm := dA_mono (show q + 1 ≤ y by omega)
      cases hl : leapB q
      · have HD : Hid (dA (q + 1) = dA q + 365) := by show _ = _; rw [dA_step, hl]; rfl
        rw [hl] at HL
        have l1 : ¬ n - dA q ≤ 365 := by have := HD.out; omega
        clear hl hm r1 r2
        generalize dA q = A at *
        go_wp2_with (go_at_call 12; refine (HL.out _).mono ?_; rintro e wz ⟨rfl, hz⟩; subst wz)
        go_roundw
        case rel => exact ⟨q + 1, by omega, by omega, by go_num, by rw [HD.out]; first | go_num | (congr 1; omega), by first | assumption | exact Below.drew (by assumption)⟩
        case measure => simp [intOf]; omega
      · have HD : Hid (dA (q + 1) = dA q + 366) := by show _ = _; rw [dA_step, hl]; rfl
        rw [hl] at HL
        have l1 : ¬ n - dA q ≤ 366 := by have := HD.out; omega
        clear hl hm r1 r2
        generalize dA q = A at *
        go_wp2_with (go_at_call 12; refine (HL.out _).mono ?_; rintro e wz ⟨rfl, hz⟩; subst wz)
        go_roundw
        case rel => exact ⟨q + 1, by omega, by omega, by go_num, by rw [HD.out]; first | go_num | (congr 1; omega), by first | assumption | exact Below.drew (by assumption)⟩
        case measure => simp [intOf]; omega
    · obtain rfl : q = y := by omega
      have HN := hide HH.out.n1
      have HK := hide HH.out.k1
      have HE1 := hide HH.out.d1
      have HE2 := hide HH.out.d2
      cases hl : leapB q
      · have l1 : n - dA q ≤ 365 := by
          have : dA (q + 1) = dA q + 365 := by rw [dA_step, hl]; rfl
          omega
        rw [hl] at HL
        clear hl r1 r2 hlt
        generalize dA q = A at *
        go_wp2_with (first | (go_at_call 12; refine (HL.out _).mono ?_; rintro e wz ⟨rfl, hz⟩; subst wz))
        clear HL l1
        obtain ⟨wo, rfl⟩ : ∃ wo : World, wo = wr := ⟨_, rfl⟩
        go_loopw [7, 9] (fun lv mv wr => ∃ j : Nat, j ≤ k ∧ mv = .int .i64 ((j : Int) + 1) ∧ lv = .int .i64 (n - A - cum q j) ∧ Below w.heap.size w wr) (fun _ mv _ => k + 1 - (intOf mv).toNat)
        case atStart => exact ⟨0, Nat.zero_le _, rfl, by simp [cum], hB⟩
        case round =>
          obtain ⟨j, hj, rfl, rfl, hB⟩ := hrel
          have ⟨hu1, hu2⟩ := cum_le q j
          have ⟨hl1, hl2⟩ := len_bd q (j + 1)
          have HJ : Hid (j < 12) := by have := HK.out; show j < 12; omega
          have hj12 : (j : Int) < 12 := by have := HJ.out; omega
          have HG : Hid (∀ W : World, Calls Tryd.prog 31 #[.int .i64 q, .int .i64 ((j : Int) + 1)] W fun e w' => e = .returned (.int .i64 (lenM q (j + 1))) ∧ w' = W) := fun W => rlong_any q j W HJ.out
          have HCu : Hid (cum q (j + 1) = cum q j + lenM q (j + 1)) := rfl
          by_cases hjk : j < k
          · have g1 : lenM q (j + 1) < n - A - cum q j := by have := HN.out; have := HE1.out; have := cum_mono q (show j + 1 ≤ k by omega); rw [HCu.out] at this; omega
            generalize lenM q (j + 1) = L at *
            generalize cum q j = C at *
            go_wp2_with (go_at_call 31; refine (HG.out _).mono ?_; rintro e wz ⟨rfl, hz⟩; subst wz)
            go_roundw
            case rel => exact ⟨j + 1, by omega, by go_num, by rw [HCu.out]; first | go_num | (congr 1; omega), by first | assumption | exact Below.drew (by assumption)⟩
            case measure => simp [intOf]; omega
          · obtain rfl : j = k := by omega
            have g1 : ¬ lenM q (j + 1) < n - A - cum q j := by have := HN.out; have := HE2.out; omega
            have g2 : n - A - cum q j = d := by have := HN.out; omega
            rw [g2] at g1 ⊢
            clear g2
            generalize lenM q (j + 1) = L at *
            generalize cum q j = C at *
            go_wp2_with (go_at_call 31; refine (HG.out _).mono ?_; rintro e wz ⟨rfl, hz⟩; subst wz)
            refine bodyPost_ret (v := .tuple #[.int .i64 q, .int .i64 ((j : Int) + 1), .int .i64 d, .int .i64 0]) (by simp [results, Tryd.results15, go_sem, *]) rfl ⟨rfl, ?_⟩
            repeat' (first | with_reducible exact Below.refl _ _ | with_reducible refine Below.setCell ?_ ?_ _ | with_reducible refine Below.alloc ?_ ?_ _ | with_reducible refine below_drewN ?_ _ | with_reducible refine Below.drew ?_ | with_reducible refine Below.trans ?_ (Below.mono (by assumption) ?_) | with_reducible exact Nat.le_refl _ | with_reducible refine Nat.le_trans ?_ (Below.size (by assumption)) | with_reducible refine Nat.le_trans ?_ (size_alloc _ _) | with_reducible refine Nat.le_trans ?_ (size_set _ _ _) | with_reducible refine Nat.le_trans ?_ (size_drewN _ _) | with_reducible refine Nat.le_trans ?_ (size_drew _) | (simp; done) | (simp; omega) | omega)
      · have l1 : n - dA q ≤ 366 := by
          have : dA (q + 1) = dA q + 366 := by rw [dA_step, hl]; rfl
          omega
        rw [hl] at HL
        clear hl r1 r2 hlt
        generalize dA q = A at *
        go_wp2_with (first | (go_at_call 12; refine (HL.out _).mono ?_; rintro e wz ⟨rfl, hz⟩; subst wz))
        clear HL l1
        obtain ⟨wo, rfl⟩ : ∃ wo : World, wo = wr := ⟨_, rfl⟩
        go_loopw [7, 9] (fun lv mv wr => ∃ j : Nat, j ≤ k ∧ mv = .int .i64 ((j : Int) + 1) ∧ lv = .int .i64 (n - A - cum q j) ∧ Below w.heap.size w wr) (fun _ mv _ => k + 1 - (intOf mv).toNat)
        case atStart => exact ⟨0, Nat.zero_le _, rfl, by simp [cum], hB⟩
        case round =>
          obtain ⟨j, hj, rfl, rfl, hB⟩ := hrel
          have ⟨hu1, hu2⟩ := cum_le q j
          have ⟨hl1, hl2⟩ := len_bd q (j + 1)
          have HJ : Hid (j < 12) := by have := HK.out; show j < 12; omega
          have hj12 : (j : Int) < 12 := by have := HJ.out; omega
          have HG : Hid (∀ W : World, Calls Tryd.prog 31 #[.int .i64 q, .int .i64 ((j : Int) + 1)] W fun e w' => e = .returned (.int .i64 (lenM q (j + 1))) ∧ w' = W) := fun W => rlong_any q j W HJ.out
          have HCu : Hid (cum q (j + 1) = cum q j + lenM q (j + 1)) := rfl
          by_cases hjk : j < k
          · have g1 : lenM q (j + 1) < n - A - cum q j := by have := HN.out; have := HE1.out; have := cum_mono q (show j + 1 ≤ k by omega); rw [HCu.out] at this; omega
            generalize lenM q (j + 1) = L at *
            generalize cum q j = C at *
            go_wp2_with (go_at_call 31; refine (HG.out _).mono ?_; rintro e wz ⟨rfl, hz⟩; subst wz)
            go_roundw
            case rel => exact ⟨j + 1, by omega, by go_num, by rw [HCu.out]; first | go_num | (congr 1; omega), by first | assumption | exact Below.drew (by assumption)⟩
            case measure => simp [intOf]; omega
          · obtain rfl : j = k := by omega
            have g1 : ¬ lenM q (j + 1) < n - A - cum q j := by have := HN.out; have := HE2.out; omega
            have g2 : n - A - cum q j = d := by have := HN.out; omega
            rw [g2] at g1 ⊢
            clear g2
            generalize lenM q (j + 1) = L at *
            generalize cum q j = C at *
            go_wp2_with (go_at_call 31; refine (HG.out _).mono ?_; rintro e wz ⟨rfl, hz⟩; subst wz)
            refine bodyPost_ret (v := .tuple #[.int .i64 q, .int .i64 ((j : Int) + 1), .int .i64 d, .int .i64 0]) (by simp [results, Tryd.results15, go_sem, *]) rfl ⟨rfl, ?_⟩
            repeat' (first | with_reducible exact Below.refl _ _ | with_reducible refine Below.setCell ?_ ?_ _ | with_reducible refine Below.alloc ?_ ?_ _ | with_reducible refine below_drewN ?_ _ | with_reducible refine Below.drew ?_ | with_reducible refine Below.trans ?_ (Below.mono (by assumption) ?_) | with_reducible exact Nat.le_refl _ | with_reducible refine Nat.le_trans ?_ (Below.size (by assumption)) | with_reducible refine Nat.le_trans ?_ (size_alloc _ _) | with_reducible refine Nat.le_trans ?_ (size_set _ _ _) | with_reducible refine Nat.le_trans ?_ (size_drewN _ _) | with_reducible refine Nat.le_trans ?_ (size_drew _) | (simp; done) | (simp; omega) | omega)
set_option maxHeartbeats 2000000 in
theorem rmonths_no (n s : Int) (w : World) (h : ¬ ((1 ≤ n ∧ n ≤ 2958464) ∧ -120000 ≤ s ∧ s ≤ 120000)) :
    Calls Tryd.prog 21 #[.int .i64 n, .int .i64 s] w fun e w' => e = .returned (.tuple #[.int .i64 0, .int .i64 2]) ∧ Below w.heap.size w w' := by
  have HF : Hid (∀ W : World, Calls Tryd.prog 27 #[.int .i64 s, .int .i64 120000] W fun e w' => e = .returned (.bool (!decide (-120000 ≤ s ∧ s ≤ 120000))) ∧ w' = W) := fun W => far_any s 120000 W (by decide) (by decide)
  by_cases a : 1 ≤ n ∧ n ≤ 2958464
  · obtain ⟨y, k, d, hd⟩ := day_exists a.1 a.2
    have HP : Hid (∀ W : World, Calls Tryd.prog 15 #[.int .i64 n] W fun e w' => e = .returned (.tuple #[.int .i64 y, .int .i64 ((k : Int) + 1), .int .i64 d, .int .i64 0]) ∧ Below W.heap.size W w') := fun W => rparts_yes y k d n W hd
    rw [decide_eq_false (fun q => h ⟨a, q⟩)] at HF
    clear h a hd
    go_enter Tryd.func21, Tryd.ntmps21
    go_wp2_with (first | (go_at_call 15; refine (HP.out _).mono ?_; rintro e w1 ⟨rfl, hb1⟩) | (go_at_call 27; refine (HF.out _).mono ?_; rintro e wz ⟨rfl, hz⟩; subst wz))
    go_ret2
    exact ⟨rfl, by assumption⟩
  · have HP : Hid (∀ W : World, Calls Tryd.prog 15 #[.int .i64 n] W fun e w' => e = .returned (.tuple #[.int .i64 0, .int .i64 0, .int .i64 0, .int .i64 2]) ∧ Below W.heap.size W w') := fun W => rparts_no n W a
    clear h a
    go_enter Tryd.func21, Tryd.ntmps21
    go_wp2_with (first | (go_at_call 15; refine (HP.out _).mono ?_; rintro e w1 ⟨rfl, hb1⟩) | (go_at_call 27; refine (HF.out _).mono ?_; rintro e wz ⟨rfl, hz⟩; subst wz))
    go_ret2
    exact ⟨rfl, by assumption⟩
set_option maxHeartbeats 4000000 in
theorem rmonths_yes (y : Int) (k : Nat) (d n s : Int) (w : World) (h : DayIs y k d n) (s1 : -120000 ≤ s) (s2 : s ≤ 120000) :
    Calls Tryd.prog 21 #[.int .i64 n, .int .i64 s] w fun e w' => e = .returned (.tuple #[.int .i64 (monthsR y k d s).1, .int .i64 (monthsR y k d s).2]) ∧ Below w.heap.size w w' := by
  have HF : Hid (∀ W : World, Calls Tryd.prog 27 #[.int .i64 s, .int .i64 120000] W fun e w' => e = .returned (.bool false) ∧ w' = W) := fun W => by have := far_any s 120000 W (by decide) (by decide); rw [decide_eq_true (And.intro s1 s2)] at this; exact this
  have HP : Hid (∀ W : World, Calls Tryd.prog 15 #[.int .i64 n] W fun e w' => e = .returned (.tuple #[.int .i64 y, .int .i64 ((k : Int) + 1), .int .i64 d, .int .i64 0]) ∧ Below W.heap.size W w') := fun W => rparts_yes y k d n W h
  have y1 := h.y1
  have y2 := h.y2
  have k1 := h.k1
  have d1 := h.d1
  have d3 := h.dle
  have k2 : (k : Int) < 12 := by omega
  obtain ⟨Z, hZ⟩ : ∃ Z : Int, Z = 12 * y + ((k : Int) + 1) - 1 + s := ⟨_, rfl⟩
  have z1 : stepY y k s = Z / 12 := by unfold stepY; omega
  have z2 : ((stepM k s : Nat) : Int) = Z % 12 := by unfold stepM; omega
  by_cases b : 1900 ≤ stepY y k s ∧ stepY y k s ≤ 9999
  · have hg := step_in h s b.1 b.2
    have e1 : monthsR y k d s = (stepN y k d s, 0) := daily_yes hg.day.1 hg.day.2
    rw [e1]
    have b1 : ¬ Z < 22800 := by omega
    have b2 : ¬ 120000 ≤ Z := by omega
    have b3 : 0 ≤ Z := by omega
    have M := stepM_lt k s
    have HI : Hid (∀ W : World, Calls Tryd.prog 28 #[.int .i64 (Z / 12), .int .i64 (Z % 12 + 1)] W fun e w' => e = .returned (.int .i64 (dA (stepY y k s) + cum (stepY y k s) (stepM k s) + 1)) ∧ Below W.heap.size W w') := fun W => by
      have := first_any (stepY y k s) (stepM k s) W (by omega) (by omega) M
      rw [z2] at this
      rw [← z1]
      exact this
    have HG : Hid (∀ W : World, Calls Tryd.prog 31 #[.int .i64 (Z / 12), .int .i64 (Z % 12 + 1)] W fun e w' => e = .returned (.int .i64 (lenM (stepY y k s) (stepM k s + 1))) ∧ w' = W) := fun W => by
      have := rlong_any (stepY y k s) (stepM k s) W M
      rw [z2] at this
      rw [← z1]
      exact this
    have HN : Hid (stepN y k d s = dA (stepY y k s) + cum (stepY y k s) (stepM k s) + 1 + min d (lenM (stepY y k s) (stepM k s + 1)) - 1) := by show _ = _; unfold stepN; omega
    rw [HN.out]
    have q1 := dA_bd (stepY y k s) (by omega) (by omega)
    have q2 := cum_le (stepY y k s) (stepM k s)
    have q3 := len_bd (stepY y k s) (stepM k s + 1)
    have q4 : -50000000 ≤ dA (stepY y k s) + cum (stepY y k s) (stepM k s) + 1 := by omega
    have q5 : dA (stepY y k s) + cum (stepY y k s) (stepM k s) + 1 ≤ 50000000 := by omega
    clear HN e1 hg z1 z2 q1 q2 b M
    generalize dA (stepY y k s) + cum (stepY y k s) (stepM k s) + 1 = F at *
    generalize lenM (stepY y k s) (stepM k s + 1) = L at *
    obtain ⟨q6, q7⟩ := q3
    obtain ⟨V, hV⟩ : ∃ V : Int, V = min d L := ⟨_, rfl⟩
    have v1 : 1 ≤ V := by omega
    have v2 : V ≤ 31 := by omega
    clear h
    rw [← hV]
    subst hZ
    have m1 : min d L = V := hV.symm
    clear hV
    go_enter Tryd.func21, Tryd.ntmps21
    go_wp2_with (first | (go_at_call 15; refine (HP.out _).mono ?_; rintro e w1 ⟨rfl, hb1⟩) | (go_at_call 27; refine (HF.out _).mono ?_; rintro e wz ⟨rfl, hz⟩; subst wz) | (go_at_call 28; refine (HI.out _).mono ?_; rintro e w2 ⟨rfl, hb2⟩) | (go_at_call 31; refine (HG.out _).mono ?_; rintro e wz ⟨rfl, hz⟩; subst wz))
    go_ret2
    exact ⟨rfl, up' hb1 hb2⟩
  · have e1 : monthsR y k d s = (0, 3) := daily_no (step_out h s b)
    rw [e1]
    have key : Z < 22800 ∨ (¬ Z < 22800 ∧ 120000 ≤ Z) := by omega
    clear e1 h z1 z2 b
    have hW : IntKind.i64.wrap (12 * y + ((k : Int) + 1) - 1 + s) = Z := by rw [IntKind.wrap_i64]; omega
    rcases key with b1 | ⟨b1, b2⟩
    all_goals
      go_enter Tryd.func21, Tryd.ntmps21
      go_wp2_with (first | (go_at_call 15; refine (HP.out _).mono ?_; rintro e w1 ⟨rfl, hb1⟩) | (go_at_call 27; refine (HF.out _).mono ?_; rintro e wz ⟨rfl, hz⟩; subst wz))
      go_ret2
      exact ⟨rfl, by assumption⟩
end Go.Proofs.YtlhpplhhdeifhaaDoor
