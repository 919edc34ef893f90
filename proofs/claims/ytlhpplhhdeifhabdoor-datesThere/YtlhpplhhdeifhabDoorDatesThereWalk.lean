/-
  The walk of DatesThere.
-/
import Derived.Test.YtlhpplhhdeifhabDoorDt9
namespace Go.Proofs.YtlhpplhhdeifhabDoor
open Go.RowKit

theorem step_backY {y : Int} {k : Nat} (hk : k < 12) (s : Int) : stepY (stepY y k s) (stepM k s) (-s) = y := by unfold stepY stepM; omega
theorem step_backM {k : Nat} (hk : k < 12) (s : Int) : stepM (stepM k s) (-s) = k := by unfold stepM; omega
theorem step_later (y : Int) (k : Nat) (d s : Int) (hd : 1 ≤ d) : stepN y k d s < stepN y k d (s + 1) := by
  have a1 := len_bd (stepY y k s) (stepM k s + 1)
  have a3 := stepM_lt k s
  unfold stepN
  by_cases b : stepM k s = 11
  · have e1 : stepY y k (s + 1) = stepY y k s + 1 := by unfold stepY stepM at *; omega
    have e2 : stepM k (s + 1) = 0 := by unfold stepM at *; omega
    rw [e1, e2, b]
    rw [b] at a1
    have a4 := len_bd (stepY y k s + 1) (0 + 1)
    rw [dA_succ]
    have e3 : cum (stepY y k s) 12 = cum (stepY y k s) 11 + lenM (stepY y k s) (11 + 1) := rfl
    have e4 : cum (stepY y k s + 1) 0 = 0 := rfl
    omega
  · have e1 : stepY y k (s + 1) = stepY y k s := by unfold stepY stepM at *; omega
    have e2 : stepM k (s + 1) = stepM k s + 1 := by unfold stepM at *; omega
    rw [e1, e2]
    have a4 := len_bd (stepY y k s) (stepM k s + 1 + 1)
    have e3 : cum (stepY y k s) (stepM k s + 1) = cum (stepY y k s) (stepM k s) + lenM (stepY y k s) (stepM k s + 1) := rfl
    omega
set_option maxHeartbeats 4000000 in
theorem datesThere_walk (n s : Int) (w : World) (h : Env w) :
    Calls Tryd.prog 4 #[.int .i64 n, .int .i64 s] w fun e w' => e = .returned (.bool true) ∧ Below w.heap.size w w' := by
  have HL : Hid (∀ W : World, Below w.heap.size w W → Calls Tryd.prog 6 #[] W fun e w' => e = .returned (.bool true) ∧ Below W.heap.size W w') := fun W hW => lives_any W (h.below hW)
  by_cases a : (1 ≤ n ∧ n ≤ 2958464) ∧ -120000 ≤ s ∧ s ≤ 120000
  · obtain ⟨a1, s1, s2⟩ := a
    obtain ⟨y, k, d, hd⟩ := day_exists a1.1 a1.2
    have HM1 : Hid (∀ W : World, Below w.heap.size w W → Calls Tryd.prog 9 #[.int .i64 n, .int .i64 s] W fun e w' => e = .returned (.tuple #[.int .i64 (monthsR y k d s).1, .int .i64 (monthsR y k d s).2]) ∧ Below W.heap.size W w') := fun W hW => months_yes y k d n s W hd s1 s2 (h.below hW).1
    by_cases b : 1900 ≤ stepY y k s ∧ stepY y k s ≤ 9999
    · have hg := step_in hd s b.1 b.2
      have e1 : monthsR y k d s = (stepN y k d s, 0) := daily_yes hg.day.1 hg.day.2
      rw [e1] at HM1
      have hk := hd.k1
      have d1 := hd.d1
      have d2 := hd.d2
      have g2 := hg.d2
      obtain ⟨c, hc⟩ : ∃ c : Int, c = min d (lenM (stepY y k s) (stepM k s + 1)) := ⟨_, rfl⟩
      rw [← hc] at hg g2
      have c1 : c ≤ d := by omega
      have c2 : 1 ≤ c := hg.d1
      have hb : DayIs y k c (dA y + cum y k + c) := ⟨hd.y1, hd.y2, hk, c2, by omega, rfl⟩
      have HM2 : Hid (∀ W : World, Below w.heap.size w W → Calls Tryd.prog 9 #[.int .i64 (stepN y k d s), .int .i64 (-s)] W fun e w' => e = .returned (.tuple #[.int .i64 (dA y + cum y k + c), .int .i64 0]) ∧ Below W.heap.size W w') := fun W hW => by
        have := months_yes _ _ _ _ (-s) W hg (by omega) (by omega) (h.below hW).1
        rw [show monthsR (stepY y k s) (stepM k s) c (-s) = (dA y + cum y k + c, 0) by
          unfold monthsR stepN
          rw [step_backY hk, step_backM hk, show min c (lenM y (k + 1)) = c by omega, daily_yes hb.day.1 hb.day.2]] at this
        exact this
      have HP1 : Hid (∀ W : World, Below w.heap.size w W → Calls Tryd.prog 10 #[.int .i64 n] W fun e w' => e = .returned (.tuple #[.int .i64 y, .int .i64 ((k : Int) + 1), .int .i64 d, .int .i64 0]) ∧ Below W.heap.size W w') := fun W hW => parts_yes y k d n W hd (h.below hW).1
      have HP2 : Hid (∀ W : World, Below w.heap.size w W → Calls Tryd.prog 10 #[.int .i64 (dA y + cum y k + c)] W fun e w' => e = .returned (.tuple #[.int .i64 y, .int .i64 ((k : Int) + 1), .int .i64 c, .int .i64 0]) ∧ Below W.heap.size W w') := fun W hW => parts_yes y k c _ W hb (h.below hW).1
      have hlate := step_later y k d s d1
      have h28 : d ≤ 28 → dA y + cum y k + c = n := fun q => by
        have l1 := len_bd (stepY y k s) (stepM k s + 1)
        rw [hd.n1]; omega
      have HM3 : Hid (s < 120000 → ∃ R : Int × Int, ((R.2 == 0) = false ∨ ((R.2 == 0) = true ∧ stepN y k d s < R.1)) ∧ ∀ W : World, Below w.heap.size w W → Calls Tryd.prog 9 #[.int .i64 n, .int .i64 (s + 1)] W fun e w' => e = .returned (.tuple #[.int .i64 R.1, .int .i64 R.2]) ∧ Below W.heap.size W w') := fun q => by
        refine ⟨monthsR y k d (s + 1), ?_, fun W hW => months_yes y k d n (s + 1) W hd (by omega) (by omega) (h.below hW).1⟩
        unfold monthsR
        by_cases r : 1 ≤ stepN y k d (s + 1) ∧ stepN y k d (s + 1) ≤ 2958464
        · rw [daily_yes r.1 r.2]; exact Or.inr ⟨rfl, hlate⟩
        · rw [daily_no (by omega)]; exact Or.inl rfl
      have k2 : (k : Int) < 12 := by omega
      generalize stepN y k d s = N at *
      generalize dA y + cum y k + c = V at *
      have hs : (if d ≤ 28 then V = n else True) := by split; exact h28 (by assumption); trivial
      have key : (¬ d ≤ 28) ∨ (d ≤ 28 ∧ (V == n) = true ∧ (V != n) = false) := by
        by_cases q : d ≤ 28
        · have := h28 q
          exact Or.inr ⟨q, beq_iff_eq.2 this, by rw [bne, beq_iff_eq.2 this]; rfl⟩
        · exact Or.inl q
      have c3 : ¬ d < c := by omega
      clear h hd hg hb hc e1 hlate h28 hs d1 d2 g2 c1 c2 hk b a1
      by_cases s3 : s < 120000
      · obtain ⟨R, hR, hM3⟩ := HM3.out s3
        have HM4 := hide hM3
        have s4 : ¬ 120000 ≤ s := by omega
        clear HM3 hM3
        obtain ⟨R1, R2⟩ := R
        have hR : ((R2 == 0) = false ∨ ((R2 == 0) = true ∧ N < R1)) := hR
        have hR' : ((R2 != 0) = true ∨ ((R2 != 0) = false ∧ N < R1)) := by
          rcases hR with q | ⟨q, r⟩
          · exact Or.inl (by rw [bne, q]; rfl)
          · exact Or.inr ⟨by rw [bne, q]; rfl, r⟩
        clear hR
        rcases key with key | ⟨key, key2, key3⟩ <;> rcases hR' with hR | ⟨hR, hR2⟩
        all_goals
          go_enter Tryd.func4, Tryd.ntmps4
          go_wp2_with fail
          refine (HM1.out _ (Below.refl _ _)).mono ?_
          rintro e w1 ⟨rfl, hb1⟩
          go_wp2_with fail
          refine (HM2.out _ hb1).mono ?_
          rintro e w2 ⟨rfl, hb2⟩
          have hb2 := up hb1 hb2
          go_wp2_with fail
          refine (HP1.out _ hb2).mono ?_
          rintro e w3 ⟨rfl, hb3⟩
          have hb3 := up hb2 hb3
          go_wp2_with fail
          refine (HP2.out _ hb3).mono ?_
          rintro e w4 ⟨rfl, hb4⟩
          have hb4 := up hb3 hb4
          clear HM1 HM2 HP1 HP2
          go_wp2_with fail
          refine (HM4.out _ hb4).mono ?_
          rintro e w5 ⟨rfl, hb5⟩
          have hb5 := up hb4 hb5
          go_wp2_with (go_at_call 6; refine (HL.out _ hb5).mono ?_; rintro e w6 ⟨rfl, hb6⟩)
          go_ret
          exact ⟨rfl, up hb5 hb6⟩
      · have s4 : 120000 ≤ s := by omega
        clear HM3
        rcases key with key | ⟨key, key2, key3⟩
        all_goals
          go_enter Tryd.func4, Tryd.ntmps4
          go_wp2_with fail
          refine (HM1.out _ (Below.refl _ _)).mono ?_
          rintro e w1 ⟨rfl, hb1⟩
          go_wp2_with fail
          refine (HM2.out _ hb1).mono ?_
          rintro e w2 ⟨rfl, hb2⟩
          have hb2 := up hb1 hb2
          go_wp2_with fail
          refine (HP1.out _ hb2).mono ?_
          rintro e w3 ⟨rfl, hb3⟩
          have hb3 := up hb2 hb3
          go_wp2_with fail
          refine (HP2.out _ hb3).mono ?_
          rintro e w4 ⟨rfl, hb4⟩
          have hb4 := up hb3 hb4
          clear HM1 HM2 HP1 HP2
          go_wp2_with (go_at_call 6; refine (HL.out _ hb4).mono ?_; rintro e w6 ⟨rfl, hb6⟩)
          go_ret
          exact ⟨rfl, up hb4 hb6⟩
    · have e1 : monthsR y k d s = (0, 3) := daily_no (step_out hd s b)
      rw [e1] at HM1
      clear h hd e1 b a1
      go_enter Tryd.func4, Tryd.ntmps4
      go_wp2_with fail
      refine (HM1.out _ (Below.refl _ _)).mono ?_
      rintro e w1 ⟨rfl, hb1⟩
      go_wp2_with (go_at_call 6; refine (HL.out _ hb1).mono ?_; rintro e w6 ⟨rfl, hb6⟩)
      go_ret
      exact ⟨rfl, up hb1 hb6⟩
  · have HM1 : Hid (∀ W : World, Calls Tryd.prog 9 #[.int .i64 n, .int .i64 s] W fun e w' => e = .returned (.tuple #[.int .i64 0, .int .i64 2]) ∧ Below W.heap.size W w') := fun W => months_no n s W a
    clear h a
    go_enter Tryd.func4, Tryd.ntmps4
    go_wp2_with fail
    refine (HM1.out _).mono ?_
    rintro e w1 ⟨rfl, hb1⟩
    go_wp2_with (go_at_call 6; refine (HL.out _ hb1).mono ?_; rintro e w6 ⟨rfl, hb6⟩)
    go_ret
    exact ⟨rfl, up hb1 hb6⟩
end Go.Proofs.YtlhpplhhdeifhabDoor
