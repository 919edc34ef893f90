/-
  The walk of the law NumDivides, out of its callees' contracts.
-/
import Derived.Test.YtjhldifilfkebabDoorNumHalvesWalk
import Derived.Test.YtjhldifilfkebabDoorFull
namespace Go.Proofs.YtjhldifilfkebabDoor
open Go.RowKit

theorem div_ok {a b : Int} (h : divisR a b = 0) (h2 : (divR a b).2 = 0) : divR a b = (put (decide (a < 0) != decide (b < 0)) (halfEven (absI a * 1000000) (absI b)), 0) ∧ halfEven (absI a * 1000000) (absI b) ≤ 1000000000000000000 ∧ 0 ≤ halfEven (absI a * 1000000) (absI b) := by
  obtain ⟨ha, hb, hz⟩ := divisR_zero h
  have y0 : 0 < absI b := by unfold absI; split <;> omega
  have x0 := absI_nn a
  have e : divR a b = quoR (absI a * 1000000) (absI b) (decide (a < 0) != decide (b < 0)) := by simp [divR, h]
  rw [e] at h2 ⊢
  rw [quoR_eq _ (by omega) y0] at h2 ⊢
  have hn := halfEven_nn (N := absI a * 1000000) (d := absI b) (by omega) y0
  split at h2
  · cases h2
  · rename_i c
    rw [if_neg c]
    exact ⟨rfl, by omega, hn⟩
theorem div_no {a b : Int} (h : divisR a b = 0) (h2 : (divR a b).2 ≠ 0) : (divR a b).1 = 0 := by
  obtain ⟨ha, hb, hz⟩ := divisR_zero h
  have y0 : 0 < absI b := by unfold absI; split <;> omega
  have x0 := absI_nn a
  have e : divR a b = quoR (absI a * 1000000) (absI b) (decide (a < 0) != decide (b < 0)) := by simp [divR, h]
  rw [e] at h2 ⊢
  rw [quoR_eq _ (by omega) y0] at h2 ⊢
  split at h2
  · rename_i c; rw [if_pos c]
  · exact absurd rfl h2

theorem back_near {a b : Int} (hb : b ≠ 0) : 2 * absI (a * 1000000 - put (decide (a < 0) != decide (b < 0)) (halfEven (absI a * 1000000) (absI b)) * b) ≤ absI b := by
  have y0 : 0 < absI b := by unfold absI; split <;> omega
  obtain ⟨off, o0, o1, o2⟩ := half_facts (N := absI a * 1000000) y0
  generalize halfEven (absI a * 1000000) (absI b) = H at *
  have key : ∀ z : Int, absI a * 1000000 - H * absI b = z → (a * 1000000 - put (decide (a < 0) != decide (b < 0)) H * b = z ∨ a * 1000000 - put (decide (a < 0) != decide (b < 0)) H * b = -z) := by
    intro z hz
    by_cases sa : a < 0 <;> by_cases sb : b < 0
    · have e : put (decide (a < 0) != decide (b < 0)) H = H := by simp [put, sa, sb]
      rw [e]; rw [absI_neg sa, absI_neg sb, Int.mul_neg] at hz; right; omega
    · have e : put (decide (a < 0) != decide (b < 0)) H = -H := by simp [put, sa, sb]
      rw [e, Int.neg_mul]; rw [absI_neg sa, absI_pos (by omega)] at hz; right; omega
    · have e : put (decide (a < 0) != decide (b < 0)) H = -H := by simp [put, sa, sb]
      rw [e, Int.neg_mul]; rw [absI_pos (by omega), absI_neg sb, Int.mul_neg] at hz; left; omega
    · have e : put (decide (a < 0) != decide (b < 0)) H = H := by simp [put, sa, sb]
      rw [e]; rw [absI_pos (by omega), absI_pos (by omega)] at hz; left; omega
  have k := key _ rfl
  generalize a * 1000000 - put (decide (a < 0) != decide (b < 0)) H * b = v at *
  have hv : absI v = off := by
    unfold absI; split <;> omega
  rw [hv]; omega

theorem mul_bd {q b : Int} (h1 : absI q ≤ 1000000000) (h2 : absI b ≤ 1000000000) : -1000000000000000000 ≤ q * b ∧ q * b ≤ 1000000000000000000 := by
  have e : (q * b).natAbs = q.natAbs * b.natAbs := Int.natAbs_mul q b
  have h3 : q.natAbs ≤ 1000000000 := by unfold absI at h1; split at h1 <;> omega
  have h4 : b.natAbs ≤ 1000000000 := by unfold absI at h2; split at h2 <;> omega
  have h5 : q.natAbs * b.natAbs ≤ 1000000000 * 1000000000 := Nat.mul_le_mul h3 h4
  omega

set_option maxHeartbeats 4000000 in
theorem numDivides_any (a b : Int) (w : World) (ht : TabOk w) :
    Calls Tryd.prog 5 #[.int .i64 a, .int .i64 b] w fun e w' => e = .returned (.bool true) ∧ Below w.heap.size w w' := by
  have HT := hide ht
  clear ht
  by_cases h : divisR a b = 0
  · obtain ⟨ha, hb, hz⟩ := divisR_zero h
    obtain ⟨a1, a2⟩ := fitsB_true ha
    obtain ⟨b1, b2⟩ := fitsB_true hb
    have HMo := hide (fun W : World => mod_any a b W)
    rw [show modR a b = (fmodR a b, 0) from by simp [modR, h]] at HMo
    have HDi := hide (fun W : World => div_full a b W)
    obtain ⟨f1, f2⟩ := fmodR_bd a1 a2 b1 b2
    have ff := fmodR_facts (a := a) hz
    generalize fmodR a b = r at *
    have HMo' : Hid (∀ W : World, Calls Tryd.prog 14 #[.int .i64 a, .int .i64 b] W fun e w' => e = .returned (.tuple #[.int .i64 r, .int .i64 0]) ∧ w' = W) := HMo.out
    clear HMo ha hb
    have hDiv : (∃ q f : Int, divR a b = (q, f) ∧ f ≠ 0) ∨ (∃ q : Int, divR a b = (q, 0) ∧ -1000000000000000000 ≤ q ∧ q ≤ 1000000000000000000 ∧ 2 * absI (a * 1000000 - q * b) ≤ absI b) := by
      by_cases hd : (divR a b).2 = 0
      · right
        obtain ⟨e1, e2, e3⟩ := div_ok h hd
        exact ⟨_, e1, by unfold put; split <;> omega, by unfold put; split <;> omega, back_near hz⟩
      · left
        exact ⟨_, _, rfl, hd⟩
    have HB := hide hz
    clear h hz
    -- what is left, by its sign
    have hsgn : r = 0 ∨ (r < 0 ∧ b < 0 ∧ absI r < absI b) ∨ (¬ r < 0 ∧ ¬ b < 0 ∧ absI r < absI b ∧ r ≠ 0) := by
      by_cases h0 : r = 0
      · exact Or.inl h0
      · obtain ⟨g1, g2⟩ := ff h0
        by_cases s : r < 0
        · exact Or.inr (Or.inl ⟨s, g1.1 s, g2⟩)
        · exact Or.inr (Or.inr ⟨s, fun hb => s (g1.2 hb), g2, h0⟩)
    clear ff
    have HS := hide hsgn
    have HV := hide hDiv
    clear hsgn hDiv
    go_enter Tryd.func5, Tryd.ntmps5
    go_wp2_with fail
    refine (HMo'.out _).mono ?_
    rintro e w0 ⟨rfl, rfl⟩
    rcases HS.out with s | ⟨s1, s2, s3⟩ | ⟨s1, s2, s3, s4⟩
    · have t : (r != 0) = false := by simp [s]
      clear s
      go_wp2_with fail
      refine (HDi.out _).mono ?_
      rintro e w1 ⟨rfl, b1'⟩
      rcases HV.out with ⟨q, f, hq, hf⟩ | ⟨q, hq, q1, q2, q3⟩
      · rw [hq]
        have tf : (f != 0) = true := by simp [hf]
        clear hq hf
        go_wp2_with fail
        refine (lives_any _ (tab_below HT.out b1')).mono ?_
        rintro e w5 ⟨rfl, b5⟩
        go_wp2
        go_ret
        exact ⟨rfl, b1'.trans (b5.mono b1'.size)⟩
      · rw [hq]
        clear hq
        by_cases k1 : 1000000000000 < absI a
        · go_wp2_with (go_at_call 8; refine (lsize_any _ _ (by omega) (by omega)).mono ?_; rintro e w1 ⟨rfl, rfl⟩)
          refine (lives_any _ (tab_below HT.out b1')).mono ?_
          rintro e w5 ⟨rfl, b5⟩
          go_wp2
          go_ret
          exact ⟨rfl, b1'.trans (b5.mono b1'.size)⟩
        · by_cases k2 : 1000000000 < absI b
          · go_wp2_with (go_at_call 8; refine (lsize_any _ _ (by omega) (by omega)).mono ?_; rintro e w1 ⟨rfl, rfl⟩)
            refine (lives_any _ (tab_below HT.out b1')).mono ?_
            rintro e w5 ⟨rfl, b5⟩
            go_wp2
            go_ret
            exact ⟨rfl, b1'.trans (b5.mono b1'.size)⟩
          · by_cases k3 : 1000000000 < absI q
            · go_wp2_with (go_at_call 8; refine (lsize_any _ _ (by omega) (by omega)).mono ?_; rintro e w1 ⟨rfl, rfl⟩)
              refine (lives_any _ (tab_below HT.out b1')).mono ?_
              rintro e w5 ⟨rfl, b5⟩
              go_wp2
              go_ret
              exact ⟨rfl, b1'.trans (b5.mono b1'.size)⟩
            · obtain ⟨m1, m2⟩ := mul_bd (q := q) (b := b) (by omega) (by omega)
              have m3 : -1000000000000 ≤ a := by unfold absI at k1; split at k1 <;> omega
              have m4 : a ≤ 1000000000000 := by unfold absI at k1; split at k1 <;> omega
              have m5 := absI_nn (a * 1000000 - q * b)
              go_wp2_with (go_at_call 8; refine (lsize_any _ _ (by omega) (by omega)).mono ?_; rintro e w1 ⟨rfl, rfl⟩)
              refine (lives_any _ (tab_below HT.out b1')).mono ?_
              rintro e w5 ⟨rfl, b5⟩
              go_wp2
              go_ret
              exact ⟨rfl, b1'.trans (b5.mono b1'.size)⟩
    · have t : (r != 0) = true := by simp; omega
      have t1 : decide (r < 0) = true := by simp [s1]
      have t2 : decide (b < 0) = true := by simp [s2]
      go_wp2_with (go_at_call 8; refine (lsize_any _ _ (by omega) (by omega)).mono ?_; rintro e w0 ⟨rfl, rfl⟩)
      go_wp2_with fail
      refine (HDi.out _).mono ?_
      rintro e w1 ⟨rfl, b1'⟩
      rcases HV.out with ⟨q, f, hq, hf⟩ | ⟨q, hq, q1, q2, q3⟩
      · rw [hq]
        have tf : (f != 0) = true := by simp [hf]
        clear hq hf
        go_wp2_with fail
        refine (lives_any _ (tab_below HT.out b1')).mono ?_
        rintro e w5 ⟨rfl, b5⟩
        go_wp2
        go_ret
        exact ⟨rfl, b1'.trans (b5.mono b1'.size)⟩
      · rw [hq]
        clear hq
        by_cases k1 : 1000000000000 < absI a
        · go_wp2_with (go_at_call 8; refine (lsize_any _ _ (by omega) (by omega)).mono ?_; rintro e w1 ⟨rfl, rfl⟩)
          refine (lives_any _ (tab_below HT.out b1')).mono ?_
          rintro e w5 ⟨rfl, b5⟩
          go_wp2
          go_ret
          exact ⟨rfl, b1'.trans (b5.mono b1'.size)⟩
        · by_cases k2 : 1000000000 < absI b
          · go_wp2_with (go_at_call 8; refine (lsize_any _ _ (by omega) (by omega)).mono ?_; rintro e w1 ⟨rfl, rfl⟩)
            refine (lives_any _ (tab_below HT.out b1')).mono ?_
            rintro e w5 ⟨rfl, b5⟩
            go_wp2
            go_ret
            exact ⟨rfl, b1'.trans (b5.mono b1'.size)⟩
          · by_cases k3 : 1000000000 < absI q
            · go_wp2_with (go_at_call 8; refine (lsize_any _ _ (by omega) (by omega)).mono ?_; rintro e w1 ⟨rfl, rfl⟩)
              refine (lives_any _ (tab_below HT.out b1')).mono ?_
              rintro e w5 ⟨rfl, b5⟩
              go_wp2
              go_ret
              exact ⟨rfl, b1'.trans (b5.mono b1'.size)⟩
            · obtain ⟨m1, m2⟩ := mul_bd (q := q) (b := b) (by omega) (by omega)
              have m3 : -1000000000000 ≤ a := by unfold absI at k1; split at k1 <;> omega
              have m4 : a ≤ 1000000000000 := by unfold absI at k1; split at k1 <;> omega
              have m5 := absI_nn (a * 1000000 - q * b)
              go_wp2_with (go_at_call 8; refine (lsize_any _ _ (by omega) (by omega)).mono ?_; rintro e w1 ⟨rfl, rfl⟩)
              refine (lives_any _ (tab_below HT.out b1')).mono ?_
              rintro e w5 ⟨rfl, b5⟩
              go_wp2
              go_ret
              exact ⟨rfl, b1'.trans (b5.mono b1'.size)⟩
    · have t : (r != 0) = true := by simp; omega
      have t1 : decide (r < 0) = false := by simp [s1]
      have t2 : decide (b < 0) = false := by simp [s2]
      clear s4
      go_wp2_with (go_at_call 8; refine (lsize_any _ _ (by omega) (by omega)).mono ?_; rintro e w0 ⟨rfl, rfl⟩)
      go_wp2_with fail
      refine (HDi.out _).mono ?_
      rintro e w1 ⟨rfl, b1'⟩
      rcases HV.out with ⟨q, f, hq, hf⟩ | ⟨q, hq, q1, q2, q3⟩
      · rw [hq]
        have tf : (f != 0) = true := by simp [hf]
        clear hq hf
        go_wp2_with fail
        refine (lives_any _ (tab_below HT.out b1')).mono ?_
        rintro e w5 ⟨rfl, b5⟩
        go_wp2
        go_ret
        exact ⟨rfl, b1'.trans (b5.mono b1'.size)⟩
      · rw [hq]
        clear hq
        by_cases k1 : 1000000000000 < absI a
        · go_wp2_with (go_at_call 8; refine (lsize_any _ _ (by omega) (by omega)).mono ?_; rintro e w1 ⟨rfl, rfl⟩)
          refine (lives_any _ (tab_below HT.out b1')).mono ?_
          rintro e w5 ⟨rfl, b5⟩
          go_wp2
          go_ret
          exact ⟨rfl, b1'.trans (b5.mono b1'.size)⟩
        · by_cases k2 : 1000000000 < absI b
          · go_wp2_with (go_at_call 8; refine (lsize_any _ _ (by omega) (by omega)).mono ?_; rintro e w1 ⟨rfl, rfl⟩)
            refine (lives_any _ (tab_below HT.out b1')).mono ?_
            rintro e w5 ⟨rfl, b5⟩
            go_wp2
            go_ret
            exact ⟨rfl, b1'.trans (b5.mono b1'.size)⟩
          · by_cases k3 : 1000000000 < absI q
            · go_wp2_with (go_at_call 8; refine (lsize_any _ _ (by omega) (by omega)).mono ?_; rintro e w1 ⟨rfl, rfl⟩)
              refine (lives_any _ (tab_below HT.out b1')).mono ?_
              rintro e w5 ⟨rfl, b5⟩
              go_wp2
              go_ret
              exact ⟨rfl, b1'.trans (b5.mono b1'.size)⟩
            · obtain ⟨m1, m2⟩ := mul_bd (q := q) (b := b) (by omega) (by omega)
              have m3 : -1000000000000 ≤ a := by unfold absI at k1; split at k1 <;> omega
              have m4 : a ≤ 1000000000000 := by unfold absI at k1; split at k1 <;> omega
              have m5 := absI_nn (a * 1000000 - q * b)
              go_wp2_with (go_at_call 8; refine (lsize_any _ _ (by omega) (by omega)).mono ?_; rintro e w1 ⟨rfl, rfl⟩)
              refine (lives_any _ (tab_below HT.out b1')).mono ?_
              rintro e w5 ⟨rfl, b5⟩
              go_wp2
              go_ret
              exact ⟨rfl, b1'.trans (b5.mono b1'.size)⟩
  · have HMo := hide (fun W : World => mod_any a b W)
    rw [show modR a b = (0, divisR a b) from by simp [modR, h]] at HMo
    have t : (divisR a b != 0) = true := by simp [h]
    clear h
    go_enter Tryd.func5, Tryd.ntmps5
    go_wp2_with (go_at_call 14; refine (HMo.out _).mono ?_; rintro e w0 ⟨rfl, rfl⟩)
    refine (lives_any _ HT.out).mono ?_
    rintro e w2 ⟨rfl, b2⟩
    go_wp2
    go_ret
    exact ⟨rfl, b2⟩
end Go.Proofs.YtjhldifilfkebabDoor
