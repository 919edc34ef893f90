/-
  The answer's Power.
-/
import Derived.Test.YtfopebfejmlhbaaMb2
namespace Go.Proofs.Ytfopebfejmlhbaa
open Go.RowKit

theorem divR_is {a b : Int} (ha : fitsB a = true) (hb : fitsB b = true) (hz : b ≠ 0) : divR a b = if 1000000000000000000 < halfEven (absI a * 1000000) (absI b) then (0, 3) else (put (decide (a < 0) != decide (b < 0)) (halfEven (absI a * 1000000) (absI b)), 0) := by
  have h : divisR a b = 0 := by unfold divisR; rw [ha, hb, if_pos (by rfl), if_neg hz]
  have h0 : 0 < absI b := by unfold absI; split <;> omega
  unfold divR
  rw [if_pos h, quoR_eq _ (Int.mul_nonneg (absI_nn a) (by decide)) h0]
theorem divR_no {a b : Int} (ha : fitsB a = true) (hb : fitsB b = true) (hz : b ≠ 0) (h : (divR a b).2 ≠ 0) : divR a b = (0, 3) := by
  rw [divR_is ha hb hz] at h ⊢
  split at h
  · rename_i c; rw [if_pos c]
  · exact absurd rfl h
theorem divR_fits {a b : Int} (ha : fitsB a = true) (hb : fitsB b = true) (hz : b ≠ 0) (h : (divR a b).2 = 0) : fitsB (divR a b).1 = true := by
  have h0 : 0 < absI b := by unfold absI; split <;> omega
  have hh := halfEven_nn (Int.mul_nonneg (absI_nn a) (by decide : (0 : Int) ≤ 1000000)) h0
  rw [divR_is ha hb hz] at h ⊢
  split at h
  · exact absurd h (by decide)
  · rename_i c
    rw [if_neg c]
    show fitsB (put _ _) = true
    unfold put
    split <;> exact fitsB_of (by omega) (by omega)
theorem divR_zero {a : Int} (ha : fitsB a = true) : divR a 0 = (0, 4) := by
  have h : divisR a 0 = 4 := by unfold divisR; rw [ha]; rfl
  unfold divR
  rw [h]; rfl
theorem times_step {n : Int} {j : Nat} (h : (timesR n j).2 = 0) : timesR n (j + 1) = mulR (timesR n j).1 n := if_pos h

set_option maxHeartbeats 1000000 in
theorem rpower_any (n k : Int) (w : World) :
    Calls Try.prog 29 #[.int .i64 n, .int .i64 k] w fun e w' => e = .returned (.tuple #[.int .i64 (shown2 n k (mpowR n k)).1, .int .i64 (shown2 n k (mpowR n k)).2]) ∧ Below w.heap.size w w' := by
  have HF := hide (fun W : World => rfits_any n W)
  have HG := hide (fun W : World => rfits_any k W)
  cases hf : fitsB n
  · rw [hf] at HF
    rw [two_out1 hf]
    clear hf
    go_enter Try.func29, Try.ntmps29
    go_wp2_with (first | (go_at_call 47; first | (with_reducible refine (HF.out _).mono ?_; rintro e w1 ⟨rfl, rfl⟩) | (with_reducible refine (HG.out _).mono ?_; rintro e w1 ⟨rfl, rfl⟩)) | (go_at_call 51; refine (HS.out _).mono ?_; rintro e w1 ⟨rfl, rfl⟩))
    go_ret2
    exact ⟨rfl, Below.refl _ _⟩
  · rw [hf] at HF
    cases hg : fitsB k
    · rw [hg] at HG
      rw [two_out2 hf hg]
      clear hf hg
      go_enter Try.func29, Try.ntmps29
      go_wp2_with (first | (go_at_call 47; first | (with_reducible refine (HF.out _).mono ?_; rintro e w1 ⟨rfl, rfl⟩) | (with_reducible refine (HG.out _).mono ?_; rintro e w1 ⟨rfl, rfl⟩)) | (go_at_call 51; refine (HS.out _).mono ?_; rintro e w1 ⟨rfl, rfl⟩))
      go_ret2
      exact ⟨rfl, Below.refl _ _⟩
    · rw [hg] at HG
      rw [two_in hf hg]
      obtain ⟨k1, k2⟩ := fitsB_true hg
      have HS := hide (fun W : World => rsize_any k W k1 k2)
      have tb := tm_bd k 1000000 (by decide)
      have hw : IntKind.i64.wrap (k.tmod 1000000) = k.tmod 1000000 := wrapI (by omega) (by omega)
      clear tb
      have hm1 : (1000000 == 0) = false := rfl
      by_cases z : k.tmod 1000000 = 0
      · have z1 : (k.tmod 1000000 == 0) = true := by rw [z]; rfl
        have z2 : (k.tmod 1000000 != 0) = false := by rw [bne, z1]; rfl
        by_cases y : 1000000000 < absI k
        · rw [show mpowR n k = (0, 2) from by unfold mpowR; rw [if_pos (Or.inr (Or.inl y))], show shown (0, 2) = (0, 5) from rfl]
          clear hf hg k1 k2
          generalize absI k = a at *
          go_enter Try.func29, Try.ntmps29
          go_wp2_with (first | (go_at_call 47; first | (with_reducible refine (HF.out _).mono ?_; rintro e w1 ⟨rfl, rfl⟩) | (with_reducible refine (HG.out _).mono ?_; rintro e w1 ⟨rfl, rfl⟩)) | (go_at_call 51; refine (HS.out _).mono ?_; rintro e w1 ⟨rfl, rfl⟩))
          go_ret2
          exact ⟨rfl, Below.refl _ _⟩
        · by_cases x : k = 0
          · subst x
            rw [show absI 0 = 0 from rfl] at HS
            clear hf hg k1 k2 y hw z z1 z2
            by_cases q : n = 0
            · subst q
              rw [show mpowR 0 0 = (0, 2) from rfl, show shown (0, 2) = (0, 5) from rfl]
              go_enter Try.func29, Try.ntmps29
              go_wp2_with (first | (go_at_call 47; first | (with_reducible refine (HF.out _).mono ?_; rintro e w1 ⟨rfl, rfl⟩) | (with_reducible refine (HG.out _).mono ?_; rintro e w1 ⟨rfl, rfl⟩)) | (go_at_call 51; refine (HS.out _).mono ?_; rintro e w1 ⟨rfl, rfl⟩))
              go_ret2
              exact ⟨rfl, Below.refl _ _⟩
            · have q1 : (n == 0) = false := by rw [beq_eq_false_iff_ne]; exact q
              rw [show mpowR n 0 = (1000000, 0) from by unfold mpowR; rw [if_neg (by simp [q, absI]), if_pos (Or.inr (by decide))]; rfl, show shown (1000000, 0) = (1000000, 0) from rfl]
              go_enter Try.func29, Try.ntmps29
              go_wp2_with (first | (go_at_call 47; first | (with_reducible refine (HF.out _).mono ?_; rintro e w1 ⟨rfl, rfl⟩) | (with_reducible refine (HG.out _).mono ?_; rintro e w1 ⟨rfl, rfl⟩)) | (go_at_call 51; refine (HS.out _).mono ?_; rintro e w1 ⟨rfl, rfl⟩))
              go_ret2
              exact ⟨rfl, Below.refl _ _⟩
          · have a0 := absI_nn k
            have a1 : absI k % 1000000 = 0 := by
              have e1 := tm_pos (n := k) (d := 1000000)
              have e2 := tm_neg (n := k) (d := 1000000)
              unfold absI
              split <;> omega
            have a2 : absI k ≠ 0 := by unfold absI; split <;> omega
            obtain ⟨K, hK⟩ : ∃ K : Nat, absI k = (K : Int) * 1000000 := ⟨(absI k / 1000000).toNat, by omega⟩
            have hK0 : 1 ≤ K := by omega
            have hK1 : K ≤ 1000 := by omega
            have HE : Hid (mpowR n k = if (timesR n K).2 ≠ 0 ∨ 0 ≤ k then timesR n K else divR 1000000 (timesR n K).1) := by
              show mpowR n k = _
              unfold mpowR
              rw [if_neg (by rintro (h | h | h); exact h z; exact y h; exact x h.2), show (absI k / 1000000).toNat = K by omega]
            rw [hK] at HS
            have d1 : ((K : Int) * 1000000).tdiv 1000000 = (K : Int) := Int.mul_tdiv_cancel _ (by decide)
            have d2 : (K : Int) * 1000000 / 1000000 = (K : Int) := by omega
            have d3 : IntKind.i64.wrap (K : Int) = (K : Int) := wrapI (by omega) (by omega)
            have q2 : (k == 0) = false := by rw [beq_eq_false_iff_ne]; exact x
            have hy : ¬ 1000000000 < (K : Int) * 1000000 := by omega
            clear y a0 a1 a2 hK hg
            have HB := hide (Below.refl w.heap.size w)
            generalize mpowR n k = G at *
            go_enter Try.func29, Try.ntmps29
            go_wp2_with (first | (go_at_call 47; first | (with_reducible refine (HF.out _).mono ?_; rintro e w1 ⟨rfl, rfl⟩) | (with_reducible refine (HG.out _).mono ?_; rintro e w1 ⟨rfl, rfl⟩)) | (go_at_call 51; refine (HS.out _).mono ?_; rintro e w1 ⟨rfl, rfl⟩))
            go_loopw [6, 7] (fun p i wr => ∃ j : Nat, 1 ≤ j ∧ j ≤ K ∧ i = .int .i64 j ∧ p = .int .i64 (timesR n j).1 ∧ (timesR n j).2 = 0 ∧ Below w1.heap.size w1 wr) (fun _ i _ => K - (intOf i).toNat)
            case atStart => exact ⟨1, Nat.le_refl _, hK0, rfl, by rw [timesR_one hf], by rw [timesR_one hf], HB.out⟩
            case round =>
              obtain ⟨j, hj1, hj, rfl, rfl, hz, hb⟩ := hrel
              have HB := hide hb
              clear hb
              have hp := timesR_fits hf j hz
              by_cases hlt : j < K
              · have HM := hide (fun W : World => rmul_good (timesR n j).1 n W hp hf)
                have hs := times_step hz
                have hno := timesR_no hf (j + 1)
                have hmo := fun h => timesR_mono (n := n) (j := j + 1) h K (by omega)
                rw [hs] at hno hmo
                have HX := hide hs
                clear hs hz hp
                generalize mulR (timesR n j).1 n = y at *
                generalize (timesR n j).1 = p at *
                obtain ⟨y1, y2⟩ := y
                by_cases v : y2 = 0
                · subst v
                  clear hno hmo
                  go_wp2_with (first | (go_at_call 51; refine (HS.out _).mono ?_; rintro e w1 ⟨rfl, rfl⟩) | (go_at_call 59; refine (HM.out _).mono ?_; rintro e w1 ⟨rfl, hb1⟩; have HB1 := hide (up HB.out hb1); clear hb1))
                  go_roundw
                  case rel => exact ⟨j + 1, by omega, by omega, by go_num, by rw [HX.out], by rw [HX.out], HB1.out⟩
                  case measure => simp [intOf]; omega
                · have v1 : (y2 == 0) = false := by rw [beq_eq_false_iff_ne]; exact v
                  have v2 : (y2 != 0) = true := by rw [bne, v1]; rfl
                  have e1 := hno v
                  have e2 := hmo v
                  rw [e1] at e2
                  have HO : Hid (G = (0, 3)) := by
                    show G = _
                    rw [HE.out, e2, if_pos (Or.inl (by decide))]
                  clear hno hmo v e1 e2 HE
                  go_wp2_with (first | (go_at_call 51; refine (HS.out _).mono ?_; rintro e w1 ⟨rfl, rfl⟩) | (go_at_call 59; refine (HM.out _).mono ?_; rintro e w1 ⟨rfl, hb1⟩; have HB1 := hide (up HB.out hb1); clear hb1))
                  go_ret2
                  exact ⟨by rw [HO.out]; rfl, HB1.out⟩
              · have : j = K := by omega
                subst this
                by_cases u : 0 < k
                · have HO : Hid (shown G = ((timesR n j).1, 0)) := by
                    show shown G = _
                    rw [HE.out, if_pos (Or.inr (by omega)), shown_fit hz hp]
                  clear HE hz hp
                  generalize (timesR n j).1 = p at *
                  go_wp2_with (first | (go_at_call 51; refine (HS.out _).mono ?_; rintro e w1 ⟨rfl, rfl⟩))
                  go_ret2
                  exact ⟨by rw [HO.out]; rfl, HB.out⟩
                · have he : G = divR 1000000 (timesR n j).1 := by rw [HE.out, if_neg (by rintro (h | h); exact h hz; omega)]
                  clear HE hz
                  generalize (timesR n j).1 = p at *
                  by_cases p0 : p = 0
                  · subst p0
                    have HO : Hid (shown G = (0, 1)) := by
                      show shown G = _
                      rw [he, divR_zero (by decide)]; rfl
                    clear he
                    go_wp2_with (first | (go_at_call 51; refine (HS.out _).mono ?_; rintro e w1 ⟨rfl, rfl⟩))
                    go_ret2
                    exact ⟨by rw [HO.out]; rfl, HB.out⟩
                  · have p1 : (p == 0) = false := by rw [beq_eq_false_iff_ne]; exact p0
                    have HD := hide (fun W : World => rdiv_good 1000000 p W (by decide) hp p0)
                    have hno := divR_no (a := 1000000) (by decide) hp p0
                    have hfi := divR_fits (a := 1000000) (by decide) hp p0
                    generalize divR 1000000 p = d at *
                    obtain ⟨d1', d2'⟩ := d
                    by_cases v : d2' = 0
                    · subst v
                      have HO : Hid (shown G = (d1', 0)) := by
                        show shown G = _
                        rw [he, shown_fit rfl (hfi rfl)]
                      clear he hno hfi
                      go_wp2_with (first | (go_at_call 51; refine (HS.out _).mono ?_; rintro e w1 ⟨rfl, rfl⟩) | (go_at_call 60; refine (HD.out _).mono ?_; rintro e w1 ⟨rfl, hb1⟩; have HB1 := hide (up HB.out hb1); clear hb1))
                      go_ret2
                      exact ⟨by rw [HO.out]; rfl, HB1.out⟩
                    · have v1 : (d2' == 0) = false := by rw [beq_eq_false_iff_ne]; exact v
                      have v2 : (d2' != 0) = true := by rw [bne, v1]; rfl
                      have HO : Hid (shown G = (0, 5)) := by
                        show shown G = _
                        rw [he, hno v]; rfl
                      clear he hno hfi v
                      go_wp2_with (first | (go_at_call 51; refine (HS.out _).mono ?_; rintro e w1 ⟨rfl, rfl⟩) | (go_at_call 60; refine (HD.out _).mono ?_; rintro e w1 ⟨rfl, hb1⟩; have HB1 := hide (up HB.out hb1); clear hb1))
                      go_ret2
                      exact ⟨by rw [HO.out]; rfl, HB1.out⟩
      · have z1 : (k.tmod 1000000 == 0) = false := by rw [beq_eq_false_iff_ne]; exact z
        have z2 : (k.tmod 1000000 != 0) = true := by rw [bne, z1]; rfl
        rw [show mpowR n k = (0, 2) from by unfold mpowR; rw [if_pos (Or.inl z)], show shown (0, 2) = (0, 5) from rfl]
        clear hf hg k1 k2 z
        go_enter Try.func29, Try.ntmps29
        go_wp2_with (first | (go_at_call 47; first | (with_reducible refine (HF.out _).mono ?_; rintro e w1 ⟨rfl, rfl⟩) | (with_reducible refine (HG.out _).mono ?_; rintro e w1 ⟨rfl, rfl⟩)) | (go_at_call 51; refine (HS.out _).mono ?_; rintro e w1 ⟨rfl, rfl⟩))
        go_ret2
        exact ⟨rfl, Below.refl _ _⟩
end Go.Proofs.Ytfopebfejmlhbaa
