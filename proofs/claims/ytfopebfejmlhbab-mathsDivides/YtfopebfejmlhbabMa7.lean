/-
  The contracts of maths.timesItself, power and Power.
-/
import Derived.Test.YtfopebfejmlhbabMa5
namespace Go.Proofs.Ytfopebfejmlhbab
open Go.RowKit

set_option maxHeartbeats 1000000 in
theorem times_any (n : Int) (j : Nat) (w : World) (hn : fitsB n = true) (hj : j ≤ 1000) :
    Calls Try.prog 35 #[.int .i64 n, .int .i64 j] w fun e w' => e = .returned (.tuple #[.int .i64 (timesR n j).1, .int .i64 (timesR n j).2]) ∧ Below w.heap.size w w' := by
  go_enter Try.func35, Try.ntmps35
  go_wp2
  go_loopw [6, 9] (fun p i wr => ∃ k : Nat, k ≤ j ∧ i = .int .i64 k ∧ p = .int .i64 (timesR n k).1 ∧ (timesR n k).2 = 0 ∧ Below w.heap.size w wr) (fun _ i _ => j - (intOf i).toNat)
  case atStart => exact ⟨0, Nat.zero_le _, rfl, rfl, rfl, Below.refl _ _⟩
  case round =>
    obtain ⟨k, hk, rfl, rfl, hz, hb⟩ := hrel
    have HB := hide hb
    clear hb
    by_cases hlt : k < j
    · have hs : timesR n (k + 1) = mulR (timesR n k).1 n := by show (if (timesR n k).2 = 0 then mulR (timesR n k).1 n else timesR n k) = _; rw [if_pos hz]
      obtain ⟨y, hy⟩ : ∃ y, y = mulR (timesR n k).1 n := ⟨_, rfl⟩
      have HM : Hid (∀ W : World, Calls Try.prog 45 #[.int .i64 (timesR n k).1, .int .i64 n] W fun e w' => e = .returned (.tuple #[.int .i64 y.1, .int .i64 y.2]) ∧ Below W.heap.size W w') := by intro W; rw [hy]; exact mul_full _ _ W
      rw [← hy] at hs
      have hno := timesR_no hn (k + 1)
      have hmo := fun h => timesR_mono (n := n) (j := k + 1) h j (by omega)
      rw [hs] at hno hmo
      have HS := hide hs
      clear hy hz hs
      generalize (timesR n k).1 = p at *
      obtain ⟨y1, y2⟩ := y
      by_cases z : y2 = 0
      · subst z
        clear hno hmo
        go_wp2_with (go_at_call 45; refine (HM.out _).mono ?_; rintro e w1 ⟨rfl, hb1⟩; have HB1 := hide (up HB.out hb1); clear hb1)
        go_roundw
        case rel => exact ⟨k + 1, by omega, by go_num, by rw [HS.out], by rw [HS.out], HB1.out⟩
        case measure => simp [intOf]; omega
      · have z1 : (y2 == 0) = false := by rw [beq_eq_false_iff_ne]; exact z
        have z2 : (y2 != 0) = true := by rw [bne, z1]; rfl
        have HN := hide (hno z)
        have HO := hide (hmo z)
        clear hno hmo z
        go_wp2_with (go_at_call 45; refine (HM.out _).mono ?_; rintro e w1 ⟨rfl, hb1⟩; have HB1 := hide (up HB.out hb1); clear hb1)
        go_ret2
        refine ⟨?_, HB1.out⟩
        rw [HO.out]
        have := HN.out
        simp only [Prod.mk.injEq] at this
        rw [this.1, this.2]; rfl
    · have : k = j := by omega
      subst this
      have HZ := hide hz
      clear hz
      go_wp2
      go_ret2
      exact ⟨by rw [HZ.out]; rfl, HB.out⟩

set_option maxHeartbeats 1000000 in
theorem power_any (n k : Int) (w : World) (hn : fitsB n = true) (hk : fitsB k = true) :
    Calls Try.prog 20 #[.agg #[.int .i64 n, .int .i64 k]] w fun e w' => e = .returned (.tuple #[.int .i64 (mpowR n k).1, .int .i64 (mpowR n k).2]) ∧ Below w.heap.size w w' := by
  obtain ⟨k1, k2⟩ := fitsB_true hk
  have hcn : (w.alloc (.cells #[.int .i64 n, .int .i64 k] 37)).cell? ⟨w.heap.size, 0, none⟩ = some (.int .i64 n) := by simp [go_sem]
  have hck : (w.alloc (.cells #[.int .i64 n, .int .i64 k] 37)).cell? ⟨w.heap.size, 1, none⟩ = some (.int .i64 k) := by simp [go_sem]
  have hl0 : w.heap.size < (w.alloc (.cells #[.int .i64 n, .int .i64 k] 37)).heap.size := by simp
  have HB := hide ((Below.refl w.heap.size w).alloc (Nat.le_refl _) (.cells #[.int .i64 n, .int .i64 k] 37))
  have HZ := hide (fun W : World => msize_any k W (by omega) (by omega))
  have hm1 : (1000000 == 0) = false := rfl
  have tb := tm_bd k 1000000 (by decide)
  have hw : IntKind.i64.wrap (k.tmod 1000000) = k.tmod 1000000 := wrapI (by omega) (by omega)
  clear tb hk
  by_cases z : k.tmod 1000000 = 0
  · have z1 : (k.tmod 1000000 == 0) = true := by rw [z]; rfl
    have z2 : (k.tmod 1000000 != 0) = false := by rw [bne, z1]; rfl
    by_cases y : 1000000000 < absI k
    · have HE : Hid (mpowR n k = (0, 2)) := by show mpowR n k = _; unfold mpowR; rw [if_pos (Or.inr (Or.inl y))]
      go_enter Try.func20, Try.ntmps20
      go_wp2_with fail
      generalize w.alloc (.cells #[.int .i64 n, .int .i64 k] 37) = W0 at *
      go_quiet (fail)
      go_wp2_with (first | (go_at_call 34; refine (HZ.out _).mono ?_; rintro e w1 ⟨rfl, rfl⟩))
      go_ret2
      exact ⟨by rw [HE.out]; rfl, below_drewN HB.out _⟩
    · by_cases x : n = 0 ∧ k = 0
      · obtain ⟨rfl, rfl⟩ := x
        have HE : Hid (mpowR 0 0 = (0, 2)) := rfl
        go_enter Try.func20, Try.ntmps20
        go_wp2_with fail
        generalize w.alloc (.cells #[.int .i64 0, .int .i64 0] 37) = W0 at *
        go_quiet (fail)
        go_wp2_with (first | (go_at_call 34; refine (HZ.out _).mono ?_; rintro e w1 ⟨rfl, rfl⟩))
        go_ret2
        exact ⟨by rw [HE.out]; rfl, below_drewN HB.out _⟩
      · have a0 := absI_nn k
        obtain ⟨j, hj⟩ : ∃ j : Nat, absI k / 1000000 = (j : Int) := ⟨(absI k / 1000000).toNat, by omega⟩
        have hjb : j ≤ 1000 := by omega
        have hjn : (absI k / 1000000).toNat = j := by omega
        have hw2 : (absI k).tdiv 1000000 = (j : Int) := by rw [Int.tdiv_eq_ediv_of_nonneg a0]; exact hj
        have hw3 : IntKind.i64.wrap (j : Int) = (j : Int) := wrapI (by omega) (by omega)
        have HT := hide (fun W : World => times_any n j W hn hjb)
        have HE : Hid (mpowR n k = if (timesR n j).2 ≠ 0 ∨ 0 ≤ k then timesR n j else divR 1000000 (timesR n j).1) := by
          show mpowR n k = _
          unfold mpowR
          rw [if_neg (by rintro (h | h | h); exact h z; exact y h; exact x h), hjn]
        have HD := hide (fun (p : Int) (W : World) => div_full 1000000 p W)
        clear hj hjn hjb hn
        generalize timesR n j = y at *
        obtain ⟨y1, y2⟩ := y
        by_cases v : y2 = 0
        · subst v
          by_cases u : 0 ≤ k
          · have HF : Hid (mpowR n k = (y1, 0)) := HE.out.trans (if_pos (Or.inr u))
            have z5 : k % 1000000 = 0 := by rw [← Int.tmod_eq_emod_of_nonneg u]; exact z
            have z6 : (k % 1000000 == 0) = true := by rw [z5]; rfl
            have z7 : (k % 1000000 != 0) = false := by rw [bne, z6]; rfl
            clear HE z
            by_cases q : n = 0
            · subst q
              have q2 : (k == 0) = false := by rw [beq_eq_false_iff_ne]; exact fun h => x ⟨rfl, h⟩
              clear x
              go_enter Try.func20, Try.ntmps20
              go_wp2_with fail
              generalize w.alloc (.cells #[.int .i64 0, .int .i64 k] 37) = W0 at *
              go_quiet (fail)
              go_wp2_with (first | (go_at_call 34; refine (HZ.out _).mono ?_; rintro e w1 ⟨rfl, rfl⟩) | (go_at_call 35; refine (HT.out _).mono ?_; rintro e w2 ⟨rfl, hb2⟩; have HB2 := hide (up (below_drewN HB.out _) hb2); clear hb2))
              go_ret2
              exact ⟨by rw [HF.out]; rfl, HB2.out⟩
            · have q1 : (n == 0) = false := by rw [beq_eq_false_iff_ne]; exact q
              clear q x
              go_enter Try.func20, Try.ntmps20
              go_wp2_with fail
              generalize w.alloc (.cells #[.int .i64 n, .int .i64 k] 37) = W0 at *
              go_quiet (fail)
              go_wp2_with (first | (go_at_call 34; refine (HZ.out _).mono ?_; rintro e w1 ⟨rfl, rfl⟩) | (go_at_call 35; refine (HT.out _).mono ?_; rintro e w2 ⟨rfl, hb2⟩; have HB2 := hide (up (below_drewN HB.out _) hb2); clear hb2))
              go_ret2
              exact ⟨by rw [HF.out]; rfl, HB2.out⟩
          · have HF : Hid (mpowR n k = divR 1000000 y1) := HE.out.trans (if_neg (by rintro (h | h); exact h rfl; exact u h))
            have HG := hide (fun W : World => HD.out y1 W)
            have q2 : (k == 0) = false := by rw [beq_eq_false_iff_ne]; omega
            generalize divR 1000000 y1 = d at *
            obtain ⟨d1, d2⟩ := d
            clear HE x z HD
            by_cases q : n = 0
            · subst q
              go_enter Try.func20, Try.ntmps20
              go_wp2_with fail
              generalize w.alloc (.cells #[.int .i64 0, .int .i64 k] 37) = W0 at *
              go_quiet (fail)
              go_wp2_with (first | (go_at_call 34; refine (HZ.out _).mono ?_; rintro e w1 ⟨rfl, rfl⟩) | (go_at_call 35; refine (HT.out _).mono ?_; rintro e w2 ⟨rfl, hb2⟩; have HB2 := hide (up (below_drewN HB.out _) hb2); clear hb2) | (go_at_call 36; refine (HG.out _).mono ?_; rintro e w3 ⟨rfl, hb3⟩; have HB3 := hide (up HB2.out hb3); clear hb3))
              go_ret2
              exact ⟨by rw [HF.out]; rfl, HB3.out⟩
            · have q1 : (n == 0) = false := by rw [beq_eq_false_iff_ne]; exact q
              clear q
              go_enter Try.func20, Try.ntmps20
              go_wp2_with fail
              generalize w.alloc (.cells #[.int .i64 n, .int .i64 k] 37) = W0 at *
              go_quiet (fail)
              go_wp2_with (first | (go_at_call 34; refine (HZ.out _).mono ?_; rintro e w1 ⟨rfl, rfl⟩) | (go_at_call 35; refine (HT.out _).mono ?_; rintro e w2 ⟨rfl, hb2⟩; have HB2 := hide (up (below_drewN HB.out _) hb2); clear hb2) | (go_at_call 36; refine (HG.out _).mono ?_; rintro e w3 ⟨rfl, hb3⟩; have HB3 := hide (up HB2.out hb3); clear hb3))
              go_ret2
              exact ⟨by rw [HF.out]; rfl, HB3.out⟩
        · have v1 : (y2 == 0) = false := by rw [beq_eq_false_iff_ne]; exact v
          have v2 : (y2 != 0) = true := by rw [bne, v1]; rfl
          have HF : Hid (mpowR n k = (y1, y2)) := HE.out.trans (if_pos (Or.inl v))
          clear HE v z
          by_cases q : n = 0
          · subst q
            have q2 : (k == 0) = false := by rw [beq_eq_false_iff_ne]; exact fun h => x ⟨rfl, h⟩
            clear x
            go_enter Try.func20, Try.ntmps20
            go_wp2_with fail
            generalize w.alloc (.cells #[.int .i64 0, .int .i64 k] 37) = W0 at *
            go_quiet (fail)
            go_wp2_with (first | (go_at_call 34; refine (HZ.out _).mono ?_; rintro e w1 ⟨rfl, rfl⟩) | (go_at_call 35; refine (HT.out _).mono ?_; rintro e w2 ⟨rfl, hb2⟩; have HB2 := hide (up (below_drewN HB.out _) hb2); clear hb2))
            go_ret2
            exact ⟨by rw [HF.out]; rfl, HB2.out⟩
          · have q1 : (n == 0) = false := by rw [beq_eq_false_iff_ne]; exact q
            clear q x
            go_enter Try.func20, Try.ntmps20
            go_wp2_with fail
            generalize w.alloc (.cells #[.int .i64 n, .int .i64 k] 37) = W0 at *
            go_quiet (fail)
            go_wp2_with (first | (go_at_call 34; refine (HZ.out _).mono ?_; rintro e w1 ⟨rfl, rfl⟩) | (go_at_call 35; refine (HT.out _).mono ?_; rintro e w2 ⟨rfl, hb2⟩; have HB2 := hide (up (below_drewN HB.out _) hb2); clear hb2))
            go_ret2
            exact ⟨by rw [HF.out]; rfl, HB2.out⟩
  · have z1 : (k.tmod 1000000 == 0) = false := by rw [beq_eq_false_iff_ne]; exact z
    have z2 : (k.tmod 1000000 != 0) = true := by rw [bne, z1]; rfl
    have HE : Hid (mpowR n k = (0, 2)) := by show mpowR n k = _; unfold mpowR; rw [if_pos (Or.inl z)]
    clear z
    go_enter Try.func20, Try.ntmps20
    go_wp2_with fail
    generalize w.alloc (.cells #[.int .i64 n, .int .i64 k] 37) = W0 at *
    go_quiet (fail)
    go_wp2_with fail
    go_ret2
    exact ⟨by rw [HE.out]; rfl, below_drewN HB.out _⟩
end Go.Proofs.Ytfopebfejmlhbab
