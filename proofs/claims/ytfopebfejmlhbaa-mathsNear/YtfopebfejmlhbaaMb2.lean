/-
  The answer's Floor, Ceiling, Quotient.
-/
import Derived.Test.YtfopebfejmlhbaaMb1
import Derived.Test.YtfopebfejmlhbaaMaM
namespace Go.Proofs.Ytfopebfejmlhbaa
open Go.RowKit

theorem two_out1 {n m : Int} {x : Int × Int} (h : fitsB n = false) : shown2 n m x = (0, 5) := if_neg (by rw [h]; decide)
theorem two_out2 {n m : Int} {x : Int × Int} (h : fitsB n = true) (h2 : fitsB m = false) : shown2 n m x = (0, 5) := (if_pos h).trans (if_neg (by rw [h2]; decide))
theorem two_in {n m : Int} {x : Int × Int} (h : fitsB n = true) (h2 : fitsB m = true) : shown2 n m x = shown x := (if_pos h).trans (if_pos h2)
theorem steps_go {F : Int → Int → Int} {n s : Int} (h1 : ¬ n = 0) (h2 : ¬ s = 0) (h3 : ¬ (0 < n ∧ s < 0)) : stepsR F n s = (F n (absI s), 0) := (if_neg h1).trans ((if_neg h2).trans (if_neg h3))
theorem dwn_pos {n a : Int} (h : 0 < n) : dwnR n a = n - n % a := by
  unfold dwnR upwR
  rw [if_pos (by omega)]
  unfold inR
  rw [Int.neg_tmod, tm_pos (by omega)]; omega
theorem dwn_neg {n a : Int} (h : n ≤ 0) : dwnR n a = if n.tmod a < 0 then n - (n.tmod a + a) else n - n.tmod a := by
  unfold dwnR upwR
  rw [if_neg (by omega), outR_mirror, Int.neg_neg]
  have hs := (tm_sg n a).2 h
  unfold outR
  by_cases c : n.tmod a = 0
  · rw [if_pos c, if_neg (by omega)]; omega
  · rw [if_neg c, if_pos (show n.tmod a < 0 by omega)]
    by_cases z : n < 0
    · rw [if_pos z]; omega
    · exact absurd (by have : n = 0 := by omega
                       subst this; simp) c
theorem upw_pos {n a : Int} (h : 0 < n) (ha : 0 < a) : upwR n a = if 0 < n % a then n - (n % a - a) else n - n % a := by
  unfold upwR
  rw [if_neg (by omega), outR_pos (by omega)]
  have := Int.emod_nonneg n (show a ≠ 0 by omega)
  by_cases c : n % a = 0
  · rw [if_pos c, if_neg (by omega)]; omega
  · rw [if_neg c, if_pos (by omega)]; omega
theorem upw_neg {n a : Int} (h : n < 0) : upwR n a = n - n.tmod a := if_pos h

set_option maxHeartbeats 1000000 in
theorem rfloor_any (n s : Int) (w : World) :
    Calls Try.prog 25 #[.int .i64 n, .int .i64 s] w fun e w' => e = .returned (.tuple #[.int .i64 (shown2 n s (stepsR dwnR n s)).1, .int .i64 (shown2 n s (stepsR dwnR n s)).2]) ∧ w' = w := by
  have HF := hide (fun W : World => rfits_any n W)
  have HG := hide (fun W : World => rfits_any s W)
  cases hf : fitsB n
  · rw [hf] at HF
    rw [two_out1 hf]
    clear hf
    go_enter Try.func25, Try.ntmps25
    go_wp2_with (first | (go_at_call 47; first | (with_reducible refine (HF.out _).mono ?_; rintro e w1 ⟨rfl, rfl⟩) | (with_reducible refine (HG.out _).mono ?_; rintro e w1 ⟨rfl, rfl⟩)))
    go_ret2
    exact ⟨rfl, rfl⟩
  · rw [hf] at HF
    cases hg : fitsB s
    · rw [hg] at HG
      rw [two_out2 hf hg]
      clear hf hg
      go_enter Try.func25, Try.ntmps25
      go_wp2_with (first | (go_at_call 47; first | (with_reducible refine (HF.out _).mono ?_; rintro e w1 ⟨rfl, rfl⟩) | (with_reducible refine (HG.out _).mono ?_; rintro e w1 ⟨rfl, rfl⟩)))
      go_ret2
      exact ⟨rfl, rfl⟩
    · rw [hg] at HG
      rw [two_in hf hg]
      obtain ⟨n1, n2⟩ := fitsB_true hf
      obtain ⟨s1, s2⟩ := fitsB_true hg
      by_cases z : n = 0
      · rw [show stepsR dwnR n s = (0, 0) from if_pos z, show shown (0, 0) = (0, 0) from rfl]
        clear hf hg n1 n2 s1 s2
        subst z
        go_enter Try.func25, Try.ntmps25
        go_wp2_with (first | (go_at_call 47; first | (with_reducible refine (HF.out _).mono ?_; rintro e w1 ⟨rfl, rfl⟩) | (with_reducible refine (HG.out _).mono ?_; rintro e w1 ⟨rfl, rfl⟩)))
        go_ret2
        exact ⟨rfl, rfl⟩
      · by_cases y : s = 0
        · rw [show stepsR dwnR n s = (0, 4) from (if_neg z).trans (if_pos y), show shown (0, 4) = (0, 1) from rfl]
          clear hf hg n1 n2 s1 s2
          subst y
          go_enter Try.func25, Try.ntmps25
          go_wp2_with (first | (go_at_call 47; first | (with_reducible refine (HF.out _).mono ?_; rintro e w1 ⟨rfl, rfl⟩) | (with_reducible refine (HG.out _).mono ?_; rintro e w1 ⟨rfl, rfl⟩)))
          go_ret2
          exact ⟨rfl, rfl⟩
        · by_cases x : 0 < n ∧ s < 0
          · rw [show stepsR dwnR n s = (0, 2) from (if_neg z).trans ((if_neg y).trans (if_pos x)), show shown (0, 2) = (0, 5) from rfl]
            obtain ⟨x1, x2⟩ := x
            clear hf hg n1 n2 s1 s2
            go_enter Try.func25, Try.ntmps25
            go_wp2_with (first | (go_at_call 47; first | (with_reducible refine (HF.out _).mono ?_; rintro e w1 ⟨rfl, rfl⟩) | (with_reducible refine (HG.out _).mono ?_; rintro e w1 ⟨rfl, rfl⟩)))
            go_ret2
            exact ⟨rfl, rfl⟩
          · rw [steps_go z y x]
            have HS := hide (fun W : World => rsize_any s W s1 s2)
            have ha : 0 < absI s := by unfold absI; split <;> omega
            have hb : absI s ≤ 1000000000000000000 := by have := absI_le s1 s2; omega
            have hx : 0 < n → ¬ s < 0 := fun h h2 => x ⟨h, h2⟩
            clear x
            generalize absI s = a at *
            have az : (a == 0) = false := by rw [beq_eq_false_iff_ne]; omega
            have az' : ¬ a = 0 := by omega
            have at1 := tm_bd n a ha
            have at2 := tm_sg n a
            have at3 := tm_le n a
            by_cases h : 0 < n
            · have h0 : 0 ≤ n := by omega
              have hns := hx h
              rw [tm_pos h0] at at1 at2 at3
              clear hx
              rw [dwn_pos h]
              have c : ¬ n % a < 0 := by omega
              have HT := hide (fun W : World => rtold_any (n - n % a) W)
              have v0 : IntKind.i64.wrap (n % a) = n % a := wrapI (by omega) (by omega)
              have v1 : IntKind.i64.wrap (n - n % a) = n - n % a := wrapI (by omega) (by omega)
              generalize shown (n - n % a, 0) = x at *
              obtain ⟨x1, x2⟩ := x
              clear hf hg n1 n2 s1 s2 at1 at2 at3 ha hb
              go_enter Try.func25, Try.ntmps25
              go_wp2_with (first | (go_at_call 47; first | (with_reducible refine (HF.out _).mono ?_; rintro e w1 ⟨rfl, rfl⟩) | (with_reducible refine (HG.out _).mono ?_; rintro e w1 ⟨rfl, rfl⟩)) | (go_at_call 51; refine (HS.out _).mono ?_; rintro e w1 ⟨rfl, rfl⟩) | (go_at_call 44; refine (HT.out _).mono ?_; rintro e w1 ⟨rfl, rfl⟩))
              go_ret2
              exact ⟨rfl, rfl⟩
            · have hn : n < 0 := by omega
              clear hx
              by_cases c : n.tmod a < 0
              · rw [(dwn_neg (n := n) (a := a) (by omega)).trans (if_pos c)]
                have HT := hide (fun W : World => rtold_any (n - (n.tmod a + a)) W)
                have v0 : IntKind.i64.wrap (n.tmod a) = n.tmod a := wrapI (by omega) (by omega)
                have v1 : IntKind.i64.wrap (n.tmod a + a) = n.tmod a + a := wrapI (by omega) (by omega)
                have v2 : IntKind.i64.wrap (n - (n.tmod a + a)) = n - (n.tmod a + a) := wrapI (by omega) (by omega)
                generalize shown (n - (n.tmod a + a), 0) = x at *
                obtain ⟨x1, x2⟩ := x
                clear hf hg n1 n2 s1 s2 at1 at2 at3 ha hb
                go_enter Try.func25, Try.ntmps25
                go_wp2_with (first | (go_at_call 47; first | (with_reducible refine (HF.out _).mono ?_; rintro e w1 ⟨rfl, rfl⟩) | (with_reducible refine (HG.out _).mono ?_; rintro e w1 ⟨rfl, rfl⟩)) | (go_at_call 51; refine (HS.out _).mono ?_; rintro e w1 ⟨rfl, rfl⟩) | (go_at_call 44; refine (HT.out _).mono ?_; rintro e w1 ⟨rfl, rfl⟩))
                go_ret2
                exact ⟨rfl, rfl⟩
              · rw [(dwn_neg (n := n) (a := a) (by omega)).trans (if_neg c)]
                have HT := hide (fun W : World => rtold_any (n - n.tmod a) W)
                have v0 : IntKind.i64.wrap (n.tmod a) = n.tmod a := wrapI (by omega) (by omega)
                have v1 : IntKind.i64.wrap (n - n.tmod a) = n - n.tmod a := wrapI (by omega) (by omega)
                generalize shown (n - n.tmod a, 0) = x at *
                obtain ⟨x1, x2⟩ := x
                clear hf hg n1 n2 s1 s2 at1 at2 at3 ha hb
                go_enter Try.func25, Try.ntmps25
                go_wp2_with (first | (go_at_call 47; first | (with_reducible refine (HF.out _).mono ?_; rintro e w1 ⟨rfl, rfl⟩) | (with_reducible refine (HG.out _).mono ?_; rintro e w1 ⟨rfl, rfl⟩)) | (go_at_call 51; refine (HS.out _).mono ?_; rintro e w1 ⟨rfl, rfl⟩) | (go_at_call 44; refine (HT.out _).mono ?_; rintro e w1 ⟨rfl, rfl⟩))
                go_ret2
                exact ⟨rfl, rfl⟩

set_option maxHeartbeats 1000000 in
theorem rceiling_any (n s : Int) (w : World) :
    Calls Try.prog 23 #[.int .i64 n, .int .i64 s] w fun e w' => e = .returned (.tuple #[.int .i64 (shown2 n s (stepsR upwR n s)).1, .int .i64 (shown2 n s (stepsR upwR n s)).2]) ∧ w' = w := by
  have HF := hide (fun W : World => rfits_any n W)
  have HG := hide (fun W : World => rfits_any s W)
  cases hf : fitsB n
  · rw [hf] at HF
    rw [two_out1 hf]
    clear hf
    go_enter Try.func23, Try.ntmps23
    go_wp2_with (first | (go_at_call 47; first | (with_reducible refine (HF.out _).mono ?_; rintro e w1 ⟨rfl, rfl⟩) | (with_reducible refine (HG.out _).mono ?_; rintro e w1 ⟨rfl, rfl⟩)))
    go_ret2
    exact ⟨rfl, rfl⟩
  · rw [hf] at HF
    cases hg : fitsB s
    · rw [hg] at HG
      rw [two_out2 hf hg]
      clear hf hg
      go_enter Try.func23, Try.ntmps23
      go_wp2_with (first | (go_at_call 47; first | (with_reducible refine (HF.out _).mono ?_; rintro e w1 ⟨rfl, rfl⟩) | (with_reducible refine (HG.out _).mono ?_; rintro e w1 ⟨rfl, rfl⟩)))
      go_ret2
      exact ⟨rfl, rfl⟩
    · rw [hg] at HG
      rw [two_in hf hg]
      obtain ⟨n1, n2⟩ := fitsB_true hf
      obtain ⟨s1, s2⟩ := fitsB_true hg
      by_cases z : n = 0
      · rw [show stepsR upwR n s = (0, 0) from if_pos z, show shown (0, 0) = (0, 0) from rfl]
        clear hf hg n1 n2 s1 s2
        subst z
        go_enter Try.func23, Try.ntmps23
        go_wp2_with (first | (go_at_call 47; first | (with_reducible refine (HF.out _).mono ?_; rintro e w1 ⟨rfl, rfl⟩) | (with_reducible refine (HG.out _).mono ?_; rintro e w1 ⟨rfl, rfl⟩)))
        go_ret2
        exact ⟨rfl, rfl⟩
      · by_cases y : s = 0
        · rw [show stepsR upwR n s = (0, 4) from (if_neg z).trans (if_pos y), show shown (0, 4) = (0, 1) from rfl]
          clear hf hg n1 n2 s1 s2
          subst y
          go_enter Try.func23, Try.ntmps23
          go_wp2_with (first | (go_at_call 47; first | (with_reducible refine (HF.out _).mono ?_; rintro e w1 ⟨rfl, rfl⟩) | (with_reducible refine (HG.out _).mono ?_; rintro e w1 ⟨rfl, rfl⟩)))
          go_ret2
          exact ⟨rfl, rfl⟩
        · by_cases x : 0 < n ∧ s < 0
          · rw [show stepsR upwR n s = (0, 2) from (if_neg z).trans ((if_neg y).trans (if_pos x)), show shown (0, 2) = (0, 5) from rfl]
            obtain ⟨x1, x2⟩ := x
            clear hf hg n1 n2 s1 s2
            go_enter Try.func23, Try.ntmps23
            go_wp2_with (first | (go_at_call 47; first | (with_reducible refine (HF.out _).mono ?_; rintro e w1 ⟨rfl, rfl⟩) | (with_reducible refine (HG.out _).mono ?_; rintro e w1 ⟨rfl, rfl⟩)))
            go_ret2
            exact ⟨rfl, rfl⟩
          · rw [steps_go z y x]
            have HS := hide (fun W : World => rsize_any s W s1 s2)
            have ha : 0 < absI s := by unfold absI; split <;> omega
            have hb : absI s ≤ 1000000000000000000 := by have := absI_le s1 s2; omega
            have hx : 0 < n → ¬ s < 0 := fun h h2 => x ⟨h, h2⟩
            clear x
            generalize absI s = a at *
            have az : (a == 0) = false := by rw [beq_eq_false_iff_ne]; omega
            have az' : ¬ a = 0 := by omega
            have at1 := tm_bd n a ha
            have at2 := tm_sg n a
            have at3 := tm_le n a
            by_cases h : 0 < n
            · have h0 : 0 ≤ n := by omega
              have hns := hx h
              rw [tm_pos h0] at at1 at2 at3
              clear hx
              by_cases c : 0 < n % a
              · rw [(upw_pos h ha).trans (if_pos c)]
                have HT := hide (fun W : World => rtold_any (n - (n % a - a)) W)
                have v0 : IntKind.i64.wrap (n % a) = n % a := wrapI (by omega) (by omega)
                have v1 : IntKind.i64.wrap (n % a - a) = n % a - a := wrapI (by omega) (by omega)
                have v2 : IntKind.i64.wrap (n - (n % a - a)) = n - (n % a - a) := wrapI (by omega) (by omega)
                generalize shown (n - (n % a - a), 0) = x at *
                obtain ⟨x1, x2⟩ := x
                clear hf hg n1 n2 s1 s2 at1 at2 at3 ha hb
                go_enter Try.func23, Try.ntmps23
                go_wp2_with (first | (go_at_call 47; first | (with_reducible refine (HF.out _).mono ?_; rintro e w1 ⟨rfl, rfl⟩) | (with_reducible refine (HG.out _).mono ?_; rintro e w1 ⟨rfl, rfl⟩)) | (go_at_call 51; refine (HS.out _).mono ?_; rintro e w1 ⟨rfl, rfl⟩) | (go_at_call 44; refine (HT.out _).mono ?_; rintro e w1 ⟨rfl, rfl⟩))
                go_ret2
                exact ⟨rfl, rfl⟩
              · rw [(upw_pos h ha).trans (if_neg c)]
                have HT := hide (fun W : World => rtold_any (n - n % a) W)
                have v0 : IntKind.i64.wrap (n % a) = n % a := wrapI (by omega) (by omega)
                have v1 : IntKind.i64.wrap (n - n % a) = n - n % a := wrapI (by omega) (by omega)
                generalize shown (n - n % a, 0) = x at *
                obtain ⟨x1, x2⟩ := x
                clear hf hg n1 n2 s1 s2 at1 at2 at3 ha hb
                go_enter Try.func23, Try.ntmps23
                go_wp2_with (first | (go_at_call 47; first | (with_reducible refine (HF.out _).mono ?_; rintro e w1 ⟨rfl, rfl⟩) | (with_reducible refine (HG.out _).mono ?_; rintro e w1 ⟨rfl, rfl⟩)) | (go_at_call 51; refine (HS.out _).mono ?_; rintro e w1 ⟨rfl, rfl⟩) | (go_at_call 44; refine (HT.out _).mono ?_; rintro e w1 ⟨rfl, rfl⟩))
                go_ret2
                exact ⟨rfl, rfl⟩
            · have hn : n < 0 := by omega
              clear hx
              rw [upw_neg hn]
              have c : ¬ 0 < n.tmod a := by omega
              have HT := hide (fun W : World => rtold_any (n - n.tmod a) W)
              have v0 : IntKind.i64.wrap (n.tmod a) = n.tmod a := wrapI (by omega) (by omega)
              have v1 : IntKind.i64.wrap (n - n.tmod a) = n - n.tmod a := wrapI (by omega) (by omega)
              generalize shown (n - n.tmod a, 0) = x at *
              obtain ⟨x1, x2⟩ := x
              clear hf hg n1 n2 s1 s2 at1 at2 at3 ha hb
              go_enter Try.func23, Try.ntmps23
              go_wp2_with (first | (go_at_call 47; first | (with_reducible refine (HF.out _).mono ?_; rintro e w1 ⟨rfl, rfl⟩) | (with_reducible refine (HG.out _).mono ?_; rintro e w1 ⟨rfl, rfl⟩)) | (go_at_call 51; refine (HS.out _).mono ?_; rintro e w1 ⟨rfl, rfl⟩) | (go_at_call 44; refine (HT.out _).mono ?_; rintro e w1 ⟨rfl, rfl⟩))
              go_ret2
              exact ⟨rfl, rfl⟩

set_option maxHeartbeats 1000000 in
theorem rquotient_any (n s : Int) (w : World) :
    Calls Try.prog 27 #[.int .i64 n, .int .i64 s] w fun e w' => e = .returned (.tuple #[.int .i64 (shown2 n s (mquotR n s)).1, .int .i64 (shown2 n s (mquotR n s)).2]) ∧ w' = w := by
  have HF := hide (fun W : World => rfits_any n W)
  have HG := hide (fun W : World => rfits_any s W)
  cases hf : fitsB n
  · rw [hf] at HF
    rw [two_out1 hf]
    clear hf
    go_enter Try.func27, Try.ntmps27
    go_wp2_with (first | (go_at_call 47; first | (with_reducible refine (HF.out _).mono ?_; rintro e w1 ⟨rfl, rfl⟩) | (with_reducible refine (HG.out _).mono ?_; rintro e w1 ⟨rfl, rfl⟩)))
    go_ret2
    exact ⟨rfl, rfl⟩
  · rw [hf] at HF
    cases hg : fitsB s
    · rw [hg] at HG
      rw [two_out2 hf hg]
      clear hf hg
      go_enter Try.func27, Try.ntmps27
      go_wp2_with (first | (go_at_call 47; first | (with_reducible refine (HF.out _).mono ?_; rintro e w1 ⟨rfl, rfl⟩) | (with_reducible refine (HG.out _).mono ?_; rintro e w1 ⟨rfl, rfl⟩)))
      go_ret2
      exact ⟨rfl, rfl⟩
    · rw [hg] at HG
      rw [two_in hf hg]
      obtain ⟨n1, n2⟩ := fitsB_true hf
      by_cases z : s = 0
      · rw [show mquotR n s = (0, 4) from if_pos z, show shown (0, 4) = (0, 1) from rfl]
        clear hf hg n1 n2
        subst z
        go_enter Try.func27, Try.ntmps27
        go_wp2_with (first | (go_at_call 47; first | (with_reducible refine (HF.out _).mono ?_; rintro e w1 ⟨rfl, rfl⟩) | (with_reducible refine (HG.out _).mono ?_; rintro e w1 ⟨rfl, rfl⟩)))
        go_ret2
        exact ⟨rfl, rfl⟩
      · have hq := td_bd n s n1 n2
        have HS := hide (fun W : World => rsize_any (n.tdiv s) W hq.1 hq.2)
        have hab := absI_le hq.1 hq.2
        have hm := mul_whole (q := n.tdiv s) (k := 1000000) (fitsB_of hq.1 hq.2) (by decide) (by decide)
        have hz : (s == 0) = false := by rw [beq_eq_false_iff_ne]; exact z
        have v0 : IntKind.i64.wrap (n.tdiv s) = n.tdiv s := wrapI (by omega) (by omega)
        rw [show mquotR n s = mulR (n.tdiv s) (1000000 * 1000000) from if_neg z, hm]
        have hab2 : absI (n.tdiv s) = if n.tdiv s < 0 then -(n.tdiv s) else n.tdiv s := rfl
        by_cases c : 1000000000000 < absI (n.tdiv s)
        · rw [if_pos (by omega), show shown (0, 3) = (0, 5) from rfl]
          clear hf hg n1 n2 hq hm hab2 hab
          generalize absI (n.tdiv s) = a at *
          go_enter Try.func27, Try.ntmps27
          go_wp2_with (first | (go_at_call 47; first | (with_reducible refine (HF.out _).mono ?_; rintro e w1 ⟨rfl, rfl⟩) | (with_reducible refine (HG.out _).mono ?_; rintro e w1 ⟨rfl, rfl⟩)) | (go_at_call 51; refine (HS.out _).mono ?_; rintro e w1 ⟨rfl, rfl⟩) | (go_at_call 44; refine (HT.out _).mono ?_; rintro e w1 ⟨rfl, rfl⟩))
          go_ret2
          exact ⟨rfl, rfl⟩
        · have hfit : fitsB (n.tdiv s * 1000000) = true := by
            clear HS hm v0
            refine fitsB_of ?_ ?_ <;> (split at hab2 <;> omega)
          rw [if_neg (by omega), shown_fit (x := (n.tdiv s * 1000000, 0)) rfl hfit]
          have hb := fitsB_true hfit
          have v1 : IntKind.i64.wrap (n.tdiv s * 1000000) = n.tdiv s * 1000000 := wrapI (by omega) (by omega)
          clear hf hg n1 n2 hq hm hab2 hab hfit hb
          generalize absI (n.tdiv s) = a at *
          go_enter Try.func27, Try.ntmps27
          go_wp2_with (first | (go_at_call 47; first | (with_reducible refine (HF.out _).mono ?_; rintro e w1 ⟨rfl, rfl⟩) | (with_reducible refine (HG.out _).mono ?_; rintro e w1 ⟨rfl, rfl⟩)) | (go_at_call 51; refine (HS.out _).mono ?_; rintro e w1 ⟨rfl, rfl⟩) | (go_at_call 44; refine (HT.out _).mono ?_; rintro e w1 ⟨rfl, rfl⟩))
          go_ret2
          exact ⟨rfl, rfl⟩
end Go.Proofs.Ytfopebfejmlhbaa
