/-
  Plain facts: what is rounded is near.
-/
import Derived.Test.YtfopebfejmlhbaaMb2
namespace Go.Proofs.Ytfopebfejmlhbaa
open Go.RowKit

theorem whole_parts (n T : Int) : n - n.tmod T = T * n.tdiv T := by rw [Int.tmod_def]; omega
theorem times_out {x T k : Int} (h : x = T * k) : x.tmod T = 0 ∧ x % T = 0 := by
  subst h
  exact ⟨Int.mul_tmod_right _ _, Int.mul_emod_right _ _⟩
/-- d: towards 0, u: away from it, and what both promise. -/
structure NearTo (n T x : Int) : Prop where
  t1 : x.tmod T = 0
  t2 : x % T = 0
  b1 : -2000000000000000000 ≤ x
  b2 : x ≤ 2000000000000000000
  off : ¬ T ≤ absI (n - x)
  off' : ¬ T ≤ absI (x - n)
theorem near_in {n T : Int} (h : 0 < T) (n1 : -1000000000000000000 ≤ n) (n2 : n ≤ 1000000000000000000) : NearTo n T (inR n T) ∧ ¬ absI n < absI (inR n T) := by
  have a := tm_bd n T h
  have b := tm_sg n T
  have c := tm_le n T
  have e := times_out (whole_parts n T)
  have f : inR n T = n - n.tmod T := rfl
  rw [← f] at e
  refine ⟨⟨e.1, e.2, by omega, by omega, ?_, ?_⟩, ?_⟩ <;> (unfold absI; repeat' split) <;> omega
theorem near_out {n T : Int} (h : 0 < T) (h2 : T ≤ 1000000000000000000) (n1 : -1000000000000000000 ≤ n) (n2 : n ≤ 1000000000000000000) : NearTo n T (outR n T) ∧ ¬ absI (outR n T) < absI n := by
  have a := tm_bd n T h
  have b := tm_sg n T
  have c := tm_le n T
  have e0 := whole_parts n T
  have e : (outR n T).tmod T = 0 ∧ outR n T % T = 0 := by
    unfold outR
    by_cases z : n.tmod T = 0
    · rw [if_pos z]; exact times_out (k := n.tdiv T) (by omega)
    · rw [if_neg z]
      by_cases y : n < 0
      · rw [if_pos y]; exact times_out (k := n.tdiv T - 1) (by rw [Int.mul_sub, Int.mul_one]; omega)
      · rw [if_neg y]; exact times_out (k := n.tdiv T + 1) (by rw [Int.mul_add, Int.mul_one]; omega)
  have f : outR n T = if n.tmod T = 0 then n else if n < 0 then n - n.tmod T - T else n - n.tmod T + T := rfl
  refine ⟨⟨e.1, e.2, ?_, ?_, ?_, ?_⟩, ?_⟩
  all_goals rw [f]
  all_goals try unfold absI
  all_goals repeat' split
  all_goals omega
theorem in_self {n T : Int} (h : inR n T = n) : outR n T = n := by
  unfold inR at h
  unfold outR
  rw [if_pos (by omega)]

/-- A multiple of s, on the one side of n. -/
structure MultOf (n s x : Int) : Prop where
  t1 : x.tmod s = 0
  t2 : x % s = 0
  b1 : -2000000000000000000 ≤ x
  b2 : x ≤ 2000000000000000000
  s0 : ¬ s = 0
  s1 : -1000000000000000000 ≤ s
  s2 : s ≤ 1000000000000000000
  n1 : -1000000000000000000 ≤ n
  n2 : n ≤ 1000000000000000000
theorem abs_or (s : Int) : absI s = s ∨ absI s = -s := by unfold absI; split <;> omega
theorem mult_of {n s x k : Int} (hf : fitsB n = true) (hs : fitsB s = true) (h0 : s ≠ 0) (e : x = absI s * k) (b1 : -2000000000000000000 ≤ x) (b2 : x ≤ 2000000000000000000) : MultOf n s x := by
  have : ∃ j, x = s * j := by
    rcases abs_or s with h | h
    · exact ⟨k, by rw [e, h]⟩
    · exact ⟨-k, by rw [e, h, Int.neg_mul, Int.mul_neg]⟩
  obtain ⟨j, hj⟩ := this
  obtain ⟨t1, t2⟩ := times_out hj
  exact ⟨t1, t2, b1, b2, h0, (fitsB_true hs).1, (fitsB_true hs).2, (fitsB_true hf).1, (fitsB_true hf).2⟩
theorem steps_told {F : Int → Int → Int} {n s : Int} (hn : n ≠ 0) (h : (shown2 n s (stepsR F n s)).2 = 0) :
    fitsB n = true ∧ fitsB s = true ∧ s ≠ 0 ∧ (0 < n → 0 < s) ∧ shown2 n s (stepsR F n s) = (F n (absI s), 0) := by
  cases hf : fitsB n
  · rw [two_out1 hf] at h; cases h
  · cases hg : fitsB s
    · rw [two_out2 hf hg] at h; cases h
    · rw [two_in hf hg] at h ⊢
      by_cases y : s = 0
      · rw [show stepsR F n s = (0, 4) from (if_neg hn).trans (if_pos y)] at h; cases h
      · by_cases x : 0 < n ∧ s < 0
        · rw [show stepsR F n s = (0, 2) from (if_neg hn).trans ((if_neg y).trans (if_pos x))] at h; cases h
        · rw [steps_go hn y x] at h ⊢
          refine ⟨rfl, rfl, y, fun h1 => by have := fun h2 => x ⟨h1, h2⟩; omega, ?_⟩
          cases hx : fitsB (F n (absI s))
          · rw [shown_over rfl hx] at h; cases h
          · exact shown_fit rfl hx
theorem floor_near {n s : Int} (hn : n ≠ 0) (h : (shown2 n s (stepsR dwnR n s)).2 = 0) :
    ∃ f, shown2 n s (stepsR dwnR n s) = (f, 0) ∧ MultOf n s f ∧ ¬ n < f ∧ ¬ absI s ≤ n - f := by
  obtain ⟨hf, hs, h0, hp, e⟩ := steps_told hn h
  refine ⟨_, e, ?_⟩
  have ha : 0 < absI s := by unfold absI; split <;> omega
  have hb := absI_le (fitsB_true hs).1 (fitsB_true hs).2
  obtain ⟨n1, n2⟩ := fitsB_true hf
  have a := tm_bd n (absI s) ha
  have b := tm_sg n (absI s)
  have w := whole_parts n (absI s)
  by_cases c : 0 < n
  · have d := dwn_pos (a := absI s) c
    rw [← tm_pos (by omega)] at d
    exact ⟨mult_of hf hs h0 (k := n.tdiv (absI s)) (by omega) (by omega) (by omega), by omega, by omega⟩
  · have d := dwn_neg (n := n) (a := absI s) (by omega)
    by_cases z : n.tmod (absI s) < 0
    · rw [if_pos z] at d
      exact ⟨mult_of hf hs h0 (k := n.tdiv (absI s) - 1) (by rw [Int.mul_sub, Int.mul_one]; omega) (by omega) (by omega), by omega, by omega⟩
    · rw [if_neg z] at d
      exact ⟨mult_of hf hs h0 (k := n.tdiv (absI s)) (by omega) (by omega) (by omega), by omega, by omega⟩
theorem ceil_near {n s : Int} (hn : n ≠ 0) (h : (shown2 n s (stepsR upwR n s)).2 = 0) :
    ∃ f, shown2 n s (stepsR upwR n s) = (f, 0) ∧ MultOf n s f ∧ n ≤ f ∧ f - n < absI s := by
  obtain ⟨hf, hs, h0, hp, e⟩ := steps_told hn h
  refine ⟨_, e, ?_⟩
  have ha : 0 < absI s := by unfold absI; split <;> omega
  have hb := absI_le (fitsB_true hs).1 (fitsB_true hs).2
  obtain ⟨n1, n2⟩ := fitsB_true hf
  have a := tm_bd n (absI s) ha
  have b := tm_sg n (absI s)
  have w := whole_parts n (absI s)
  by_cases c : 0 < n
  · have d := upw_pos (a := absI s) c ha
    rw [← tm_pos (by omega)] at d
    by_cases z : 0 < n.tmod (absI s)
    · rw [if_pos z] at d
      exact ⟨mult_of hf hs h0 (k := n.tdiv (absI s) + 1) (by rw [Int.mul_add, Int.mul_one]; omega) (by omega) (by omega), by omega, by omega⟩
    · rw [if_neg z] at d
      exact ⟨mult_of hf hs h0 (k := n.tdiv (absI s)) (by omega) (by omega) (by omega), by omega, by omega⟩
  · have d := upw_neg (n := n) (a := absI s) (by omega)
    exact ⟨mult_of hf hs h0 (k := n.tdiv (absI s)) (by omega) (by omega) (by omega), by omega, by omega⟩
/-- What Floor and Ceiling tell. -/
inductive Tail (n s : Int) (F C : Int × Int) : Prop where
  | none (h1 : F.2 ≠ 0) (h2 : C.2 ≠ 0)
  | zero (h0 : n = 0) (h1 : F = (0, 0)) (h2 : C = (0, 0))
  | low (f : Int) (h0 : n ≠ 0) (h1 : F = (f, 0)) (h2 : C.2 ≠ 0) (h : MultOf n s f) (h3 : ¬ n < f) (h4 : ¬ absI s ≤ n - f)
  | high (c : Int) (h0 : n ≠ 0) (h1 : F.2 ≠ 0) (h2 : C = (c, 0)) (h : MultOf n s c) (h3 : n ≤ c) (h4 : c - n < absI s)
  | both (f c : Int) (h0 : n ≠ 0) (h1 : F = (f, 0)) (h2 : C = (c, 0)) (h : MultOf n s f) (h' : MultOf n s c) (h3 : ¬ n < f) (h4 : ¬ absI s ≤ n - f) (h5 : n ≤ c) (h6 : c - n < absI s)
theorem tail_any (n s : Int) : Tail n s (shown2 n s (stepsR dwnR n s)) (shown2 n s (stepsR upwR n s)) := by
  by_cases hn : n = 0
  · subst hn
    cases hs : fitsB s
    · exact .none (by rw [two_out2 (by decide) hs]; decide) (by rw [two_out2 (by decide) hs]; decide)
    · exact .zero rfl (by rw [two_in (by decide) hs]; rfl) (by rw [two_in (by decide) hs]; rfl)
  · by_cases h1 : (shown2 n s (stepsR dwnR n s)).2 = 0
    · obtain ⟨f, e, a, b, c⟩ := floor_near hn h1
      by_cases h2 : (shown2 n s (stepsR upwR n s)).2 = 0
      · obtain ⟨g, e', a', b', c'⟩ := ceil_near hn h2
        exact .both f g hn e e' a a' b c b' c'
      · exact .low f hn e h2 a b c
    · by_cases h2 : (shown2 n s (stepsR upwR n s)).2 = 0
      · obtain ⟨g, e', a', b', c'⟩ := ceil_near hn h2
        exact .high g hn h1 e' a' b' c'
      · exact .none h1 h2
end Go.Proofs.Ytfopebfejmlhbaa
