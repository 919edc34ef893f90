/-
  The walk of MathsMirror.
-/
import Derived.Test.YtfopebfejmlhbabMa13
import Derived.OpenShut
namespace Go.Proofs.Ytfopebfejmlhbab
open Go.RowKit

theorem outR_turn {n d : Int} : outR (-n) d = -(outR n d) := by
  unfold outR
  rw [Int.neg_tmod]
  by_cases z : n = 0
  · subst z; simp
  · by_cases c : n.tmod d = 0
    · rw [if_pos c, if_pos (by omega)]
    · rw [if_neg c, if_neg (by omega)]
      by_cases h : n < 0
      · rw [if_pos h, if_neg (by omega)]; omega
      · rw [if_neg h, if_pos (by omega)]; omega
theorem fitsB_turn (n : Int) : fitsB (-n) = fitsB n := by
  cases h : fitsB n
  · cases h2 : fitsB (-n)
    · rfl
    · obtain ⟨a, b⟩ := fitsB_true h2
      rw [fitsB_of (n := n) (by omega) (by omega)] at h
      exact h
  · obtain ⟨a, b⟩ := fitsB_true h
    exact fitsB_of (by omega) (by omega)
theorem shown_turn (x : Int) : shown (-x, 0) = (-(shown (x, 0)).1, (shown (x, 0)).2) := by
  cases h : fitsB x
  · rw [shown_over (x := (x, 0)) rfl h, shown_over (x := (-x, 0)) rfl (by rw [fitsB_turn]; exact h)]; rfl
  · rw [shown_fit (x := (x, 0)) rfl h, shown_fit (x := (-x, 0)) rfl (by rw [fitsB_turn]; exact h)]
theorem shown_bd (x : Int × Int) : -1000000000000000000 ≤ (shown x).1 ∧ (shown x).1 ≤ 1000000000000000000 := by
  by_cases h : x.2 = 0
  · cases hf : fitsB x.1
    · rw [shown_over h hf]; decide
    · rw [shown_fit h hf]; exact fitsB_true hf
  · rw [shown_no h]; exact ⟨show (-1000000000000000000 : Int) ≤ 0 by decide, show (0 : Int) ≤ 1000000000000000000 by decide⟩
theorem up_turn {n p : Int} (hf : fitsB n = true) : shown1 (-n) (placesR outR (-n) p) = (-(shown1 n (placesR outR n p)).1, (shown1 n (placesR outR n p)).2) := by
  unfold shown1
  rw [fitsB_turn, hf, if_pos rfl, if_pos rfl]
  unfold placesR
  split
  · rfl
  · rw [outR_turn]; exact shown_turn _
theorem even_turn {n : Int} (hf : fitsB n = true) : shown1 (-n) (mevenR (-n)) = (-(shown1 n (mevenR n)).1, (shown1 n (mevenR n)).2) := by
  unfold shown1
  rw [fitsB_turn, hf, if_pos rfl, if_pos rfl]
  show shown (outR (-n) 2000000, 0) = _
  rw [outR_turn]; exact shown_turn _
theorem floor_turn {n s : Int} (hf : fitsB n = true) (hs : fitsB s = true) (hn : n ≠ 0) (h : 0 < s) :
    shown2 (-n) s (stepsR upwR (-n) s) = (-(shown2 n s (stepsR dwnR n s)).1, (shown2 n s (stepsR dwnR n s)).2) := by
  unfold shown2
  rw [fitsB_turn, hf, hs, if_pos rfl, if_pos rfl, if_pos rfl, if_pos rfl]
  rw [show stepsR upwR (-n) s = (upwR (-n) (absI s), 0) from (if_neg (by omega)).trans ((if_neg (by omega)).trans (if_neg (by omega)))]
  rw [show stepsR dwnR n s = (dwnR n (absI s), 0) from (if_neg (by omega)).trans ((if_neg (by omega)).trans (if_neg (by omega)))]
  show _ = (-(shown (-(upwR (-n) (absI s)), 0)).1, (shown (-(upwR (-n) (absI s)), 0)).2)
  rw [shown_turn]
  show _ = (-(-(shown (upwR (-n) (absI s), 0)).1), (shown (upwR (-n) (absI s), 0)).2)
  rw [Int.neg_neg]
theorem one_bd {n : Int} {x : Int × Int} (hf : fitsB n = true) : -1000000000000000000 ≤ (shown1 n x).1 ∧ (shown1 n x).1 ≤ 1000000000000000000 := by
  rw [show shown1 n x = shown x from if_pos hf]; exact shown_bd x
theorem two_bd {n m : Int} {x : Int × Int} (hf : fitsB n = true) (hg : fitsB m = true) : -1000000000000000000 ≤ (shown2 n m x).1 ∧ (shown2 n m x).1 ≤ 1000000000000000000 := by
  rw [show shown2 n m x = shown x from (if_pos hf).trans (if_pos hg)]; exact shown_bd x

set_option maxRecDepth 100000 in
set_option maxHeartbeats 4000000 in
theorem mathsMirror_walk (n p s : Int) (_ : (Lit.int .i64 n).wf = true) (wp : (Lit.int .i64 p).wf = true) (_ : (Lit.int .i64 s).wf = true) (w : World) :
    Calls Try.prog 5 #[.int .i64 n, .int .i64 p, .int .i64 s] w fun e w' => e = .returned (.bool true) ∧ Below w.heap.size w w' := by
  obtain ⟨p1, p2⟩ := bounds_i64 wp
  have HL := hide (fun W : World => lives_any W)
  have HF := hide (fun W : World => fits_any n W)
  have HG := hide (fun W : World => fits_any s W)
  have HB0 := hide (Below.refl w.heap.size w)
  cases hf : fitsB n
  · rw [hf] at HF
    clear hf
    go_enter Try.func5, Try.ntmps5
    go_wp2_with (first
      | (go_at_call 11; first | (with_reducible refine (HF.out _).mono ?_; rintro e wz ⟨rfl, hz⟩; subst wz) | (with_reducible refine (HG.out _).mono ?_; rintro e wz ⟨rfl, hz⟩; subst wz))
      | (go_at_call 6; refine (HL.out _).mono ?_; rintro e v5 ⟨rfl, hb⟩; have HB5 := hide (up HB0.out hb); clear hb))
    go_ret
    exact ⟨rfl, HB5.out⟩
  · rw [hf] at HF
    by_cases hn : n = 0
    · subst hn
      go_enter Try.func5, Try.ntmps5
      go_wp2_with (first
        | (go_at_call 11; first | (with_reducible refine (HF.out _).mono ?_; rintro e wz ⟨rfl, hz⟩; subst wz) | (with_reducible refine (HG.out _).mono ?_; rintro e wz ⟨rfl, hz⟩; subst wz))
        | (go_at_call 6; refine (HL.out _).mono ?_; rintro e v5 ⟨rfl, hb⟩; have HB5 := hide (up HB0.out hb); clear hb))
      go_ret
      exact ⟨rfl, HB5.out⟩
    · have n0 : (n == 0) = false := by rw [beq_eq_false_iff_ne]; exact hn
      by_cases hs : s < 1
      · clear hf
        go_enter Try.func5, Try.ntmps5
        go_wp2_with (first
          | (go_at_call 11; first | (with_reducible refine (HF.out _).mono ?_; rintro e wz ⟨rfl, hz⟩; subst wz) | (with_reducible refine (HG.out _).mono ?_; rintro e wz ⟨rfl, hz⟩; subst wz))
          | (go_at_call 6; refine (HL.out _).mono ?_; rintro e v5 ⟨rfl, hb⟩; have HB5 := hide (up HB0.out hb); clear hb))
        go_ret
        exact ⟨rfl, HB5.out⟩
      · cases hg : fitsB s
        · rw [hg] at HG
          clear hf hg
          go_enter Try.func5, Try.ntmps5
          go_wp2_with (first
            | (go_at_call 11; first | (with_reducible refine (HF.out _).mono ?_; rintro e wz ⟨rfl, hz⟩; subst wz) | (with_reducible refine (HG.out _).mono ?_; rintro e wz ⟨rfl, hz⟩; subst wz))
            | (go_at_call 6; refine (HL.out _).mono ?_; rintro e v5 ⟨rfl, hb⟩; have HB5 := hide (up HB0.out hb); clear hb))
          go_ret
          exact ⟨rfl, HB5.out⟩
        · rw [hg] at HG
          obtain ⟨n1, n2⟩ := fitsB_true hf
          have wn : IntKind.i64.wrap (-n) = -n := wrapI (by omega) (by omega)
          have HA := hide (fun W : World => Up_any n p W p1 p2)
          have HA' := hide (fun W : World => Up_any (-n) p W p1 p2)
          have HE := hide (fun W : World => Even_any n W)
          have HE' := hide (fun W : World => Even_any (-n) W)
          have HX := hide (fun W : World => Floor_any n s W)
          have HX' := hide (fun W : World => Ceiling_any (-n) s W)
          rw [up_turn hf] at HA'
          rw [even_turn hf] at HE'
          rw [floor_turn hf hg hn (by omega)] at HX'
          have ba := one_bd (x := placesR outR n p) hf
          have be := one_bd (x := mevenR n) hf
          have bx := two_bd (x := stepsR dwnR n s) hf hg
          generalize shown1 n (placesR outR n p) = A at *
          generalize shown1 n (mevenR n) = E at *
          generalize shown2 n s (stepsR dwnR n s) = X at *
          obtain ⟨a1, a2⟩ := A
          obtain ⟨e1, e2⟩ := E
          obtain ⟨x1, x2⟩ := X
          have wa : IntKind.i64.wrap a1 = a1 := wrapI (by have := ba.1; simp at this; omega) (by have := ba.2; simp at this; omega)
          have we : IntKind.i64.wrap e1 = e1 := wrapI (by have := be.1; simp at this; omega) (by have := be.2; simp at this; omega)
          have wx : IntKind.i64.wrap x1 = x1 := wrapI (by have := bx.1; simp at this; omega) (by have := bx.2; simp at this; omega)
          clear hf hg n1 n2 ba be bx p1 p2 wp hn
          go_enter Try.func5, Try.ntmps5
          go_wp2_with (first
            | (go_at_call 11; first | (with_reducible refine (HF.out _).mono ?_; rintro e wz ⟨rfl, hz⟩; subst wz) | (with_reducible refine (HG.out _).mono ?_; rintro e wz ⟨rfl, hz⟩; subst wz))
            | (go_at_call 12; first | (with_reducible refine (HA.out _).mono ?_; rintro e v1 ⟨rfl, hb⟩; have HB1 := hide (up HB0.out hb); clear hb HA) | (with_reducible refine (HA'.out _).mono ?_; rintro e v2 ⟨rfl, hb⟩; have HB2 := hide (up HB1.out hb); clear hb))
            | (go_at_call 13; first | (with_reducible refine (HE.out _).mono ?_; rintro e v3 ⟨rfl, hb⟩; have HB3 := hide (up HB2.out hb); clear hb HE) | (with_reducible refine (HE'.out _).mono ?_; rintro e v4 ⟨rfl, hb⟩; have HB4 := hide (up HB3.out hb); clear hb))
            | (go_at_call 14; refine (HX.out _).mono ?_; rintro e v5 ⟨rfl, hb⟩; have HB5 := hide (up HB4.out hb); clear hb)
            | (go_at_call 15; refine (HX'.out _).mono ?_; rintro e v6 ⟨rfl, hb⟩; have HB6 := hide (up HB5.out hb); clear hb)
            | (go_at_call 6; refine (HL.out _).mono ?_; rintro e v7 ⟨rfl, hb⟩; have HB7 := hide (up HB6.out hb); clear hb))
          go_ret
          exact ⟨rfl, HB7.out⟩
end Go.Proofs.Ytfopebfejmlhbab
