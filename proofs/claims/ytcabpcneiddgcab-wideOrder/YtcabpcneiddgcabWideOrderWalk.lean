/-
  The walk of WideOrder: for every two sums and every number it returns true.
-/
import Derived.Test.YtcabpcneiddgcabWideLaws2
import Derived.Test.YtcabpcneiddgcabWide2
import Derived.Test.YtcabpcneiddgcabWide5
namespace Go.Proofs.Ytcabpcneiddgcab
open Go.RowKit

theorem compW_eq {h l : Int} (r : rightB h l = true) : compW h l h l = (0, 0) := by
  rw [compW_yes r r, if_pos ⟨rfl, rfl⟩]
theorem compW_lt {h l g k : Int} (r : rightB h l = true) (s : rightB g k = true) (c : h < g ∨ (h = g ∧ l < k)) : compW h l g k = (-1, 0) := by
  rw [compW_yes r s, if_neg (by omega), if_pos c]
theorem compW_gt {h l g k : Int} (r : rightB h l = true) (s : rightB g k = true) (c : g < h ∨ (g = h ∧ k < l)) : compW h l g k = (1, 0) := by
  rw [compW_yes r s, if_neg (by omega), if_neg (by omega)]
theorem order_cases (h l g k : Int) :
    (compW h l g k = (0, 2) ∧ compW g k h l = (0, 2)) ∨ (h = g ∧ l = k ∧ compW h l h l = (0, 0)) ∨
    ((h == g) = false ∧ compW h l g k = (-1, 0) ∧ compW g k h l = (1, 0)) ∨ (h = g ∧ (l == k) = false ∧ compW h l h k = (-1, 0) ∧ compW h k h l = (1, 0)) ∨
    ((h == g) = false ∧ compW h l g k = (1, 0) ∧ compW g k h l = (-1, 0)) ∨ (h = g ∧ (l == k) = false ∧ compW h l h k = (1, 0) ∧ compW h k h l = (-1, 0)) := by
  cases r : rightB h l
  · exact .inl ⟨compW_no r, compW_no2 r⟩
  · cases s : rightB g k
    · exact .inl ⟨compW_no2 s, compW_no s⟩
    · by_cases c : h = g
      · subst c
        by_cases d : l = k
        · subst d
          exact .inr (.inl ⟨rfl, rfl, compW_eq r⟩)
        · have d2 : (l == k) = false := by simpa using d
          by_cases e : l < k
          · exact .inr (.inr (.inr (.inl ⟨rfl, d2, compW_lt r s (by omega), compW_gt s r (by omega)⟩)))
          · exact .inr (.inr (.inr (.inr (.inr ⟨rfl, d2, compW_gt r s (by omega), compW_lt s r (by omega)⟩))))
      · have c2 : (h == g) = false := by simpa using c
        by_cases e : h < g
        · exact .inr (.inr (.inl ⟨c2, compW_lt r s (by omega), compW_gt s r (by omega)⟩))
        · exact .inr (.inr (.inr (.inr (.inl ⟨c2, compW_gt r s (by omega), compW_lt s r (by omega)⟩))))
theorem grow_cases (h l n : Int) : ((addW h l n).2.2 == 0) = false ∨ ∃ s0 s1 : Int, addW h l n = (s0, s1, 0) ∧
    ((0 < n ∧ compW h l s0 s1 = (-1, 0)) ∨ (n = 0 ∧ compW h l s0 s1 = (0, 0)) ∨ (n < 0 ∧ compW h l s0 s1 = (1, 0))) := by
  cases r : rightB h l
  · left; rw [addW_no r]; rfl
  · cases f : fitsB n
    · left; rw [addW_no2 f]; rfl
    · rw [addW_yes r f]
      rcases madeR_cases h (l + n) with e | e
      · right
        obtain ⟨m1, m2⟩ := madeR_ok e
        refine ⟨(madeR h (l + n)).1, (madeR h (l + n)).2.1, by rw [← e], ?_⟩
        have a := rightB_true r
        have b := rightB_true m1
        rcases Int.lt_trichotomy 0 n with c | c | c
        · exact .inl ⟨c, compW_lt r m1 (by omega)⟩
        · refine .inr (.inl ⟨c.symm, ?_⟩)
          have q : (madeR h (l + n)).1 = h ∧ (madeR h (l + n)).2.1 = l := by omega
          rw [q.1, q.2]; exact compW_eq r
        · exact .inr (.inr ⟨c, compW_gt r m1 (by omega)⟩)
      · left; rw [e]; rfl

set_option maxHeartbeats 4000000 in
/-- The walk, where what is told of the two sums, and of the sum with the number, is at hand. -/
theorem order_tail (h l g k n x y e a0 a1 a2 z u : Int) (w : World)
    (H1 : Hid (∀ W : World, Calls Try.prog 4 #[.agg #[.int .i64 h, .int .i64 l], .agg #[.int .i64 g, .int .i64 k]] W fun r w' => r = .returned (.tuple #[.int .i64 x, .int .i64 e]) ∧ Below W.heap.size W w'))
    (H2 : Hid (∀ W : World, Calls Try.prog 4 #[.agg #[.int .i64 g, .int .i64 k], .agg #[.int .i64 h, .int .i64 l]] W fun r w' => r = .returned (.tuple #[.int .i64 y, .int .i64 e]) ∧ Below W.heap.size W w'))
    (H3 : Hid (∀ W : World, Calls Try.prog 5 #[.agg #[.int .i64 h, .int .i64 l], .int .i64 n] W fun r w' => r = .returned (.tuple #[.agg #[.int .i64 a0, .int .i64 a1], .int .i64 a2]) ∧ Below W.heap.size W w'))
    (H4 : Hid (∀ W : World, Calls Try.prog 4 #[.agg #[.int .i64 h, .int .i64 l], .agg #[.int .i64 a0, .int .i64 a1]] W fun r w' => r = .returned (.tuple #[.int .i64 z, .int .i64 u]) ∧ Below W.heap.size W w'))
    (c1 : IntKind.i64.wrap (-y) = x) (c2 : (e == 0) = false ∨ ((e == 0) = true ∧ (x == 0) = true ∧ (h == g) = true ∧ (l == k) = true) ∨ ((e == 0) = true ∧ (x == 0) = false ∧ (h == g) = false) ∨ ((e == 0) = true ∧ (x == 0) = false ∧ (h == g) = true ∧ (l == k) = false))
    (c3 : (a2 == 0) = false ∨ ((a2 == 0) = true ∧ u = 0 ∧ z = -1 ∧ 0 < n) ∨ ((a2 == 0) = true ∧ u = 0 ∧ z = 0 ∧ n = 0) ∨ ((a2 == 0) = true ∧ u = 0 ∧ z = 1 ∧ n < 0)) :
    Calls Try.prog 3 #[.agg #[.int .i64 h, .int .i64 l], .agg #[.int .i64 g, .int .i64 k], .int .i64 n] w fun r w' => r = .returned (.bool true) ∧ Below w.heap.size w w' := by
  go_enter Try.func3, Try.ntmps3
  go_wp2_with fail
  refine (H1.out _).mono ?_
  rintro r w1 ⟨rfl, hb1⟩
  have P1 := ((At.new w h l 23).alloc (.cells #[.int .i64 g, .int .i64 k] 23)).below hb1
  have Q1 := (At.at (w.alloc (.cells #[.int .i64 h, .int .i64 l] 23)) (w.heap.size + 1) g k 23 (by simp)).below hb1
  have B1 : Below w.heap.size w w1 := by
    repeat' (first | with_reducible exact Below.refl _ _ | with_reducible refine Below.setCell ?_ ?_ _ | with_reducible refine Below.alloc ?_ ?_ _ | with_reducible refine below_drewN ?_ _ | with_reducible refine Below.drew ?_ | with_reducible refine Below.trans ?_ (Below.mono (by assumption) ?_) | with_reducible exact Nat.le_refl _ | with_reducible refine Nat.le_trans ?_ (Below.size (by assumption)) | with_reducible refine Nat.le_trans ?_ (size_alloc _ _) | with_reducible refine Nat.le_trans ?_ (size_set _ _ _) | with_reducible refine Nat.le_trans ?_ (size_drewN _ _) | with_reducible refine Nat.le_trans ?_ (size_drew _) | (simp; done) | (simp; omega) | omega)
  clear hb1
  obtain ⟨Pl, Px, Py⟩ := id P1
  obtain ⟨Ql, Qx, Qy⟩ := id Q1
  go_wp2_with fail
  refine (H2.out _).mono ?_
  rintro r w2 ⟨rfl, hb2⟩
  have P2 := P1.below hb2
  have Q2 := Q1.below hb2
  have B2 := B1.trans (hb2.mono B1.size)
  clear hb2 B1 P1 Q1 Pl Px Py Ql Qx Qy
  obtain ⟨Pl, Px, Py⟩ := id P2
  obtain ⟨Ql, Qx, Qy⟩ := id Q2
  rcases c2 with c2 | ⟨c2, c4, c5, c6⟩ | ⟨c2, c4, c5⟩ | ⟨c2, c4, c5, c6⟩
  all_goals
    go_wp2_with fail
    refine (H3.out _).mono ?_
    rintro r w3 ⟨rfl, hb3⟩
    have P3 := P2.below hb3
    have B3 := B2.trans (hb3.mono B2.size)
    clear hb3 B2 P2 Q2 Pl Px Py Ql Qx Qy
    obtain ⟨Pl, Px, Py⟩ := P3
    rcases c3 with c3 | ⟨c3, rfl, rfl, c7⟩ | ⟨c3, rfl, rfl, rfl⟩ | ⟨c3, rfl, rfl, c7⟩
    · go_wp2_with (go_at_call 6; refine (lives3_any _).mono ?_; rintro r w4 ⟨rfl, hb4⟩)
      go_ret
      refine ⟨rfl, ?_⟩
      repeat' (first | with_reducible exact Below.refl _ _ | with_reducible refine Below.setCell ?_ ?_ _ | with_reducible refine Below.alloc ?_ ?_ _ | with_reducible refine below_drewN ?_ _ | with_reducible refine Below.drew ?_ | with_reducible refine Below.trans ?_ (Below.mono (by assumption) ?_) | with_reducible exact Nat.le_refl _ | with_reducible refine Nat.le_trans ?_ (Below.size (by assumption)) | with_reducible refine Nat.le_trans ?_ (size_alloc _ _) | with_reducible refine Nat.le_trans ?_ (size_set _ _ _) | with_reducible refine Nat.le_trans ?_ (size_drewN _ _) | with_reducible refine Nat.le_trans ?_ (size_drew _) | (simp; done) | (simp; omega) | omega)
    all_goals
      go_wp2_with fail
      refine (H4.out _).mono ?_
      rintro r w4 ⟨rfl, hb4⟩
      have B4 : Below w.heap.size w w4 := by
        repeat' (first | with_reducible exact Below.refl _ _ | with_reducible refine Below.setCell ?_ ?_ _ | with_reducible refine Below.alloc ?_ ?_ _ | with_reducible refine below_drewN ?_ _ | with_reducible refine Below.drew ?_ | with_reducible refine Below.trans ?_ (Below.mono (by assumption) ?_) | with_reducible exact Nat.le_refl _ | with_reducible refine Nat.le_trans ?_ (Below.size (by assumption)) | with_reducible refine Nat.le_trans ?_ (size_alloc _ _) | with_reducible refine Nat.le_trans ?_ (size_set _ _ _) | with_reducible refine Nat.le_trans ?_ (size_drewN _ _) | with_reducible refine Nat.le_trans ?_ (size_drew _) | (simp; done) | (simp; omega) | omega)
      clear hb4 B3 Pl Px Py
      go_wp2_with (go_at_call 6; refine (lives3_any _).mono ?_; rintro r w5 ⟨rfl, hb5⟩)
      go_ret
      refine ⟨by first | rfl | (simp; omega), ?_⟩
      repeat' (first | with_reducible exact Below.refl _ _ | with_reducible refine Below.setCell ?_ ?_ _ | with_reducible refine Below.alloc ?_ ?_ _ | with_reducible refine below_drewN ?_ _ | with_reducible refine Below.drew ?_ | with_reducible refine Below.trans ?_ (Below.mono (by assumption) ?_) | with_reducible exact Nat.le_refl _ | with_reducible refine Nat.le_trans ?_ (Below.size (by assumption)) | with_reducible refine Nat.le_trans ?_ (size_alloc _ _) | with_reducible refine Nat.le_trans ?_ (size_set _ _ _) | with_reducible refine Nat.le_trans ?_ (size_drewN _ _) | with_reducible refine Nat.le_trans ?_ (size_drew _) | (simp; done) | (simp; omega) | omega)
theorem wrap_one : IntKind.i64.wrap (-1) = -1 := by rw [IntKind.wrap_i64]; rfl
theorem wrap_none : IntKind.i64.wrap (-0) = 0 := by rw [IntKind.wrap_i64]; rfl
theorem wrap_two : IntKind.i64.wrap (-(-1)) = 1 := by rw [IntKind.wrap_i64]; rfl
theorem order_both (h l g k n x y e : Int) (w : World) (e1 : compW h l g k = (x, e)) (e2 : compW g k h l = (y, e)) (c1 : IntKind.i64.wrap (-y) = x)
    (c2 : (e == 0) = false ∨ ((e == 0) = true ∧ (x == 0) = true ∧ (h == g) = true ∧ (l == k) = true) ∨ ((e == 0) = true ∧ (x == 0) = false ∧ (h == g) = false) ∨ ((e == 0) = true ∧ (x == 0) = false ∧ (h == g) = true ∧ (l == k) = false)) :
    Calls Try.prog 3 #[.agg #[.int .i64 h, .int .i64 l], .agg #[.int .i64 g, .int .i64 k], .int .i64 n] w fun r w' => r = .returned (.bool true) ∧ Below w.heap.size w w' := by
  have h1 := fun W => compW_any h l g k W
  have h2 := fun W => compW_any g k h l W
  rw [e1] at h1
  rw [e2] at h2
  have h3 := fun W => addW_any h l n W
  have h4 := fun W => compW_any h l (addW h l n).1 (addW h l n).2.1 W
  refine order_tail h l g k n x y e (addW h l n).1 (addW h l n).2.1 (addW h l n).2.2 (compW h l (addW h l n).1 (addW h l n).2.1).1 (compW h l (addW h l n).1 (addW h l n).2.1).2 w h1 h2 h3 h4 c1 c2 ?_
  rcases grow_cases h l n with c | ⟨s0, s1, c, d⟩
  · exact .inl c
  · rw [c]
    rcases d with ⟨d1, d2⟩ | ⟨d1, d2⟩ | ⟨d1, d2⟩
    · exact .inr (.inl ⟨rfl, by rw [d2], by rw [d2], d1⟩)
    · exact .inr (.inr (.inl ⟨rfl, by rw [d2], by rw [d2], d1⟩))
    · exact .inr (.inr (.inr ⟨rfl, by rw [d2], by rw [d2], d1⟩))
theorem wideOrder_walk (h l g k n : Int) (w : World) (_ : (Lit.int .i64 h).wf = true) (_ : (Lit.int .i64 l).wf = true) (_ : (Lit.int .i64 g).wf = true) (_ : (Lit.int .i64 k).wf = true) (_ : (Lit.int .i64 n).wf = true) :
    Calls Try.prog 3 #[.agg #[.int .i64 h, .int .i64 l], .agg #[.int .i64 g, .int .i64 k], .int .i64 n] w fun r w' => r = .returned (.bool true) ∧ Below w.heap.size w w' := by
  rcases order_cases h l g k with ⟨e1, e2⟩ | ⟨rfl, rfl, e1⟩ | ⟨t, e1, e2⟩ | ⟨rfl, t, e1, e2⟩ | ⟨t, e1, e2⟩ | ⟨rfl, t, e1, e2⟩
  · exact order_both h l g k n 0 0 2 w e1 e2 wrap_none (.inl rfl)
  · exact order_both h l h l n 0 0 0 w e1 e1 wrap_none (.inr (.inl ⟨rfl, rfl, by simp, by simp⟩))
  · exact order_both h l g k n (-1) 1 0 w e1 e2 wrap_one (.inr (.inr (.inl ⟨rfl, rfl, t⟩)))
  · exact order_both h l h k n (-1) 1 0 w e1 e2 wrap_one (.inr (.inr (.inr ⟨rfl, rfl, by simp, t⟩)))
  · exact order_both h l g k n 1 (-1) 0 w e1 e2 wrap_two (.inr (.inr (.inl ⟨rfl, rfl, t⟩)))
  · exact order_both h l h k n 1 (-1) 0 w e1 e2 wrap_two (.inr (.inr (.inr ⟨rfl, rfl, by simp, t⟩)))
end Go.Proofs.Ytcabpcneiddgcab
