/-
  The walk of DatesRow.
-/
import Derived.Test.YtlhpplhhdeifhaaDoorDt9
namespace Go.Proofs.YtlhpplhhdeifhaaDoor
open Go.RowKit

theorem next_day {y z : Int} {k j : Nat} {d c n : Int} (h : DayIs y k d n) (g : DayIs z j c (n + 1)) :
    (z = y ∧ j = k ∧ c = d + 1) ∨ (c = 1 ∧ 28 ≤ d ∧ ((z = y ∧ j = k + 1) ∨ (z = y + 1 ∧ k = 11 ∧ j = 0))) := by
  have h1 := h.y1; have h2 := h.y2; have h3 := h.k1; have h4 := h.d1; have h5 := h.d2; have h6 := h.n1
  have hl := len_bd y (k + 1)
  by_cases a : d < lenM y (k + 1)
  · left
    have q : DayIs y k (d + 1) (n + 1) := ⟨h1, h2, h3, by omega, by omega, by omega⟩
    obtain ⟨e1, e2, e3⟩ := day_unique g q
    exact ⟨e1, e2, e3⟩
  · right
    have a' : d = lenM y (k + 1) := by omega
    by_cases b : k = 11
    · subst b
      have e0 := dA_succ y
      have e1 : cum y 12 = cum y 11 + lenM y 12 := rfl
      have e2 := g.within.1
      have e3 := g.y2
      have e4 := g.y1
      have e5 : y + 1 ≤ 9999 := by
        rcases Int.lt_or_le 9999 (y + 1) with q | q
        · exfalso
          have q1 := g.within.2
          have q2 := dA_mono (show z + 1 ≤ y + 1 by omega)
          rw [show 11 + 1 = 12 from rfl] at a'
          omega
        · exact q
      have l1 := len_bd (y + 1) (0 + 1)
      have q : DayIs (y + 1) 0 1 (n + 1) := ⟨by omega, e5, by decide, by decide, by omega, by rw [show 11 + 1 = 12 from rfl] at a'; simp only [cum] at *; omega⟩
      obtain ⟨e1, e2, e3⟩ := day_unique g q
      exact ⟨e3, by omega, Or.inr ⟨e1, rfl, e2⟩⟩
    · have l1 := len_bd y (k + 1 + 1)
      have q : DayIs y (k + 1) 1 (n + 1) := ⟨h1, h2, by omega, by decide, by omega, by simp only [cum]; omega⟩
      obtain ⟨e1, e2, e3⟩ := day_unique g q
      exact ⟨e3, by omega, Or.inl ⟨e1, e2⟩⟩
set_option maxHeartbeats 4000000 in
theorem datesRow_walk (n : Int) (w : World) (h : Env w) :
    Calls Tryd.prog 8 #[.int .i64 n] w fun e w' => e = .returned (.bool true) ∧ Below w.heap.size w w' := by
  have HL : Hid (∀ W : World, Below w.heap.size w W → Calls Tryd.prog 13 #[] W fun e w' => e = .returned (.bool true) ∧ Below W.heap.size W w') := fun W hW => lives_any W (h.below hW)
  by_cases a1 : n < 1
  · clear h
    go_enter Tryd.func8, Tryd.ntmps8
    go_wp2_with (go_at_call 13; refine (HL.out _ (Below.refl _ _)).mono ?_; rintro e w1 ⟨rfl, hb1⟩)
    go_ret
    exact ⟨rfl, by assumption⟩
  · by_cases a2 : 2958463 < n
    · clear h
      go_enter Tryd.func8, Tryd.ntmps8
      go_wp2_with (go_at_call 13; refine (HL.out _ (Below.refl _ _)).mono ?_; rintro e w1 ⟨rfl, hb1⟩)
      go_ret
      exact ⟨rfl, by assumption⟩
    · obtain ⟨y, k, d, hd⟩ := day_exists (n := n) (by omega) (by omega)
      obtain ⟨z, j, c, hg⟩ := day_exists (n := n + 1) (by omega) (by omega)
      have HP1 : Hid (∀ W : World, Below w.heap.size w W → Calls Tryd.prog 14 #[.int .i64 n] W fun e w' => e = .returned (.tuple #[.int .i64 y, .int .i64 ((k : Int) + 1), .int .i64 d, .int .i64 0]) ∧ Below W.heap.size W w') := fun W hW => parts_yes y k d n W hd (h.below hW).1
      have HP2 : Hid (∀ W : World, Below w.heap.size w W → Calls Tryd.prog 14 #[.int .i64 (n + 1)] W fun e w' => e = .returned (.tuple #[.int .i64 z, .int .i64 ((j : Int) + 1), .int .i64 c, .int .i64 0]) ∧ Below W.heap.size W w') := fun W hW => parts_yes z j c (n + 1) W hg (h.below hW).1
      have HW1 : Hid (∀ W : World, Calls Tryd.prog 16 #[.int .i64 n] W fun e w' => e = .returned (.tuple #[.int .i64 (n % 7 + 1), .int .i64 0]) ∧ Below W.heap.size W w') := fun W => by have := weekday_any n W; rw [week_yes (by omega)] at this; exact this
      have HW2 : Hid (∀ W : World, Calls Tryd.prog 16 #[.int .i64 (n + 1)] W fun e w' => e = .returned (.tuple #[.int .i64 ((n + 1) % 7 + 1), .int .i64 0]) ∧ Below W.heap.size W w') := fun W => by have := weekday_any (n + 1) W; rw [week_yes (by omega)] at this; exact this
      have u1 := hd.y1; have u2 := hd.y2; have u3 := hd.k1; have u4 := hd.d1; have u5 := hd.dle
      obtain ⟨A, hA⟩ : ∃ A : Int, n % 7 + 1 = A := ⟨_, rfl⟩
      have hA2 : (n + 1) % 7 + 1 = A % 7 + 1 := by omega
      have hA0 : 0 ≤ A := by omega
      have hA1 : A ≤ 7 := by omega
      rw [hA] at HW1
      rw [hA2] at HW2
      clear hA hA2
      rcases next_day hd hg with ⟨rfl, rfl, rfl⟩ | ⟨rfl, e28, ⟨rfl, rfl⟩ | ⟨rfl, rfl, rfl⟩⟩
      all_goals
        clear hd hg h
        go_enter Tryd.func8, Tryd.ntmps8
        go_wp2_with fail
        refine (HP1.out _ (Below.refl _ _)).mono ?_
        rintro e w1 ⟨rfl, hb1⟩
        go_wp2_with fail
        refine (HP2.out _ hb1).mono ?_
        rintro e w2 ⟨rfl, hb2⟩
        have hb2 := up hb1 hb2
        go_wp2_with fail
        refine (HW1.out _).mono ?_
        rintro e w3 ⟨rfl, hb3⟩
        have hb3 := up hb2 hb3
        go_wp2_with fail
        refine (HW2.out _).mono ?_
        rintro e w4 ⟨rfl, hb4⟩
        have hb4 := up hb3 hb4
        clear HP1 HP2 HW1 HW2
        go_wp2_with (go_at_call 13; refine (HL.out _ hb4).mono ?_; rintro e w5 ⟨rfl, hb5⟩)
        go_ret
        exact ⟨rfl, up hb4 hb5⟩
end Go.Proofs.YtlhpplhhdeifhaaDoor
