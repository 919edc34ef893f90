/-
  What the plain words of layer 6 have among each other: the order, there and back, inside, what grows, what is clipped.
-/
import Derived.Test.YtkkoeanjmldmdabMv0
namespace Go.Proofs.Ytkkoeanjmldmdab

/-- A place that stays: where it is. -/
theorem stay {k a n r c x y : Int} (h : spotR k a n r c = (x, y, 0, 0)) :
    editB k a n = true ∧ placeB r c = true ∧ ((rowsB k = true ∧ takenB k a n r = false ∧ x = carryR k a n r ∧ y = c) ∨ (rowsB k = false ∧ takenB k a n c = false ∧ x = r ∧ y = carryR k a n c)) := by
  rcases spot_cases k a n r c with ⟨e, _⟩ | ⟨_, _, f, hf, e⟩ | ⟨h1, h2, h3, h4, e⟩ | ⟨h1, h2, h3, h4, e⟩
  · rw [e] at h; simp at h
  · rw [e] at h; simp at h; omega
  · rw [e] at h; simp at h; exact ⟨h1, h2, Or.inl ⟨h3, h4, h.1.symm, h.2.symm⟩⟩
  · rw [e] at h; simp at h; exact ⟨h1, h2, Or.inr ⟨h3, h4, h.1.symm, h.2.symm⟩⟩
theorem beq_of_lt {r s x y : Int} (h1 : r < s ↔ x < y) (h2 : s < r ↔ y < x) : (r == s) = (x == y) := by
  rw [Bool.eq_iff_iff, beq_iff_eq, beq_iff_eq]; omega
theorem order_facts {k a n r c r' c' x1 x2 y1 y2 : Int} (h : spotR k a n r c = (x1, x2, 0, 0)) (h' : spotR k a n r' c' = (y1, y2, 0, 0)) :
    (r < r' ↔ x1 < y1) ∧ (c < c' ↔ x2 < y2) ∧ (r == r') = (x1 == y1) ∧ (c == c') = (x2 == y2) := by
  obtain ⟨he, hp, hc⟩ := stay h
  obtain ⟨_, hp', hc'⟩ := stay h'
  have p := placeB_iff.1 hp
  have p' := placeB_iff.1 hp'
  rcases hc with ⟨hr, ht, rfl, rfl⟩ | ⟨hr, ht, rfl, rfl⟩ <;> rcases hc' with ⟨hr', ht', rfl, rfl⟩ | ⟨hr', ht', rfl, rfl⟩
  · have tt := top_rows hr
    have l1 := carry_lt he (x := r) (y := r') (by omega) (by omega) ht (by omega) (by omega) ht'
    have l2 := carry_lt he (x := r') (y := r) (by omega) (by omega) ht' (by omega) (by omega) ht
    exact ⟨l1, Iff.rfl, beq_of_lt l1 l2, rfl⟩
  · rw [hr] at hr'; cases hr'
  · rw [hr] at hr'; cases hr'
  · have tt := top_cols hr
    have l1 := carry_lt he (x := c) (y := c') (by omega) (by omega) ht (by omega) (by omega) ht'
    have l2 := carry_lt he (x := c') (y := c) (by omega) (by omega) ht' (by omega) (by omega) ht
    exact ⟨Iff.rfl, l1, rfl, beq_of_lt l1 l2⟩
theorem backK_kinds {k a n : Int} (h : editB k a n = true) : (k = 1 ∧ backK k = 2) ∨ (k = 2 ∧ backK k = 1) ∨ (k = 3 ∧ backK k = 4) ∨ (k = 4 ∧ backK k = 3) := by
  rcases editB_kinds h with e | e | e | e <;> subst e <;> decide
theorem back_words {k a n : Int} (h : editB k a n = true) : rowsB (backK k) = rowsB k ∧ topE (backK k) = topE k ∧ insB (backK k) = !insB k ∧ backK (backK k) = k := by
  rcases editB_kinds h with e | e | e | e <;> subst e <;> decide
theorem edit_back {k a n : Int} (h : editB k a n = true) : editB (backK k) a n = true := by
  have g := editB_iff.1 h
  obtain ⟨_, w2, _, _⟩ := back_words h
  have := backK_kinds h
  exact editB_iff.2 (by rw [w2]; omega)
/-- A line that stays comes back. -/
theorem line_back {k a n x : Int} (h : editB k a n = true) (h1 : 1 ≤ x) (h2 : x ≤ topE k) (ht : takenB k a n x = false) : takenB (backK k) a n (carryR k a n x) = false ∧ carryR (backK k) a n (carryR k a n x) = x := by
  have g := editB_iff.1 h
  have hb := edit_back h
  obtain ⟨_, w2, w3, _⟩ := back_words h
  rcases carry_is h h1 h2 ht with ⟨c, e⟩ | ⟨c, i, u, e⟩ | ⟨c, i, e⟩
  · rw [e]
    refine ⟨?_, carry_low c⟩
    cases hi : insB (backK k)
    · obtain ⟨e1, e2⟩ := lost_del (a := a) (n := n) hi; exact taken_no.2 (by omega)
    · obtain ⟨e1, e2, e3⟩ := lost_ins hb hi; exact taken_no.2 (by omega)
  · rw [e]
    have hi : insB (backK k) = false := by rw [w3, i]; rfl
    obtain ⟨e1, e2⟩ := lost_del (a := a) (n := n) hi
    exact ⟨taken_no.2 (by omega), by rw [carry_del (by omega) hi]; omega⟩
  · rw [e]
    have hi : insB (backK k) = true := by rw [w3, i]; rfl
    obtain ⟨e1, e2, e3⟩ := lost_ins hb hi
    exact ⟨taken_no.2 (by omega), by rw [carry_ins (by omega) hi]; omega⟩
theorem spot_back {k a n r c x y : Int} (h : spotR k a n r c = (x, y, 0, 0)) : spotR (backK k) a n x y = (r, c, 0, 0) := by
  obtain ⟨he, hp, hc⟩ := stay h
  have p := placeB_iff.1 hp
  have hb := edit_back he
  obtain ⟨w1, w2, _, _⟩ := back_words he
  rcases hc with ⟨hr, ht, rfl, rfl⟩ | ⟨hr, ht, rfl, rfl⟩
  · have tt := top_rows hr
    have f := carry_fits he (x := r) (by omega) (by omega) ht
    obtain ⟨b1, b2⟩ := line_back he (x := r) (by omega) (by omega) ht
    rw [spotR_row hb (placeB_iff.2 (by omega)) (by rw [w1]; exact hr), b1, b2]; simp
  · have tt := top_cols hr
    have f := carry_fits he (x := c) (by omega) (by omega) ht
    obtain ⟨b1, b2⟩ := line_back he (x := c) (by omega) (by omega) ht
    rw [spotR_col hb (placeB_iff.2 (by omega)) (by rw [w1]; exact hr), b1, b2]; simp
/-- What is left of lines has just those of its lines that stay. -/
theorem lines_in {k a n f l x : Int} (h : editB k a n = true) (h1 : 1 ≤ f) (h3 : l ≤ topE k) (hq : leftF k a n f ≤ leftL k a n l) (x1 : 1 ≤ x) (x2 : x ≤ topE k) (ht : takenB k a n x = false) :
    (f ≤ x ∧ x ≤ l) ↔ (carryR k a n (leftF k a n f) ≤ carryR k a n x ∧ carryR k a n x ≤ carryR k a n (leftL k a n l)) := by
  obtain ⟨b1, b2, b3, b4, b5⟩ := left_bounds h hq
  have c1 := carry_lt h (x := x) (y := leftF k a n f) x1 x2 ht (by omega) (by omega) b3
  have c2 := carry_lt h (x := leftL k a n l) (y := x) (by omega) (by omega) b4 x1 x2 ht
  constructor
  · intro ⟨u, v⟩
    have := b5 x u v ht
    omega
  · intro ⟨u, v⟩
    omega
/-- What Rect answers. -/
theorem rect_cases (k a n t l b r : Int) : (rectR k a n t l b r = (0, 0, 0, 0, false, 2) ∧ clipR k a n t l b r = (false, 2) ∧ (editB k a n = false ∨ rightB t l b r = false)) ∨
    (editB k a n = true ∧ rightB t l b r = true ∧ rowsB k = true ∧ ¬ leftF k a n t ≤ leftL k a n b ∧ rectR k a n t l b r = (0, 0, 0, 0, false, 0) ∧ clipR k a n t l b r = (clipB k a n t b, 0)) ∨
    (editB k a n = true ∧ rightB t l b r = true ∧ rowsB k = false ∧ ¬ leftF k a n l ≤ leftL k a n r ∧ rectR k a n t l b r = (0, 0, 0, 0, false, 0) ∧ clipR k a n t l b r = (clipB k a n l r, 0)) ∨
    (editB k a n = true ∧ rightB t l b r = true ∧ rowsB k = true ∧ leftF k a n t ≤ leftL k a n b ∧ rectR k a n t l b r = (carryR k a n (leftF k a n t), l, carryR k a n (leftL k a n b), r, true, 0) ∧ clipR k a n t l b r = (clipB k a n t b, 0)) ∨
    (editB k a n = true ∧ rightB t l b r = true ∧ rowsB k = false ∧ leftF k a n l ≤ leftL k a n r ∧ rectR k a n t l b r = (t, carryR k a n (leftF k a n l), b, carryR k a n (leftL k a n r), true, 0) ∧ clipR k a n t l b r = (clipB k a n l r, 0)) := by
  cases h : editB k a n
  · exact Or.inl ⟨rectR_no (Or.inl h), clipR_no (Or.inl h), Or.inl rfl⟩
  · cases hp : rightB t l b r
    · exact Or.inl ⟨rectR_no (Or.inr hp), clipR_no (Or.inr hp), Or.inr rfl⟩
    · cases hr : rowsB k
      · by_cases hq : leftF k a n l ≤ leftL k a n r
        · exact Or.inr (Or.inr (Or.inr (Or.inr ⟨rfl, rfl, rfl, hq, by rw [rectR_col h hp hr, linesR_yes hq]; simp, clipR_col h hp hr⟩)))
        · exact Or.inr (Or.inr (Or.inl ⟨rfl, rfl, rfl, hq, by rw [rectR_col h hp hr, linesR_no hq]; simp, clipR_col h hp hr⟩))
      · by_cases hq : leftF k a n t ≤ leftL k a n b
        · exact Or.inr (Or.inr (Or.inr (Or.inl ⟨rfl, rfl, rfl, hq, by rw [rectR_row h hp hr, linesR_yes hq]; simp, clipR_row h hp hr⟩)))
        · exact Or.inr (Or.inl ⟨rfl, rfl, rfl, hq, by rw [rectR_row h hp hr, linesR_no hq]; simp, clipR_row h hp hr⟩)
theorem clip_of_none {k a n f l : Int} (h : editB k a n = true) (hfl : f ≤ l) (hq : ¬ leftF k a n f ≤ leftL k a n l) : clipB k a n f l = true := by
  have t1 := taken_iff.1 (left_none h hq (Int.le_refl f) hfl)
  have t2 := lost_ord h
  exact clip_iff.2 (by omega)
theorem inside_yes {k a n t l b r x y u v t' l' b' r' : Int} (hs : spotR k a n x y = (u, v, 0, 0)) (hr : rectR k a n t l b r = (t', l', b', r', true, 0)) :
    rightB t' l' b' r' = true ∧ inB t' l' b' r' u v = inB t l b r x y := by
  obtain ⟨he, hp, hc⟩ := stay hs
  have p := placeB_iff.1 hp
  rcases rect_cases k a n t l b r with ⟨e, _⟩ | ⟨_, _, _, _, e, _⟩ | ⟨_, _, _, _, e, _⟩ | ⟨_, hR, hw, hq, e, _⟩ | ⟨_, hR, hw, hq, e, _⟩
  · rw [e] at hr; simp at hr
  · rw [e] at hr; simp at hr
  · rw [e] at hr; simp at hr
  · rw [e] at hr
    simp only [Prod.mk.injEq] at hr
    obtain ⟨rfl, rfl, rfl, rfl, _⟩ := hr
    have g := rightB_iff.1 hR
    have tt := top_rows hw
    have o := lines_ok he (f := t) (l := b) (by omega) (by omega) hq
    have hR' : rightB (carryR k a n (leftF k a n t)) l (carryR k a n (leftL k a n b)) r = true := rightB_iff.2 (by omega)
    refine ⟨hR', ?_⟩
    rcases hc with ⟨_, ht, rfl, rfl⟩ | ⟨hw', _⟩
    · have q := lines_in he (f := t) (l := b) (x := x) (by omega) (by omega) hq (by omega) (by omega) ht
      rw [Bool.eq_iff_iff, inB_iff, inB_iff, hR, hR']
      simp only [true_and]
      omega
    · rw [hw] at hw'; cases hw'
  · rw [e] at hr
    simp only [Prod.mk.injEq] at hr
    obtain ⟨rfl, rfl, rfl, rfl, _⟩ := hr
    have g := rightB_iff.1 hR
    have tt := top_cols hw
    have o := lines_ok he (f := l) (l := r) (by omega) (by omega) hq
    have hR' : rightB t (carryR k a n (leftF k a n l)) b (carryR k a n (leftL k a n r)) = true := rightB_iff.2 (by omega)
    refine ⟨hR', ?_⟩
    rcases hc with ⟨hw', _⟩ | ⟨_, ht, rfl, rfl⟩
    · rw [hw] at hw'; cases hw'
    · have q := lines_in he (f := l) (l := r) (x := y) (by omega) (by omega) hq (by omega) (by omega) ht
      rw [Bool.eq_iff_iff, inB_iff, inB_iff, hR, hR']
      simp only [true_and]
      omega
theorem inside_no {k a n t l b r x y u v t' l' b' r' : Int} (hs : spotR k a n x y = (u, v, 0, 0)) (hr : rectR k a n t l b r = (t', l', b', r', false, 0)) :
    inB t l b r x y = false ∧ t' = 0 ∧ l' = 0 ∧ b' = 0 ∧ r' = 0 := by
  obtain ⟨he, hp, hc⟩ := stay hs
  rcases rect_cases k a n t l b r with ⟨e, _⟩ | ⟨_, hR, hw, hq, e, _⟩ | ⟨_, hR, hw, hq, e, _⟩ | ⟨_, _, _, _, e, _⟩ | ⟨_, _, _, _, e, _⟩
  · rw [e] at hr; simp at hr
  · rw [e] at hr
    simp only [Prod.mk.injEq] at hr
    refine ⟨?_, by omega⟩
    rcases hc with ⟨_, ht, _⟩ | ⟨hw', _⟩
    · cases hi : inB t l b r x y
      · rfl
      · have := inB_iff.1 hi
        rw [left_none he hq this.2.1 this.2.2.1] at ht; cases ht
    · rw [hw] at hw'; cases hw'
  · rw [e] at hr
    simp only [Prod.mk.injEq] at hr
    refine ⟨?_, by omega⟩
    rcases hc with ⟨hw', _⟩ | ⟨_, ht, _⟩
    · rw [hw] at hw'; cases hw'
    · cases hi : inB t l b r x y
      · rfl
      · have := inB_iff.1 hi
        rw [left_none he hq this.2.2.2.1 this.2.2.2.2] at ht; cases ht
  · rw [e] at hr; simp at hr
  · rw [e] at hr; simp at hr
/-- Lines of which nothing is taken. -/
theorem whole_left {k a n f l : Int} (h : editB k a n = true) (hfl : f ≤ l) (hc : clipB k a n f l = false) : (l < lostF k a n ∨ lostL k a n < f) ∧ leftF k a n f = f ∧ leftL k a n l = l := by
  have t := lost_ord h
  have q : l < lostF k a n ∨ lostL k a n < f := by
    rcases Int.lt_or_le l (lostF k a n) with c | c
    · exact Or.inl c
    · rcases Int.lt_or_le (lostL k a n) f with d | d
      · exact Or.inr d
      · rw [clip_iff.2 ⟨d, c, hfl, t.2.1⟩] at hc; cases hc
  exact ⟨q, leftF_no (taken_no.2 (by omega)), leftL_no (taken_no.2 (by omega))⟩
theorem grows {at' n t l b r t' l' b' r' i : Int} (hr : rectR 1 at' n t l b r = (t', l', b', r', true, 0)) (hc : (clipR 1 at' n t l b r).1 = false) (h0 : 0 ≤ i) (h1 : i < n) :
    inB t' l' b' r' (at' + i) l' = (decide (t < at') && decide (at' ≤ b)) ∧ l' = l ∧ r' = r ∧ 1 ≤ at' ∧ at' ≤ 1048576 ∧ n ≤ 1048576 := by
  rcases rect_cases 1 at' n t l b r with ⟨e, _⟩ | ⟨_, hR, hw, hq, e, _⟩ | ⟨_, hR, hw, hq, e, _⟩ | ⟨he, hR, hw, hq, e, c⟩ | ⟨_, _, hw, _⟩
  · rw [e] at hr; simp at hr
  · rw [e] at hr; simp at hr
  · rw [e] at hr; simp at hr
  · rw [e] at hr
    rw [c] at hc
    simp only [Prod.mk.injEq] at hr
    obtain ⟨rfl, rfl, rfl, rfl, _⟩ := hr
    have g := rightB_iff.1 hR
    have ge := editB_iff.1 he
    rw [top1] at ge
    obtain ⟨q, e1, e2⟩ := whole_left he (by omega) hc
    obtain ⟨f1, f2, f3⟩ := lost_ins he ins1
    rw [top1] at f1 f2
    rw [e1, e2]
    have hb : b < lostF 1 at' n := by omega
    refine ⟨?_, rfl, rfl, by omega, by omega, by omega⟩
    by_cases u : t < at'
    · by_cases v : b < at'
      · rw [carry_low u, carry_low v, Bool.eq_iff_iff, inB_iff]; simp; omega
      · rw [carry_low u, carry_ins v ins1, Bool.eq_iff_iff, inB_iff, rightB_iff]; simp; omega
    · rw [carry_ins u ins1, carry_ins (show ¬ b < at' by omega) ins1, Bool.eq_iff_iff, inB_iff]; simp; omega
  · rw [rows1] at hw; cases hw
/-- A deletion: what is left is as much, or less just where something is taken. -/
theorem del_lines {k a n f l : Int} (h : editB k a n = true) (hi : insB k = false) (hfl : f ≤ l) (hq : leftF k a n f ≤ leftL k a n l) :
    (clipB k a n f l = true ∧ carryR k a n (leftL k a n l) - carryR k a n (leftF k a n f) < l - f) ∨ (clipB k a n f l = false ∧ carryR k a n (leftL k a n l) - carryR k a n (leftF k a n f) = l - f) := by
  have ge := editB_iff.1 h
  obtain ⟨e1, e2⟩ := lost_del (a := a) (n := n) hi
  cases hc : clipB k a n f l
  · obtain ⟨q, d1, d2⟩ := whole_left h hfl hc
    rw [d1, d2]
    refine Or.inr ⟨rfl, ?_⟩
    rcases q with q | q
    · rw [carry_low (show f < a by omega), carry_low (show l < a by omega)]
    · rw [carry_del (show ¬ f < a by omega) hi, carry_del (show ¬ l < a by omega) hi]; omega
  · have q := clip_iff.1 hc
    refine Or.inl ⟨rfl, ?_⟩
    obtain ⟨b1, b2, b3, b4, _⟩ := left_bounds h hq
    have t3 := taken_no.1 b3
    have t4 := taken_no.1 b4
    have g1 : leftF k a n f = f ∨ leftF k a n f = lostL k a n + 1 := by
      cases c : takenB k a n f
      · exact Or.inl (leftF_no c)
      · exact Or.inr (leftF_yes c)
    have g2 : leftL k a n l = l ∨ leftL k a n l = lostF k a n - 1 := by
      cases c : takenB k a n l
      · exact Or.inl (leftL_no c)
      · exact Or.inr (leftL_yes c)
    by_cases u : leftF k a n f < a
    · by_cases v : leftL k a n l < a
      · rw [carry_low u, carry_low v]; omega
      · rw [carry_low u, carry_del v hi]; omega
    · by_cases v : leftL k a n l < a
      · omega
      · rw [carry_del u hi, carry_del v hi]; omega
theorem ins_lines {k a n f l : Int} (h : editB k a n = true) (hi : insB k = true) (hfl : f ≤ l) (hc : clipB k a n f l = false) :
    leftF k a n f ≤ leftL k a n l ∧ l - f ≤ carryR k a n (leftL k a n l) - carryR k a n (leftF k a n f) := by
  have ge := editB_iff.1 h
  obtain ⟨_, d1, d2⟩ := whole_left h hfl hc
  rw [d1, d2]
  refine ⟨hfl, ?_⟩
  by_cases u : f < a
  · by_cases v : l < a
    · rw [carry_low u, carry_low v]; omega
    · rw [carry_low u, carry_ins v hi]; omega
  · rw [carry_ins u hi, carry_ins (show ¬ l < a by omega) hi]; omega
end Go.Proofs.Ytkkoeanjmldmdab
