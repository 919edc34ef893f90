/-
  How many places a rectangle has behind an edit, and what is clipped.
-/
import Derived.Test.YtkkoeanjmldmdabMvMath
namespace Go.Proofs.Ytkkoeanjmldmdab

theorem area_zero : areaR 0 0 0 0 = (0, 2) := areaR_no (by decide)
theorem area_pos {t l b r : Int} (h : rightB t l b r = true) : 0 < (areaR t l b r).1 := by
  have g := rightB_iff.1 h
  rw [areaR_yes h]
  exact Int.mul_pos (by omega) (by omega)
theorem area_lt_rows {t l b r t' b' : Int} (h : rightB t l b r = true) (h' : rightB t' l b' r = true) (d : b' - t' < b - t) : (areaR t' l b' r).1 < (areaR t l b r).1 := by
  have g := rightB_iff.1 h
  rw [areaR_yes h, areaR_yes h']
  exact Int.mul_lt_mul_of_pos_right (by omega) (by omega)
theorem area_le_rows {t l b r t' b' : Int} (h : rightB t l b r = true) (h' : rightB t' l b' r = true) (d : b - t ≤ b' - t') : (areaR t l b r).1 ≤ (areaR t' l b' r).1 := by
  have g := rightB_iff.1 h
  rw [areaR_yes h, areaR_yes h']
  exact Int.mul_le_mul_of_nonneg_right (by omega) (by omega)
theorem area_lt_cols {t l b r l' r' : Int} (h : rightB t l b r = true) (h' : rightB t l' b r' = true) (d : r' - l' < r - l) : (areaR t l' b r').1 < (areaR t l b r).1 := by
  have g := rightB_iff.1 h
  rw [areaR_yes h, areaR_yes h']
  exact Int.mul_lt_mul_of_pos_left (by omega) (by omega)
theorem area_le_cols {t l b r l' r' : Int} (h : rightB t l b r = true) (h' : rightB t l' b r' = true) (d : r - l ≤ r' - l') : (areaR t l b r).1 ≤ (areaR t l' b r').1 := by
  have g := rightB_iff.1 h
  rw [areaR_yes h, areaR_yes h']
  exact Int.mul_le_mul_of_nonneg_left (by omega) (by omega)
/-- What Rect and Clips say of how many places there are. -/
def Fair (k a n t l b r : Int) (u : Int × Int × Int × Int × Bool × Int) (c : Bool × Int) : Prop :=
  c.2 = 0 ∧ u.2.2.2.2.2 = 0 ∧
    (insB k = false → (c.1 = true ∧ (areaR u.1 u.2.1 u.2.2.1 u.2.2.2.1).1 < (areaR t l b r).1) ∨ (c.1 = false ∧ (areaR u.1 u.2.1 u.2.2.1 u.2.2.2.1).1 = (areaR t l b r).1)) ∧
    (insB k = true → c.1 = true ∨ (c.1 = false ∧ u.2.2.2.2.1 = true ∧ (areaR t l b r).1 ≤ (areaR u.1 u.2.1 u.2.2.1 u.2.2.2.1).1)) ∧ editB k a n = true
theorem fair {k a n t l b r : Int} (he : editB k a n = true) (hR : rightB t l b r = true) : Fair k a n t l b r (rectR k a n t l b r) (clipR k a n t l b r) := by
  have g := rightB_iff.1 hR
  rcases rect_cases k a n t l b r with ⟨_, _, e | e⟩ | ⟨_, _, hw, hq, e, c⟩ | ⟨_, _, hw, hq, e, c⟩ | ⟨_, _, hw, hq, e, c⟩ | ⟨_, _, hw, hq, e, c⟩
  · rw [he] at e; cases e
  · rw [hR] at e; cases e
  · rw [e, c, clip_of_none he (by omega) hq]
    refine ⟨rfl, rfl, fun _ => Or.inl ⟨rfl, ?_⟩, fun _ => Or.inl rfl, he⟩
    show (areaR 0 0 0 0).1 < _
    rw [area_zero]; exact area_pos hR
  · rw [e, c, clip_of_none he (by omega) hq]
    refine ⟨rfl, rfl, fun _ => Or.inl ⟨rfl, ?_⟩, fun _ => Or.inl rfl, he⟩
    show (areaR 0 0 0 0).1 < _
    rw [area_zero]; exact area_pos hR
  · have tt := top_rows hw
    have o := lines_ok he (f := t) (l := b) (by omega) (by omega) hq
    have hR' : rightB (carryR k a n (leftF k a n t)) l (carryR k a n (leftL k a n b)) r = true := rightB_iff.2 (by omega)
    rw [e, c]
    refine ⟨rfl, rfl, fun hi => ?_, fun hi => ?_, he⟩
    · rcases del_lines he hi (f := t) (l := b) (by omega) hq with ⟨d1, d2⟩ | ⟨d1, d2⟩
      · exact Or.inl ⟨d1, area_lt_rows hR hR' d2⟩
      · have w1 : (areaR (carryR k a n (leftF k a n t)) l (carryR k a n (leftL k a n b)) r).1 ≤ (areaR t l b r).1 := area_le_rows hR' hR (by omega)
        have w2 : (areaR t l b r).1 ≤ (areaR (carryR k a n (leftF k a n t)) l (carryR k a n (leftL k a n b)) r).1 := area_le_rows hR hR' (by omega)
        exact Or.inr ⟨d1, Int.le_antisymm w1 w2⟩
    · cases hc : clipB k a n t b
      · exact Or.inr ⟨rfl, rfl, area_le_rows hR hR' (ins_lines he hi (by omega) hc).2⟩
      · exact Or.inl rfl
  · have tt := top_cols hw
    have o := lines_ok he (f := l) (l := r) (by omega) (by omega) hq
    have hR' : rightB t (carryR k a n (leftF k a n l)) b (carryR k a n (leftL k a n r)) = true := rightB_iff.2 (by omega)
    rw [e, c]
    refine ⟨rfl, rfl, fun hi => ?_, fun hi => ?_, he⟩
    · rcases del_lines he hi (f := l) (l := r) (by omega) hq with ⟨d1, d2⟩ | ⟨d1, d2⟩
      · exact Or.inl ⟨d1, area_lt_cols hR hR' d2⟩
      · have w1 : (areaR t (carryR k a n (leftF k a n l)) b (carryR k a n (leftL k a n r))).1 ≤ (areaR t l b r).1 := area_le_cols hR' hR (by omega)
        have w2 : (areaR t l b r).1 ≤ (areaR t (carryR k a n (leftF k a n l)) b (carryR k a n (leftL k a n r))).1 := area_le_cols hR hR' (by omega)
        exact Or.inr ⟨d1, Int.le_antisymm w1 w2⟩
    · cases hc : clipB k a n l r
      · exact Or.inr ⟨rfl, rfl, area_le_cols hR hR' (ins_lines he hi (by omega) hc).2⟩
      · exact Or.inl rfl
end Go.Proofs.Ytkkoeanjmldmdab
