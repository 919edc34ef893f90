/-
  Layer 6, the plain words: a right edit, the lines that it takes, where it brings a line, a place, a rectangle.
-/
import Derived.Test.YtkkoeanjmldmdaaPl2
namespace Go.Proofs.Ytkkoeanjmldmdaa
open Go.RowKit

/-- Does a kind insert? -/
def insB (k : Int) : Bool := decide (k = 1) || decide (k = 3)
/-- Is it one of rows? -/
def rowsB (k : Int) : Bool := decide (k = 1) || decide (k = 2)
/-- The last line. -/
def topE (k : Int) : Int := if rowsB k then 1048576 else 16384
/-- A right edit. -/
def editB (k a n : Int) : Bool := decide (1 ≤ k) && decide (k ≤ 4) && decide (1 ≤ a) && decide (a ≤ topE k) && decide (1 ≤ n) && decide (n ≤ topE k - a + 1)
def editR (k a n : Int) : Int := if editB k a n then 0 else 2
/-- The first and the last line that an edit takes. -/
def lostF (k a n : Int) : Int := if insB k then topE k - n + 1 else a
def lostL (k a n : Int) : Int := if insB k then topE k else a + n - 1
def hasB (f l x : Int) : Bool := !(f == 0 && l == 0) && decide (f ≤ x) && decide (x ≤ l)
def takenB (k a n x : Int) : Bool := decide (lostF k a n ≤ x) && decide (x ≤ lostL k a n)
/-- Where a line is that is not taken. -/
def carryR (k a n x : Int) : Int := if x < a then x else if insB k then x + n else x - n
def fateR (k : Int) : Int := if insB k then 2 else 1
/-- Where a place is: row, column, fate, error. -/
def spotR (k a n r c : Int) : Int × Int × Int × Int :=
  if editB k a n && placeB r c then
    if rowsB k then (if takenB k a n r then (0, 0, fateR k, 0) else (carryR k a n r, c, 0, 0))
    else (if takenB k a n c then (0, 0, fateR k, 0) else (r, carryR k a n c, 0, 0))
  else (0, 0, 0, 2)
/-- The kind that undoes one. -/
def backK (k : Int) : Int := if k = 1 then 2 else if k = 2 then 1 else if k = 3 then 4 else 3
def backR (k a n : Int) : Int × Int × Int × Int := if editB k a n then (backK k, a, n, 0) else (0, 0, 0, 2)
/-- What is left of lines: from here .. -/
def leftF (k a n x : Int) : Int := if takenB k a n x then lostL k a n + 1 else x
/-- .. to here. -/
def leftL (k a n x : Int) : Int := if takenB k a n x then lostF k a n - 1 else x
/-- What is left of lines, behind the edit. -/
def linesR (k a n f l : Int) : Int × Int × Bool := if leftF k a n f ≤ leftL k a n l then (carryR k a n (leftF k a n f), carryR k a n (leftL k a n l), true) else (0, 0, false)
/-- What is left of a rectangle. -/
def rectR (k a n t l b r : Int) : Int × Int × Int × Int × Bool × Int :=
  if editB k a n && rightB t l b r then
    if rowsB k then (if (linesR k a n t b).2.2 then ((linesR k a n t b).1, l, (linesR k a n t b).2.1, r, true, 0) else (0, 0, 0, 0, false, 0))
    else (if (linesR k a n l r).2.2 then (t, (linesR k a n l r).1, b, (linesR k a n l r).2.1, true, 0) else (0, 0, 0, 0, false, 0))
  else (0, 0, 0, 0, false, 2)
def clipB (k a n f l : Int) : Bool := decide (max f (lostF k a n) ≤ min l (lostL k a n))
def clipR (k a n t l b r : Int) : Bool × Int := if editB k a n && rightB t l b r then (if rowsB k then clipB k a n t b else clipB k a n l r, 0) else (false, 2)

theorem editB_iff {k a n : Int} : editB k a n = true ↔ 1 ≤ k ∧ k ≤ 4 ∧ 1 ≤ a ∧ a ≤ topE k ∧ 1 ≤ n ∧ n ≤ topE k - a + 1 := by
  unfold editB; simp only [Bool.and_eq_true, decide_eq_true_eq, and_assoc]
theorem editB_kinds {k a n : Int} (h : editB k a n = true) : k = 1 ∨ k = 2 ∨ k = 3 ∨ k = 4 := by
  have := editB_iff.1 h; omega
theorem editB_no {k a n : Int} (h : editB k a n = false) : ¬ (1 ≤ k ∧ k ≤ 4 ∧ 1 ≤ a ∧ a ≤ topE k ∧ 1 ≤ n ∧ n ≤ topE k - a + 1) := by
  intro h'; rw [editB_iff.2 h'] at h; cases h
theorem editR_yes {k a n : Int} (h : editB k a n = true) : editR k a n = 0 := by simp [editR, h]
theorem editR_no {k a n : Int} (h : editB k a n = false) : editR k a n = 2 := by simp [editR, h]
theorem ins1 : insB 1 = true := rfl
theorem ins2 : insB 2 = false := rfl
theorem ins3 : insB 3 = true := rfl
theorem ins4 : insB 4 = false := rfl
theorem rows1 : rowsB 1 = true := rfl
theorem rows2 : rowsB 2 = true := rfl
theorem rows3 : rowsB 3 = false := rfl
theorem rows4 : rowsB 4 = false := rfl
theorem top1 : topE 1 = 1048576 := rfl
theorem top2 : topE 2 = 1048576 := rfl
theorem top3 : topE 3 = 16384 := rfl
theorem top4 : topE 4 = 16384 := rfl
theorem topE_two (k : Int) : topE k = 1048576 ∨ topE k = 16384 := by unfold topE; split <;> simp
theorem topE_le (k : Int) : 16384 ≤ topE k ∧ topE k ≤ 1048576 := by unfold topE; split <;> omega
/-- What an edit takes, told. -/
theorem lost_ins {k a n : Int} (h : editB k a n = true) (hi : insB k = true) : lostF k a n = topE k - n + 1 ∧ lostL k a n = topE k ∧ a ≤ lostF k a n := by
  have := editB_iff.1 h
  unfold lostF lostL; rw [if_pos hi, if_pos hi]; omega
theorem lost_del {k a n : Int} (hi : insB k = false) : lostF k a n = a ∧ lostL k a n = a + n - 1 := by
  unfold lostF lostL; rw [hi]; exact ⟨rfl, rfl⟩
theorem taken_iff {k a n x : Int} : takenB k a n x = true ↔ lostF k a n ≤ x ∧ x ≤ lostL k a n := by unfold takenB; simp
theorem taken_no {k a n x : Int} : takenB k a n x = false ↔ x < lostF k a n ∨ lostL k a n < x := by unfold takenB; simp; omega
theorem carry_low {k a n x : Int} (h : x < a) : carryR k a n x = x := by simp [carryR, h]
theorem carry_ins {k a n x : Int} (h : ¬ x < a) (hi : insB k = true) : carryR k a n x = x + n := by simp [carryR, h, hi]
theorem carry_del {k a n x : Int} (h : ¬ x < a) (hi : insB k = false) : carryR k a n x = x - n := by simp [carryR, h, hi]
/-- A line that is not taken: where it is. -/
theorem carry_is {k a n x : Int} (h : editB k a n = true) (_ : 1 ≤ x) (h2 : x ≤ topE k) (ht : takenB k a n x = false) :
    (x < a ∧ carryR k a n x = x) ∨ (a ≤ x ∧ insB k = true ∧ x + n ≤ topE k ∧ carryR k a n x = x + n) ∨ (a + n ≤ x ∧ insB k = false ∧ carryR k a n x = x - n) := by
  have g := editB_iff.1 h
  have t := taken_no.1 ht
  by_cases hx : x < a
  · exact Or.inl ⟨hx, carry_low hx⟩
  · cases hi : insB k
    · obtain ⟨e1, e2⟩ := lost_del (a := a) (n := n) hi
      exact Or.inr (Or.inr ⟨by omega, rfl, carry_del hx hi⟩)
    · obtain ⟨e1, e2, e3⟩ := lost_ins h hi
      exact Or.inr (Or.inl ⟨by omega, rfl, by omega, carry_ins hx hi⟩)
theorem carry_fits {k a n x : Int} (h : editB k a n = true) (h1 : 1 ≤ x) (h2 : x ≤ topE k) (ht : takenB k a n x = false) : 1 ≤ carryR k a n x ∧ carryR k a n x ≤ topE k := by
  have g := editB_iff.1 h
  rcases carry_is h h1 h2 ht with ⟨_, e⟩ | ⟨_, _, _, e⟩ | ⟨_, _, e⟩ <;> rw [e] <;> omega
/-- The order. -/
theorem carry_lt {k a n x y : Int} (h : editB k a n = true) (h1 : 1 ≤ x) (h2 : x ≤ topE k) (ht : takenB k a n x = false) (h3 : 1 ≤ y) (h4 : y ≤ topE k) (hu : takenB k a n y = false) : x < y ↔ carryR k a n x < carryR k a n y := by
  have g := editB_iff.1 h
  rcases carry_is h h1 h2 ht with ⟨_, e⟩ | ⟨_, i, _, e⟩ | ⟨_, i, e⟩ <;> rcases carry_is h h3 h4 hu with ⟨_, e'⟩ | ⟨_, i', _, e'⟩ | ⟨_, i', e'⟩ <;> rw [e, e'] <;> first | omega | (rw [i] at i'; cases i')
theorem spotR_no {k a n r c : Int} (h : editB k a n = false ∨ placeB r c = false) : spotR k a n r c = (0, 0, 0, 2) := by
  unfold spotR; rcases h with h | h <;> simp [h]
theorem spotR_row {k a n r c : Int} (h : editB k a n = true) (hp : placeB r c = true) (hr : rowsB k = true) : spotR k a n r c = if takenB k a n r then (0, 0, fateR k, 0) else (carryR k a n r, c, 0, 0) := by
  unfold spotR; simp [h, hp, hr]
theorem spotR_col {k a n r c : Int} (h : editB k a n = true) (hp : placeB r c = true) (hr : rowsB k = false) : spotR k a n r c = if takenB k a n c then (0, 0, fateR k, 0) else (r, carryR k a n c, 0, 0) := by
  unfold spotR; simp [h, hp, hr]
theorem top_rows {k : Int} (h : rowsB k = true) : topE k = 1048576 := by simp [topE, h]
theorem top_cols {k : Int} (h : rowsB k = false) : topE k = 16384 := by simp [topE, h]
/-- A place stays, or it is gone or off: then there is none. -/
theorem spot_cases (k a n r c : Int) : (spotR k a n r c = (0, 0, 0, 2) ∧ (editB k a n = false ∨ placeB r c = false)) ∨
    (editB k a n = true ∧ placeB r c = true ∧ ∃ f, (f = 1 ∨ f = 2) ∧ spotR k a n r c = (0, 0, f, 0)) ∨
    (editB k a n = true ∧ placeB r c = true ∧ rowsB k = true ∧ takenB k a n r = false ∧ spotR k a n r c = (carryR k a n r, c, 0, 0)) ∨
    (editB k a n = true ∧ placeB r c = true ∧ rowsB k = false ∧ takenB k a n c = false ∧ spotR k a n r c = (r, carryR k a n c, 0, 0)) := by
  cases h : editB k a n
  · exact Or.inl ⟨spotR_no (Or.inl h), Or.inl rfl⟩
  · cases hp : placeB r c
    · exact Or.inl ⟨spotR_no (Or.inr hp), Or.inr rfl⟩
    · have hf : fateR k = 1 ∨ fateR k = 2 := by unfold fateR; split <;> simp
      cases hr : rowsB k
      · rw [spotR_col h hp hr]
        cases ht : takenB k a n c
        · exact Or.inr (Or.inr (Or.inr ⟨rfl, rfl, rfl, rfl, by simp⟩))
        · exact Or.inr (Or.inl ⟨rfl, rfl, _, hf, by simp⟩)
      · rw [spotR_row h hp hr]
        cases ht : takenB k a n r
        · exact Or.inr (Or.inr (Or.inl ⟨rfl, rfl, rfl, rfl, by simp⟩))
        · exact Or.inr (Or.inl ⟨rfl, rfl, _, hf, by simp⟩)
theorem rectR_no {k a n t l b r : Int} (h : editB k a n = false ∨ rightB t l b r = false) : rectR k a n t l b r = (0, 0, 0, 0, false, 2) := by
  unfold rectR; rcases h with h | h <;> simp [h]
theorem rectR_row {k a n t l b r : Int} (h : editB k a n = true) (hp : rightB t l b r = true) (hr : rowsB k = true) : rectR k a n t l b r = if (linesR k a n t b).2.2 then ((linesR k a n t b).1, l, (linesR k a n t b).2.1, r, true, 0) else (0, 0, 0, 0, false, 0) := by
  unfold rectR; simp [h, hp, hr]
theorem rectR_col {k a n t l b r : Int} (h : editB k a n = true) (hp : rightB t l b r = true) (hr : rowsB k = false) : rectR k a n t l b r = if (linesR k a n l r).2.2 then (t, (linesR k a n l r).1, b, (linesR k a n l r).2.1, true, 0) else (0, 0, 0, 0, false, 0) := by
  unfold rectR; simp [h, hp, hr]
theorem clipR_no {k a n t l b r : Int} (h : editB k a n = false ∨ rightB t l b r = false) : clipR k a n t l b r = (false, 2) := by
  unfold clipR; rcases h with h | h <;> simp [h]
theorem clipR_row {k a n t l b r : Int} (h : editB k a n = true) (hp : rightB t l b r = true) (hr : rowsB k = true) : clipR k a n t l b r = (clipB k a n t b, 0) := by
  unfold clipR; simp [h, hp, hr]
theorem clipR_col {k a n t l b r : Int} (h : editB k a n = true) (hp : rightB t l b r = true) (hr : rowsB k = false) : clipR k a n t l b r = (clipB k a n l r, 0) := by
  unfold clipR; simp [h, hp, hr]
theorem clip_iff {k a n f l : Int} : clipB k a n f l = true ↔ f ≤ lostL k a n ∧ lostF k a n ≤ l ∧ f ≤ l ∧ lostF k a n ≤ lostL k a n := by unfold clipB; simp only [decide_eq_true_eq]; omega
theorem linesR_yes {k a n f l : Int} (h : leftF k a n f ≤ leftL k a n l) : linesR k a n f l = (carryR k a n (leftF k a n f), carryR k a n (leftL k a n l), true) := by simp [linesR, h]
theorem linesR_no {k a n f l : Int} (h : ¬ leftF k a n f ≤ leftL k a n l) : linesR k a n f l = (0, 0, false) := by simp [linesR, h]
theorem backR_yes {k a n : Int} (h : editB k a n = true) : backR k a n = (backK k, a, n, 0) := by simp [backR, h]
theorem backR_no {k a n : Int} (h : editB k a n = false) : backR k a n = (0, 0, 0, 2) := by simp [backR, h]
theorem leftF_yes {k a n x : Int} (h : takenB k a n x = true) : leftF k a n x = lostL k a n + 1 := by simp [leftF, h]
theorem leftF_no {k a n x : Int} (h : takenB k a n x = false) : leftF k a n x = x := by simp [leftF, h]
theorem leftL_yes {k a n x : Int} (h : takenB k a n x = true) : leftL k a n x = lostF k a n - 1 := by simp [leftL, h]
theorem leftL_no {k a n x : Int} (h : takenB k a n x = false) : leftL k a n x = x := by simp [leftL, h]
theorem lost_ord {k a n : Int} (h : editB k a n = true) : 1 ≤ lostF k a n ∧ lostF k a n ≤ lostL k a n ∧ lostL k a n ≤ topE k := by
  have g := editB_iff.1 h
  cases hi : insB k
  · obtain ⟨e1, e2⟩ := lost_del (a := a) (n := n) hi; omega
  · obtain ⟨e1, e2, e3⟩ := lost_ins h hi; omega
theorem left_bounds {k a n f l : Int} (h : editB k a n = true) (hq : leftF k a n f ≤ leftL k a n l) :
    f ≤ leftF k a n f ∧ leftL k a n l ≤ l ∧ takenB k a n (leftF k a n f) = false ∧ takenB k a n (leftL k a n l) = false ∧ (∀ x, f ≤ x → x ≤ l → takenB k a n x = false → leftF k a n f ≤ x ∧ x ≤ leftL k a n l) := by
  have ord := lost_ord h
  have key : ∀ x, takenB k a n x = false → x < lostF k a n ∨ lostL k a n < x := fun x => taken_no.1
  cases hf : takenB k a n f <;> cases hl : takenB k a n l
  · rw [leftF_no hf] at *
    rw [leftL_no hl] at *
    exact ⟨by omega, by omega, hf, hl, fun x _ _ _ => ⟨by omega, by omega⟩⟩
  · rw [leftF_no hf] at *
    rw [leftL_yes hl] at *
    have q := taken_iff.1 hl
    exact ⟨by omega, by omega, hf, taken_no.2 (by omega), fun x _ _ hx => by have := key x hx; omega⟩
  · rw [leftF_yes hf] at *
    rw [leftL_no hl] at *
    have q := taken_iff.1 hf
    exact ⟨by omega, by omega, taken_no.2 (by omega), hl, fun x _ _ hx => by have := key x hx; omega⟩
  · rw [leftF_yes hf] at *
    rw [leftL_yes hl] at *
    omega
theorem left_none {k a n f l x : Int} (h : editB k a n = true) (hq : ¬ leftF k a n f ≤ leftL k a n l) (h1 : f ≤ x) (h2 : x ≤ l) : takenB k a n x = true := by
  have ord := lost_ord h
  cases hf : takenB k a n f <;> cases hl : takenB k a n l
  · rw [leftF_no hf, leftL_no hl] at hq; omega
  · rw [leftF_no hf, leftL_yes hl] at hq
    have q := taken_iff.1 hl
    have := taken_no.1 hf
    exact taken_iff.2 (by omega)
  · rw [leftF_yes hf, leftL_no hl] at hq
    have q := taken_iff.1 hf
    have := taken_no.1 hl
    exact taken_iff.2 (by omega)
  · have q := taken_iff.1 hf
    have := taken_iff.1 hl
    exact taken_iff.2 (by omega)
theorem lines_ok {k a n f l : Int} (h : editB k a n = true) (h1 : 1 ≤ f) (h3 : l ≤ topE k) (hq : leftF k a n f ≤ leftL k a n l) :
    1 ≤ leftF k a n f ∧ leftL k a n l ≤ topE k ∧ 1 ≤ carryR k a n (leftF k a n f) ∧ carryR k a n (leftF k a n f) ≤ carryR k a n (leftL k a n l) ∧ carryR k a n (leftL k a n l) ≤ topE k := by
  obtain ⟨b1, b2, b3, b4, _⟩ := left_bounds h hq
  have c1 := carry_fits h (x := leftF k a n f) (by omega) (by omega) b3
  have c2 := carry_fits h (x := leftL k a n l) (by omega) (by omega) b4
  have c3 := carry_lt h (x := leftL k a n l) (y := leftF k a n f) (by omega) (by omega) b4 (by omega) (by omega) b3
  refine ⟨by omega, by omega, c1.1, ?_, c2.2⟩
  rcases Int.lt_or_le (carryR k a n (leftL k a n l)) (carryR k a n (leftF k a n f)) with c | c
  · have := c3.2 c; omega
  · exact c
end Go.Proofs.Ytkkoeanjmldmdaa
