/-
  Out of Mv0, MvMath, Mv1, Mv2, Mv3, Mv4, what is asked for (laid by pack9.py).
-/
import Derived.Test.YtfpmmckpobpokaaGreatMVPla6
set_option maxRecDepth 100000
set_option maxHeartbeats 4000000
namespace Go.Proofs.YtfpmmckpobpokaaGreat.Pla
section
open Go.RowKit
def insB (k : Int) : Bool := decide (k = 1) || decide (k = 3)
def rowsB (k : Int) : Bool := decide (k = 1) || decide (k = 2)
def topE (k : Int) : Int := if rowsB k then 1048576 else 16384
def editB (k a n : Int) : Bool := decide (1 ≤ k) && decide (k ≤ 4) && decide (1 ≤ a) && decide (a ≤ topE k) && decide (1 ≤ n) && decide (n ≤ topE k - a + 1)
def editR (k a n : Int) : Int := if editB k a n then 0 else 2
def lostF (k a n : Int) : Int := if insB k then topE k - n + 1 else a
def lostL (k a n : Int) : Int := if insB k then topE k else a + n - 1
def takenB (k a n x : Int) : Bool := decide (lostF k a n ≤ x) && decide (x ≤ lostL k a n)
def carryR (k a n x : Int) : Int := if x < a then x else if insB k then x + n else x - n
def fateR (k : Int) : Int := if insB k then 2 else 1
def spotR (k a n r c : Int) : Int × Int × Int × Int :=
 if editB k a n && placeB r c then
  if rowsB k then (if takenB k a n r then (0, 0, fateR k, 0) else (carryR k a n r, c, 0, 0))
  else (if takenB k a n c then (0, 0, fateR k, 0) else (r, carryR k a n c, 0, 0))
 else (0, 0, 0, 2)
def leftF (k a n x : Int) : Int := if takenB k a n x then lostL k a n + 1 else x
def leftL (k a n x : Int) : Int := if takenB k a n x then lostF k a n - 1 else x
def linesR (k a n f l : Int) : Int × Int × Bool := if leftF k a n f ≤ leftL k a n l then (carryR k a n (leftF k a n f), carryR k a n (leftL k a n l), true) else (0, 0, false)
def rectR (k a n t l b r : Int) : Int × Int × Int × Int × Bool × Int :=
 if editB k a n && rightB t l b r then
  if rowsB k then (if (linesR k a n t b).2.2 then ((linesR k a n t b).1, l, (linesR k a n t b).2.1, r, true, 0) else (0, 0, 0, 0, false, 0))
  else (if (linesR k a n l r).2.2 then (t, (linesR k a n l r).1, b, (linesR k a n l r).2.1, true, 0) else (0, 0, 0, 0, false, 0))
 else (0, 0, 0, 0, false, 2)
def clipB (k a n f l : Int) : Bool := decide (max f (lostF k a n) ≤ min l (lostL k a n))
def clipR (k a n t l b r : Int) : Bool × Int := if editB k a n && rightB t l b r then (if rowsB k then clipB k a n t b else clipB k a n l r, 0) else (false, 2)
theorem editB_iff {k a n : Int} : editB k a n = true ↔ 1 ≤ k ∧ k ≤ 4 ∧ 1 ≤ a ∧ a ≤ topE k ∧ 1 ≤ n ∧ n ≤ topE k - a + 1 := by
 unfold editB; simp only [Bool.and_eq_true, decide_eq_true_eq, and_assoc]
theorem editB_kinds {k a n : Int} (h : editB k a n = true) : k = 1 ∨ k = 2 ∨ k = 3 ∨ k = 4 := by
 have := editB_iff.1 h; omega
theorem editR_yes {k a n : Int} (h : editB k a n = true) : editR k a n = 0 := by simp [editR, h]
theorem editR_no {k a n : Int} (h : editB k a n = false) : editR k a n = 2 := by simp [editR, h]
theorem ins1 : insB 1 = true := rfl
theorem ins2 : insB 2 = false := rfl
theorem ins3 : insB 3 = true := rfl
theorem ins4 : insB 4 = false := rfl
theorem top1 : topE 1 = 1048576 := rfl
theorem top3 : topE 3 = 16384 := rfl
theorem topE_le (k : Int) : 16384 ≤ topE k ∧ topE k ≤ 1048576 := by unfold topE; split <;> omega
theorem lost_ins {k a n : Int} (h : editB k a n = true) (hi : insB k = true) : lostF k a n = topE k - n + 1 ∧ lostL k a n = topE k ∧ a ≤ lostF k a n := by
 have := editB_iff.1 h
 unfold lostF lostL; rw [if_pos hi, if_pos hi]; omega
theorem lost_del {k a n : Int} (hi : insB k = false) : lostF k a n = a ∧ lostL k a n = a + n - 1 := by
 unfold lostF lostL; rw [hi]; exact ⟨rfl, rfl⟩
theorem taken_iff {k a n x : Int} : takenB k a n x = true ↔ lostF k a n ≤ x ∧ x ≤ lostL k a n := by unfold takenB; simp
theorem taken_no {k a n x : Int} : takenB k a n x = false ↔ x < lostF k a n ∨ lostL k a n < x := by unfold takenB; simp; omega
theorem carry_low {k a n x : Int} (h : x < a) : carryR k a n x = x := by simp [carryR, h]
theorem carry_ins {k a n x : Int} (h : ¬ x < a) (hi : insB k = true) : carryR k a n x = x + n := by simp [carryR, h, hi]
theorem carry_del {k a n x : Int} (h : ¬ x < a) (hi : insB k = false) : carryR k a n x = x - n := by simp [carryR, h, hi]
theorem carry_is {k a n x : Int} (h : editB k a n = true) (_ : 1 ≤ x) (h2 : x ≤ topE k) (ht : takenB k a n x = false) :
  (x < a ∧ carryR k a n x = x) ∨ (a ≤ x ∧ insB k = true ∧ x + n ≤ topE k ∧ carryR k a n x = x + n) ∨ (a + n ≤ x ∧ insB k = false ∧ carryR k a n x = x - n) := by
 have g := editB_iff.1 h
 have t := taken_no.1 ht
 by_cases hx : x < a
 ·
  exact Or.inl ⟨hx, carry_low hx⟩
 ·
  cases hi : insB k
  ·
   obtain ⟨e1, e2⟩ := lost_del (a := a) (n := n) hi
   exact Or.inr (Or.inr ⟨by omega, rfl, carry_del hx hi⟩)
  ·
   obtain ⟨e1, e2, e3⟩ := lost_ins h hi
   exact Or.inr (Or.inl ⟨by omega, rfl, by omega, carry_ins hx hi⟩)
theorem carry_fits {k a n x : Int} (h : editB k a n = true) (h1 : 1 ≤ x) (h2 : x ≤ topE k) (ht : takenB k a n x = false) : 1 ≤ carryR k a n x ∧ carryR k a n x ≤ topE k := by
 have g := editB_iff.1 h
 rcases carry_is h h1 h2 ht with ⟨_, e⟩ | ⟨_, _, _, e⟩ | ⟨_, _, e⟩ <;> rw [e] <;> omega
theorem carry_lt {k a n x y : Int} (h : editB k a n = true) (h1 : 1 ≤ x) (h2 : x ≤ topE k) (ht : takenB k a n x = false) (h3 : 1 ≤ y) (h4 : y ≤ topE k) (hu : takenB k a n y = false) : x < y ↔ carryR k a n x < carryR k a n y := by
 have g := editB_iff.1 h
 rcases carry_is h h1 h2 ht with ⟨_, e⟩ | ⟨_, i, _, e⟩ | ⟨_, i, e⟩ <;> rcases carry_is h h3 h4 hu with ⟨_, e'⟩ | ⟨_, i', _, e'⟩ | ⟨_, i', e'⟩ <;> rw [e, e'] <;> first | omega | (rw [i] at i'; cases i')
theorem spotR_no {k a n r c : Int} (h : editB k a n = false ∨ placeB r c = false) : spotR k a n r c = (0, 0, 0, 2) := by
 unfold spotR; rcases h with h | h <;> simp [h]
theorem spotR_row {k a n r c : Int} (h : editB k a n = true) (hp : placeB r c = true) (hr : rowsB k = true) : spotR k a n r c = if takenB k a n r then (0, 0, fateR k, 0) else (carryR k a n r, c, 0, 0) := by
 unfold spotR; simp [h, hp, hr]
theorem spotR_col {k a n r c : Int} (h : editB k a n = true) (hp : placeB r c = true) (hr : rowsB k = false) : spotR k a n r c = if takenB k a n c then (0, 0, fateR k, 0) else (r, carryR k a n c, 0, 0) := by
 unfold spotR; simp [h, hp, hr]
theorem top_rows {k : Int} (h : rowsB k = true) : topE k = 1048576 := by simp [topE, h]
theorem top_cols {k : Int} (h : rowsB k = false) : topE k = 16384 := by simp [topE, h]
theorem spot_cases (k a n r c : Int) : (spotR k a n r c = (0, 0, 0, 2) ∧ (editB k a n = false ∨ placeB r c = false)) ∨
  (editB k a n = true ∧ placeB r c = true ∧ ∃ f, (f = 1 ∨ f = 2) ∧ spotR k a n r c = (0, 0, f, 0)) ∨
  (editB k a n = true ∧ placeB r c = true ∧ rowsB k = true ∧ takenB k a n r = false ∧ spotR k a n r c = (carryR k a n r, c, 0, 0)) ∨
  (editB k a n = true ∧ placeB r c = true ∧ rowsB k = false ∧ takenB k a n c = false ∧ spotR k a n r c = (r, carryR k a n c, 0, 0)) := by
 cases h : editB k a n
 ·
  exact Or.inl ⟨spotR_no (Or.inl h), Or.inl rfl⟩
 ·
  cases hp : placeB r c
  ·
   exact Or.inl ⟨spotR_no (Or.inr hp), Or.inr rfl⟩
  ·
   have hf : fateR k = 1 ∨ fateR k = 2 := by unfold fateR; split <;> simp
   cases hr : rowsB k
   ·
    rw [spotR_col h hp hr]
    cases ht : takenB k a n c
    ·
     exact Or.inr (Or.inr (Or.inr ⟨rfl, rfl, rfl, rfl, by simp⟩))
    ·
     exact Or.inr (Or.inl ⟨rfl, rfl, _, hf, by simp⟩)
   ·
    rw [spotR_row h hp hr]
    cases ht : takenB k a n r
    ·
     exact Or.inr (Or.inr (Or.inl ⟨rfl, rfl, rfl, rfl, by simp⟩))
    ·
     exact Or.inr (Or.inl ⟨rfl, rfl, _, hf, by simp⟩)
theorem rectR_no {k a n t l b r : Int} (h : editB k a n = false ∨ rightB t l b r = false) : rectR k a n t l b r = (0, 0, 0, 0, false, 2) := by
 unfold rectR; rcases h with h | h <;> simp [h]
theorem rectR_row {k a n t l b r : Int} (h : editB k a n = true) (hp : rightB t l b r = true) (hr : rowsB k = true) : rectR k a n t l b r = if (linesR k a n t b).2.2 then ((linesR k a n t b).1, l, (linesR k a n t b).2.1, r, true, 0) else (0, 0, 0, 0, false, 0) := by
 unfold rectR; simp [h, hp, hr]
theorem rectR_col {k a n t l b r : Int} (h : editB k a n = true) (hp : rightB t l b r = true) (hr : rowsB k = false) : rectR k a n t l b r = if (linesR k a n l r).2.2 then (t, (linesR k a n l r).1, b, (linesR k a n l r).2.1, true, 0) else (0, 0, 0, 0, false, 0) := by
 unfold rectR; simp [h, hp, hr]
theorem clipR_no {k a n t l b r : Int} (h : editB k a n = false ∨ rightB t l b r = false) : clipR k a n t l b r = (false, 2) := by
 unfold clipR; rcases h with h | h <;> simp [h]
theorem clipR_row {k a n t l b r : Int} (h : editB k a n = true) (hp : rightB t l b r = true) (hr : rowsB k = true) : clipR k a n t l b r = (clipB k a n t b, 0) := by
 unfold clipR; simp [h, hp, hr]
theorem clipR_col {k a n t l b r : Int} (h : editB k a n = true) (hp : rightB t l b r = true) (hr : rowsB k = false) : clipR k a n t l b r = (clipB k a n l r, 0) := by
 unfold clipR; simp [h, hp, hr]
theorem linesR_yes {k a n f l : Int} (h : leftF k a n f ≤ leftL k a n l) : linesR k a n f l = (carryR k a n (leftF k a n f), carryR k a n (leftL k a n l), true) := by simp [linesR, h]
theorem linesR_no {k a n f l : Int} (h : ¬ leftF k a n f ≤ leftL k a n l) : linesR k a n f l = (0, 0, false) := by simp [linesR, h]
theorem leftF_yes {k a n x : Int} (h : takenB k a n x = true) : leftF k a n x = lostL k a n + 1 := by simp [leftF, h]
theorem leftF_no {k a n x : Int} (h : takenB k a n x = false) : leftF k a n x = x := by simp [leftF, h]
theorem leftL_yes {k a n x : Int} (h : takenB k a n x = true) : leftL k a n x = lostF k a n - 1 := by simp [leftL, h]
theorem leftL_no {k a n x : Int} (h : takenB k a n x = false) : leftL k a n x = x := by simp [leftL, h]
theorem lost_ord {k a n : Int} (h : editB k a n = true) : 1 ≤ lostF k a n ∧ lostF k a n ≤ lostL k a n ∧ lostL k a n ≤ topE k := by
 have g := editB_iff.1 h
 cases hi : insB k
 ·
  obtain ⟨e1, e2⟩ := lost_del (a := a) (n := n) hi; omega
 ·
  obtain ⟨e1, e2, e3⟩ := lost_ins h hi; omega
theorem left_bounds {k a n f l : Int} (h : editB k a n = true) (hq : leftF k a n f ≤ leftL k a n l) :
  f ≤ leftF k a n f ∧ leftL k a n l ≤ l ∧ takenB k a n (leftF k a n f) = false ∧ takenB k a n (leftL k a n l) = false ∧ (∀ x, f ≤ x → x ≤ l → takenB k a n x = false → leftF k a n f ≤ x ∧ x ≤ leftL k a n l) := by
 have ord := lost_ord h
 have key : ∀ x, takenB k a n x = false → x < lostF k a n ∨ lostL k a n < x := fun x => taken_no.1
 cases hf : takenB k a n f <;> cases hl : takenB k a n l
 ·
  rw [leftF_no hf] at *
  rw [leftL_no hl] at *
  exact ⟨by omega, by omega, hf, hl, fun x _ _ _ => ⟨by omega, by omega⟩⟩
 ·
  rw [leftF_no hf] at *
  rw [leftL_yes hl] at *
  have q := taken_iff.1 hl
  exact ⟨by omega, by omega, hf, taken_no.2 (by omega), fun x _ _ hx => by have := key x hx; omega⟩
 ·
  rw [leftF_yes hf] at *
  rw [leftL_no hl] at *
  have q := taken_iff.1 hf
  exact ⟨by omega, by omega, taken_no.2 (by omega), hl, fun x _ _ hx => by have := key x hx; omega⟩
 ·
  rw [leftF_yes hf] at *
  rw [leftL_yes hl] at *
  omega
theorem lines_ok {k a n f l : Int} (h : editB k a n = true) (h1 : 1 ≤ f) (h3 : l ≤ topE k) (hq : leftF k a n f ≤ leftL k a n l) :
  1 ≤ leftF k a n f ∧ leftL k a n l ≤ topE k ∧ 1 ≤ carryR k a n (leftF k a n f) ∧ carryR k a n (leftF k a n f) ≤ carryR k a n (leftL k a n l) ∧ carryR k a n (leftL k a n l) ≤ topE k := by
 obtain ⟨b1, b2, b3, b4, _⟩ := left_bounds h hq
 have c1 := carry_fits h (x := leftF k a n f) (by omega) (by omega) b3
 have c2 := carry_fits h (x := leftL k a n l) (by omega) (by omega) b4
 have c3 := carry_lt h (x := leftL k a n l) (y := leftF k a n f) (by omega) (by omega) b4 (by omega) (by omega) b3
 refine ⟨by omega, by omega, c1.1, ?_, c2.2⟩
 rcases Int.lt_or_le (carryR k a n (leftL k a n l)) (carryR k a n (leftF k a n f)) with c | c
 ·
  have := c3.2 c; omega
 ·
  exact c
end
section
open Go.RowKit
theorem rect_cases (k a n t l b r : Int) : (rectR k a n t l b r = (0, 0, 0, 0, false, 2) ∧ clipR k a n t l b r = (false, 2) ∧ (editB k a n = false ∨ rightB t l b r = false)) ∨
  (editB k a n = true ∧ rightB t l b r = true ∧ rowsB k = true ∧ ¬ leftF k a n t ≤ leftL k a n b ∧ rectR k a n t l b r = (0, 0, 0, 0, false, 0) ∧ clipR k a n t l b r = (clipB k a n t b, 0)) ∨
  (editB k a n = true ∧ rightB t l b r = true ∧ rowsB k = false ∧ ¬ leftF k a n l ≤ leftL k a n r ∧ rectR k a n t l b r = (0, 0, 0, 0, false, 0) ∧ clipR k a n t l b r = (clipB k a n l r, 0)) ∨
  (editB k a n = true ∧ rightB t l b r = true ∧ rowsB k = true ∧ leftF k a n t ≤ leftL k a n b ∧ rectR k a n t l b r = (carryR k a n (leftF k a n t), l, carryR k a n (leftL k a n b), r, true, 0) ∧ clipR k a n t l b r = (clipB k a n t b, 0)) ∨
  (editB k a n = true ∧ rightB t l b r = true ∧ rowsB k = false ∧ leftF k a n l ≤ leftL k a n r ∧ rectR k a n t l b r = (t, carryR k a n (leftF k a n l), b, carryR k a n (leftL k a n r), true, 0) ∧ clipR k a n t l b r = (clipB k a n l r, 0)) := by
 cases h : editB k a n
 ·
  exact Or.inl ⟨rectR_no (Or.inl h), clipR_no (Or.inl h), Or.inl rfl⟩
 ·
  cases hp : rightB t l b r
  ·
   exact Or.inl ⟨rectR_no (Or.inr hp), clipR_no (Or.inr hp), Or.inr rfl⟩
  ·
   cases hr : rowsB k
   ·
    by_cases hq : leftF k a n l ≤ leftL k a n r
    ·
     exact Or.inr (Or.inr (Or.inr (Or.inr ⟨rfl, rfl, rfl, hq, by rw [rectR_col h hp hr, linesR_yes hq]; simp, clipR_col h hp hr⟩)))
    ·
     exact Or.inr (Or.inr (Or.inl ⟨rfl, rfl, rfl, hq, by rw [rectR_col h hp hr, linesR_no hq]; simp, clipR_col h hp hr⟩))
   ·
    by_cases hq : leftF k a n t ≤ leftL k a n b
    ·
     exact Or.inr (Or.inr (Or.inr (Or.inl ⟨rfl, rfl, rfl, hq, by rw [rectR_row h hp hr, linesR_yes hq]; simp, clipR_row h hp hr⟩)))
    ·
     exact Or.inr (Or.inl ⟨rfl, rfl, rfl, hq, by rw [rectR_row h hp hr, linesR_no hq]; simp, clipR_row h hp hr⟩)
end
section
open Go.RowKit
def At3 (w : World) (b : Nat) (x y u : Int) : Prop := b < w.heap.size ∧ w.cell? ⟨b, 0, none⟩ = some (.int .i64 x) ∧ w.cell? ⟨b, 1, none⟩ = some (.int .i64 y) ∧ w.cell? ⟨b, 2, none⟩ = some (.int .i64 u)
theorem At3.new (w : World) (x y u : Int) (t : TypeId) : At3 (w.alloc (.cells #[.int .i64 x, .int .i64 y, .int .i64 u] t)) w.heap.size x y u := ⟨by simp, by simp [go_sem], by simp [go_sem], by simp [go_sem]⟩
theorem At3.below {w w' : World} {b : Nat} {x y u : Int} (h : At3 w b x y u) (k : Below w.heap.size w w') : At3 w' b x y u :=
 ⟨Nat.lt_of_lt_of_le h.1 k.size, by rw [k.cell (p := ⟨b, 0, none⟩) h.1]; exact h.2.1, by rw [k.cell (p := ⟨b, 1, none⟩) h.1]; exact h.2.2.1, by rw [k.cell (p := ⟨b, 2, none⟩) h.1]; exact h.2.2.2⟩
theorem At3.alloc {w : World} {b : Nat} {x y u : Int} (h : At3 w b x y u) (o : Obj) : At3 (w.alloc o) b x y u := h.below ((Below.refl _ _).alloc (Nat.le_refl _) o)
def Has2 (w : World) (b : Nat) (x y : Int) : Prop := At2 w b x y ∧ w.frozen? ⟨b, 0, none⟩ = false ∧ w.frozen? ⟨b, 1, none⟩ = false
theorem Has2.new (w : World) (x y : Int) (t : TypeId) : Has2 (w.alloc (.cells #[.int .i64 x, .int .i64 y] t)) w.heap.size x y := ⟨At2.new w x y t, by simp, by simp⟩
theorem Has2.below {w w' : World} {b : Nat} {x y : Int} (h : Has2 w b x y) (k : Below w.heap.size w w') : Has2 w' b x y :=
 ⟨h.1.below k, by rw [k.frozen (p := ⟨b, 0, none⟩) h.1.1]; exact h.2.1, by rw [k.frozen (p := ⟨b, 1, none⟩) h.1.1]; exact h.2.2⟩
theorem Has2.alloc {w : World} {b : Nat} {x y : Int} (h : Has2 w b x y) (o : Obj) : Has2 (w.alloc o) b x y := h.below ((Below.refl _ _).alloc (Nat.le_refl _) o)
def Has3 (w : World) (b : Nat) (x y u : Int) : Prop := At3 w b x y u ∧ w.frozen? ⟨b, 0, none⟩ = false ∧ w.frozen? ⟨b, 1, none⟩ = false ∧ w.frozen? ⟨b, 2, none⟩ = false
theorem Has3.new (w : World) (x y u : Int) (t : TypeId) : Has3 (w.alloc (.cells #[.int .i64 x, .int .i64 y, .int .i64 u] t)) w.heap.size x y u := ⟨At3.new w x y u t, by simp, by simp, by simp⟩
theorem Has3.below {w w' : World} {b : Nat} {x y u : Int} (h : Has3 w b x y u) (k : Below w.heap.size w w') : Has3 w' b x y u :=
 ⟨h.1.below k, by rw [k.frozen (p := ⟨b, 0, none⟩) h.1.1]; exact h.2.1, by rw [k.frozen (p := ⟨b, 1, none⟩) h.1.1]; exact h.2.2.1, by rw [k.frozen (p := ⟨b, 2, none⟩) h.1.1]; exact h.2.2.2⟩
theorem Has3.alloc {w : World} {b : Nat} {x y u : Int} (h : Has3 w b x y u) (o : Obj) : Has3 (w.alloc o) b x y u := h.below ((Below.refl _ _).alloc (Nat.le_refl _) o)
def wholeL (k : Int) : Int := if 1 ≤ k ∧ k ≤ 4 then topE k else 0
def wholeF (k : Int) : Int := if 1 ≤ k ∧ k ≤ 4 then 1 else 0
theorem inserts_any (k : Int) (w : World) :
  Calls Tryz.prog 75 #[.int .i64 k] w fun e w' => e = .returned (.bool (insB k)) ∧ w' = w := by
 by_cases h1 : k = 1
 ·
  subst h1
  go_enter Tryz.func75, Tryz.ntmps75
  go_wp2
  go_ret
  exact ⟨rfl, rfl⟩
 ·
  by_cases h3 : k = 3
  ·
   subst h3
   go_enter Tryz.func75, Tryz.ntmps75
   go_wp2
   go_ret
   exact ⟨rfl, rfl⟩
  ·
   have e : insB k = false := by simp [insB, h1, h3]
   have e1 : (k == 1) = false := by simpa using h1
   have e3 : (k == 3) = false := by simpa using h3
   rw [e]
   clear e h1 h3
   go_enter Tryz.func75, Tryz.ntmps75
   go_wp2
   go_ret
   exact ⟨rfl, rfl⟩
theorem whole_any (k : Int) (w : World) :
  Calls Tryz.prog 59 #[.int .i64 k] w fun e w' => e = .returned (.agg #[.int .i64 (wholeF k), .int .i64 (wholeL k)]) ∧ Below w.heap.size w w' := by
 by_cases h1 : k = 1
 ·
  subst h1
  go_enter Tryz.func59, Tryz.ntmps59
  go_wp2
  refine bodyPost_ret (v := .agg #[.int .i64 1, .int .i64 1048576]) (by simp [results, Tryz.results59, go_sem]) rfl ⟨rfl, ?_⟩
  exact bl
 by_cases h2 : k = 2
 ·
  subst h2
  go_enter Tryz.func59, Tryz.ntmps59
  go_wp2
  refine bodyPost_ret (v := .agg #[.int .i64 1, .int .i64 1048576]) (by simp [results, Tryz.results59, go_sem]) rfl ⟨rfl, ?_⟩
  exact bl
 by_cases h3 : k = 3
 ·
  subst h3
  go_enter Tryz.func59, Tryz.ntmps59
  go_wp2
  refine bodyPost_ret (v := .agg #[.int .i64 1, .int .i64 16384]) (by simp [results, Tryz.results59, go_sem]) rfl ⟨rfl, ?_⟩
  exact bl
 by_cases h4 : k = 4
 ·
  subst h4
  go_enter Tryz.func59, Tryz.ntmps59
  go_wp2
  refine bodyPost_ret (v := .agg #[.int .i64 1, .int .i64 16384]) (by simp [results, Tryz.results59, go_sem]) rfl ⟨rfl, ?_⟩
  exact bl
 have h : ¬ (1 ≤ k ∧ k ≤ 4) := by omega
 have e : wholeF k = 0 := by unfold wholeF; rw [if_neg h]
 have e' : wholeL k = 0 := by unfold wholeL; rw [if_neg h]
 have e1 : (k == 1) = false := by simpa using h1
 have e2 : (k == 2) = false := by simpa using h2
 have e3 : (k == 3) = false := by simpa using h3
 have e4 : (k == 4) = false := by simpa using h4
 rw [e, e']
 clear e e' h h1 h2 h3 h4
 go_enter Tryz.func59, Tryz.ntmps59
 go_wp2
 refine bodyPost_ret (v := .agg #[.int .i64 0, .int .i64 0]) (by simp [results, Tryz.results59, go_sem]) rfl ⟨rfl, ?_⟩
 exact bl
theorem fate_any (k : Int) (w : World) :
  Calls Tryz.prog 44 #[.int .i64 k] w fun e w' => e = .returned (.int .i64 (fateR k)) ∧ w' = w := by
 have HI : Hid (∀ W : World, Calls Tryz.prog 75 #[.int .i64 k] W fun e w' => e = .returned (.bool (insB k)) ∧ w' = W) := fun W => inserts_any k W
 unfold fateR
 cases h : insB k
 ·
  rw [h] at HI
  clear h
  go_enter Tryz.func44, Tryz.ntmps44
  go_wp2_with (go_at_call 75; refine (HI.out _).mono ?_; rintro e w' ⟨rfl, rfl⟩)
  go_ret
  exact ⟨rfl, rfl⟩
 ·
  rw [h] at HI
  clear h
  go_enter Tryz.func44, Tryz.ntmps44
  go_wp2_with (go_at_call 75; refine (HI.out _).mono ?_; rintro e w' ⟨rfl, rfl⟩)
  go_ret
  exact ⟨rfl, rfl⟩
theorem has_none (x : Int) (w : World) :
  Calls Tryz.prog 43 #[.agg #[.int .i64 0, .int .i64 0], .int .i64 x] w fun e w' => e = .returned (.bool false) ∧ w' = w.alloc (.cells #[.int .i64 0, .int .i64 0] 91) := by
 go_enter Tryz.func43, Tryz.ntmps43
 go_wp2
 go_ret
 exact ⟨rfl, rfl⟩
theorem has_some (f l x : Int) (hl : 1 ≤ l) (w : World) :
  Calls Tryz.prog 43 #[.agg #[.int .i64 f, .int .i64 l], .int .i64 x] w fun e w' => e = .returned (.bool (decide (f ≤ x) && decide (x ≤ l))) ∧ w' = w.alloc (.cells #[.int .i64 f, .int .i64 l] 91) := by
 have e0 : (l == 0) = false := by rw [beq_eq_false_iff_ne]; omega
 clear hl
 cases e1 : (f == 0)
 all_goals
  by_cases h1 : f ≤ x
  ·
   by_cases h2 : x ≤ l
   ·
    rw [decide_eq_true h1, decide_eq_true h2]
    go_enter Tryz.func43, Tryz.ntmps43
    go_wp2
    go_ret
    exact ⟨rfl, rfl⟩
   ·
    rw [decide_eq_true h1, decide_eq_false h2]
    go_enter Tryz.func43, Tryz.ntmps43
    go_wp2
    go_ret
    exact ⟨rfl, rfl⟩
  ·
   rw [decide_eq_false h1]
   go_enter Tryz.func43, Tryz.ntmps43
   go_wp2
   go_ret
   exact ⟨rfl, rfl⟩
end
section
open Go.RowKit
theorem wrapI {n : Int} (h0 : -4611686018427387904 ≤ n) (h1 : n ≤ 4611686018427387904) : IntKind.i64.wrap n = n := by rw [IntKind.wrap_i64]; omega
theorem whole_out {k : Int} (h : ¬ (1 ≤ k ∧ k ≤ 4)) : wholeF k = 0 ∧ wholeL k = 0 := by unfold wholeF wholeL; rw [if_neg h, if_neg h]; exact ⟨rfl, rfl⟩
theorem whole_in {k : Int} (h : 1 ≤ k ∧ k ≤ 4) : wholeF k = 1 ∧ wholeL k = topE k := by unfold wholeF wholeL; rw [if_pos h, if_pos h]; exact ⟨rfl, rfl⟩
theorem edit_any (k a n : Int) (w : World) :
    Calls Tryz.prog 31 #[.agg #[.int .i64 k, .int .i64 a, .int .i64 n]] w fun e w' => e = .returned (.int .i64 (editR k a n)) ∧ Below w.heap.size w w' := by
  have HW : Hid (∀ W : World, Calls Tryz.prog 59 #[.int .i64 k] W fun e w' => e = .returned (.agg #[.int .i64 (wholeF k), .int .i64 (wholeL k)]) ∧ Below W.heap.size W w') := fun W => whole_any k W
  by_cases hk : 1 ≤ k ∧ k ≤ 4
  ·
    obtain ⟨q1, q2⟩ := whole_in hk
    rw [q1, q2] at HW
    have ht := topE_le k
    have HS : Hid (∀ W : World, Calls Tryz.prog 43 #[.agg #[.int .i64 1, .int .i64 (topE k)], .int .i64 a] W fun e w' => e = .returned (.bool (decide (1 ≤ a) && decide (a ≤ topE k))) ∧ w' = W.alloc (.cells #[.int .i64 1, .int .i64 (topE k)] 91)) := fun W => has_some 1 (topE k) a (by omega) W
    clear q1 q2
    by_cases ha : 1 ≤ a ∧ a ≤ topE k
    ·
      rw [decide_eq_true ha.1, decide_eq_true ha.2] at HS
      by_cases h1 : n < 1
      ·
        rw [editR_no (by cases h : editB k a n; · rfl
                         ·
                           have := editB_iff.1 h; omega)]
        generalize topE k = T at *
        clear hk ha ht
        go_enter Tryz.func31, Tryz.ntmps31
        go_wp2_with (first | (go_at_call 59; refine (HW.out _).mono ?_; rintro e w1 ⟨rfl, hb1⟩; have ⟨z1, k0, k1, k2⟩ := (At3.new w k a n 36).below hb1) | (go_at_call 43; refine (HS.out _).mono ?_; rintro e w' ⟨rfl, rfl⟩))
        go_ret
        refine ⟨rfl, ?_⟩
        exact bl
      ·
        have u1 : IntKind.i64.wrap (topE k - a) = topE k - a := wrapI (by omega) (by omega)
        have u2 : IntKind.i64.wrap (topE k - a + 1) = topE k - a + 1 := wrapI (by omega) (by omega)
        by_cases h2 : n > topE k - a + 1
        ·
          rw [editR_no (by cases h : editB k a n; · rfl
                           ·
                             have := editB_iff.1 h; omega)]
          generalize topE k = T at *
          clear hk ha ht
          go_enter Tryz.func31, Tryz.ntmps31
          go_wp2_with (first | (go_at_call 59; refine (HW.out _).mono ?_; rintro e w1 ⟨rfl, hb1⟩; have ⟨z1, k0, k1, k2⟩ := (At3.new w k a n 36).below hb1) | (go_at_call 43; refine (HS.out _).mono ?_; rintro e w' ⟨rfl, rfl⟩))
          go_ret
          refine ⟨rfl, ?_⟩
          exact bl
        ·
          rw [editR_yes (editB_iff.2 (by omega))]
          generalize topE k = T at *
          clear hk ha ht
          go_enter Tryz.func31, Tryz.ntmps31
          go_wp2_with (first | (go_at_call 59; refine (HW.out _).mono ?_; rintro e w1 ⟨rfl, hb1⟩; have ⟨z1, k0, k1, k2⟩ := (At3.new w k a n 36).below hb1) | (go_at_call 43; refine (HS.out _).mono ?_; rintro e w' ⟨rfl, rfl⟩))
          go_ret
          refine ⟨rfl, ?_⟩
          exact bl
    ·
      rw [show (decide (1 ≤ a) && decide (a ≤ topE k)) = false by rw [Bool.and_eq_false_iff]; simp; omega] at HS
      rw [editR_no (by cases h : editB k a n; · rfl
                       ·
                         have := editB_iff.1 h; omega)]
      generalize topE k = T at *
      clear hk ha ht
      go_enter Tryz.func31, Tryz.ntmps31
      go_wp2_with (first | (go_at_call 59; refine (HW.out _).mono ?_; rintro e w1 ⟨rfl, hb1⟩; have ⟨z1, k0, k1, k2⟩ := (At3.new w k a n 36).below hb1) | (go_at_call 43; refine (HS.out _).mono ?_; rintro e w' ⟨rfl, rfl⟩))
      go_ret
      refine ⟨rfl, ?_⟩
      exact bl
  ·
    obtain ⟨q1, q2⟩ := whole_out hk
    rw [q1, q2] at HW
    rw [editR_no (by cases h : editB k a n; · rfl
                     ·
                       have := editB_iff.1 h; omega)]
    clear q1 q2 hk
    go_enter Tryz.func31, Tryz.ntmps31
    go_wp2_with (first | (go_at_call 59; refine (HW.out _).mono ?_; rintro e w1 ⟨rfl, hb1⟩; have ⟨z1, k0, k1, k2⟩ := (At3.new w k a n 36).below hb1) | (go_at_call 43; refine (has_none _ _).mono ?_; rintro e w' ⟨rfl, rfl⟩))
    go_ret
    refine ⟨rfl, ?_⟩
    exact bl
theorem field_1 (x y : Int) (w : World) : (Instr.field 91 (.agg #[.int .i64 x, .int .i64 y]) 1).run Tryz.prog w = .ok (.int .i64 y) w := by
 simp [Instr.field, go_sem, asAgg, Result.andThen]
theorem lost_any {k a n : Int} (h : editB k a n = true) (w : World) :
  Calls Tryz.prog 42 #[.agg #[.int .i64 k, .int .i64 a, .int .i64 n]] w fun e w' => e = .returned (.agg #[.int .i64 (lostF k a n), .int .i64 (lostL k a n)]) ∧ Below w.heap.size w w' := by
 have HI : Hid (∀ W : World, Calls Tryz.prog 75 #[.int .i64 k] W fun e w' => e = .returned (.bool (insB k)) ∧ w' = W) := fun W => inserts_any k W
 have g := editB_iff.1 h
 have ht := topE_le k
 have HW : Hid (∀ W : World, Calls Tryz.prog 59 #[.int .i64 k] W fun e w' => e = .returned (.agg #[.int .i64 1, .int .i64 (topE k)]) ∧ Below W.heap.size W w') := fun W => by
  have := whole_any k W; rw [(whole_in ⟨g.1, g.2.1⟩).1, (whole_in ⟨g.1, g.2.1⟩).2] at this; exact this
 unfold lostF lostL
 cases hi : insB k
 ·
  rw [hi] at HI
  have u1 : IntKind.i64.wrap (a + n) = a + n := wrapI (by omega) (by omega)
  have u2 : IntKind.i64.wrap (a + n - 1) = a + n - 1 := wrapI (by omega) (by omega)
  generalize topE k = T at *
  clear h hi g ht
  have hf1 := field_1
  go_enter Tryz.func42, Tryz.ntmps42
  go_wp2_with (first | (go_at_call 59; refine (HW.out _).mono ?_; rintro e w1 ⟨rfl, hb1⟩; have ⟨z1, k0, k1, k2⟩ := ((At3.new w k a n 36).alloc (.cells #[.int .i64 0, .int .i64 0] 91)).below hb1; have hq := (Has2.new (w.alloc (.cells #[.int .i64 k, .int .i64 a, .int .i64 n] 36)) 0 0 91).below hb1; rw [show (w.alloc (.cells #[.int .i64 k, .int .i64 a, .int .i64 n] 36)).heap.size = w.heap.size + 1 by simp] at hq; obtain ⟨⟨z2, j0, j1⟩, f0, f1⟩ := hq) | (go_at_call 75; refine (HI.out _).mono ?_; rintro e w' ⟨rfl, rfl⟩))
  refine bodyPost_ret (v := .agg #[.int .i64 a, .int .i64 (a + n - 1)]) (by simp [results, Tryz.results42, go_sem, *]) rfl ⟨rfl, ?_⟩
  exact bl
 ·
  rw [hi] at HI
  have u1 : IntKind.i64.wrap (topE k - n) = topE k - n := wrapI (by omega) (by omega)
  have u2 : IntKind.i64.wrap (topE k - n + 1) = topE k - n + 1 := wrapI (by omega) (by omega)
  generalize topE k = T at *
  clear h hi g ht
  have hf1 := field_1
  go_enter Tryz.func42, Tryz.ntmps42
  go_wp2_with (first | (go_at_call 59; refine (HW.out _).mono ?_; rintro e w1 ⟨rfl, hb1⟩; have ⟨z1, k0, k1, k2⟩ := ((At3.new w k a n 36).alloc (.cells #[.int .i64 0, .int .i64 0] 91)).below hb1; have hq := (Has2.new (w.alloc (.cells #[.int .i64 k, .int .i64 a, .int .i64 n] 36)) 0 0 91).below hb1; rw [show (w.alloc (.cells #[.int .i64 k, .int .i64 a, .int .i64 n] 36)).heap.size = w.heap.size + 1 by simp] at hq; obtain ⟨⟨z2, j0, j1⟩, f0, f1⟩ := hq) | (go_at_call 75; refine (HI.out _).mono ?_; rintro e w' ⟨rfl, rfl⟩))
  refine bodyPost_ret (v := .agg #[.int .i64 (T - n + 1), .int .i64 T]) (by simp [results, Tryz.results42, go_sem, *]) rfl ⟨rfl, ?_⟩
  exact bl
theorem along_any (k : Int) (b : Nat) (w : World) :
  Calls Tryz.prog 41 #[.int .i64 k, .pointer (some ⟨b, 0, none⟩)] w fun e w' => e = .returned (.pointer (some ⟨b, if rowsB k then 0 else 1, none⟩)) ∧ w' = w := by
 by_cases h1 : k = 1
 ·
  subst h1
  go_enter Tryz.func41, Tryz.ntmps41
  go_wp2
  go_ret
  exact ⟨rfl, rfl⟩
 by_cases h2 : k = 2
 ·
  subst h2
  go_enter Tryz.func41, Tryz.ntmps41
  go_wp2
  go_ret
  exact ⟨rfl, rfl⟩
 have e : rowsB k = false := by simp [rowsB, h1, h2]
 have e1 : (k == 1) = false := by simpa using h1
 have e2 : (k == 2) = false := by simpa using h2
 rw [e]
 clear e h1 h2
 go_enter Tryz.func41, Tryz.ntmps41
 go_wp2
 go_ret
 exact ⟨rfl, rfl⟩
def ordF (f l : Int) : Int := if f > l then 0 else f
def ordL (f l : Int) : Int := if f > l then 0 else l
theorem inOrder_any (f l : Int) (w : World) :
  Calls Tryz.prog 78 #[.int .i64 f, .int .i64 l] w fun e w' => e = .returned (.agg #[.int .i64 (ordF f l), .int .i64 (ordL f l)]) ∧ Below w.heap.size w w' := by
 unfold ordF ordL
 by_cases h : f > l
 ·
  rw [if_pos h, if_pos h]
  go_enter Tryz.func78, Tryz.ntmps78
  go_wp2
  refine bodyPost_ret (v := .agg #[.int .i64 0, .int .i64 0]) (by simp [results, Tryz.results78, go_sem]) rfl ⟨rfl, ?_⟩
  exact bl
 ·
  rw [if_neg h, if_neg h]
  go_enter Tryz.func78, Tryz.ntmps78
  go_wp2
  refine bodyPost_ret (v := .agg #[.int .i64 f, .int .i64 l]) (by simp [results, Tryz.results78, go_sem]) rfl ⟨rfl, ?_⟩
  exact bl
theorem corners_any (t l b r : Int) (w : World) :
  Calls Tryz.prog 51 #[.agg #[.int .i64 t, .int .i64 l, .int .i64 b, .int .i64 r]] w fun e w' => e = .returned (.tuple #[.agg #[.int .i64 t, .int .i64 l], .agg #[.int .i64 b, .int .i64 r]]) ∧ Below w.heap.size w w' := by
 go_enter Tryz.func51, Tryz.ntmps51
 go_wp2
 go_region_held3 (fun w' => w'.cell? ⟨w.heap.size, 0, none⟩ = some (.int .i64 t) ∧ w'.cell? ⟨w.heap.size, 1, none⟩ = some (.int .i64 l) ∧ w'.cell? ⟨w.heap.size, 2, none⟩ = some (.int .i64 b) ∧ w'.cell? ⟨w.heap.size, 3, none⟩ = some (.int .i64 r)) (go_keep) (fail)
 go_wp2
 refine bodyPost_ret (v := .tuple #[.agg #[.int .i64 t, .int .i64 l], .agg #[.int .i64 b, .int .i64 r]]) (by simp [results, Tryz.results51, go_sem]) rfl ⟨rfl, ?_⟩
 exact bl
end
section
open Go.RowKit
theorem Has2.set {w : World} {b : Nat} {x y : Int} (h : Has2 w b x y) (u v : Int) : Has2 ((w.setCell ⟨b, 0, none⟩ (.int .i64 u)).setCell ⟨b, 1, none⟩ (.int .i64 v)) b u v := by
 obtain ⟨⟨l, c, d⟩, f, g⟩ := h
 have e1 : (w.setCell ⟨b, 0, none⟩ (.int .i64 u)).cell? ⟨b, 0, none⟩ = some (.int .i64 u) := World.cell?_setCell_same _ _ _ c
 have e2 : (w.setCell ⟨b, 0, none⟩ (.int .i64 u)).cell? ⟨b, 1, none⟩ = some (.int .i64 y) := by
  rw [World.cell?_setCell_other (h := show (⟨b, 0, none⟩ : Addr) ≠ ⟨b, 1, none⟩ from fun e => absurd (congrArg Addr.off e) (by decide : (0 : Nat) ≠ 1))]; exact d
 refine ⟨⟨by simpa using l, ?_, World.cell?_setCell_same _ _ _ e2⟩, by simpa using f, by simpa using g⟩
 rw [World.cell?_setCell_other (h := show (⟨b, 1, none⟩ : Addr) ≠ ⟨b, 0, none⟩ from fun e => absurd (congrArg Addr.off e) (by decide : (1 : Nat) ≠ 0))]; exact e1
def Norm (R : Act → World → Prop) : Exit → Act → World → Prop
 | .normal, a, w => R a w
 | _, _, _ => False
theorem wp_cut {P : Program} {c : Code} {Q : Exit → Act → World → Prop} {R : Act → World → Prop} {a : Act} {w : World} (hr : c.wp P (Norm R) a w) (hk : ∀ a w, R a w → Q .normal a w) : c.wp P Q a w :=
 Code.wp_mono (fun e a w h => by cases e <;> first | exact hk a w h | exact (h : False).elim) hr
theorem wp_cutT {P : Program} {c : Code} {Q : Exit → Act → World → Prop} {T : Nat → Act} {F : Nat → World → Prop} {a : Act} {w : World} (hr : c.wp P (Norm fun a' w' => ∃ k, a' = T k ∧ F k w') a w) (hk : ∀ k w', F k w' → Q .normal (T k) w') : c.wp P Q a w :=
 wp_cut hr fun a w ⟨k, e, f⟩ => by rw [e]; exact hk k w f
structure Put (W : World) (b i : Nat) (v : Value) (w' : World) : Prop where
 below : Below b W w'
 cell : w'.cell? ⟨b, i, none⟩ = some v
 other : ∀ q : Addr, q.block < W.heap.size → q ≠ ⟨b, i, none⟩ → w'.cell? q = W.cell? q
 frozen : ∀ q : Addr, q.block < W.heap.size → w'.frozen? q = W.frozen? q
theorem Put.low {W w' : World} {b i : Nat} {v : Value} (h : W.cell? ⟨b, i, none⟩ = some v) (hb : b < W.heap.size) (k : Below W.heap.size W w') : Put W b i v w' :=
 ⟨k.mono (Nat.le_of_lt hb), by rw [k.cell (p := ⟨b, i, none⟩) hb]; exact h, fun q hq _ => k.cell hq, fun q hq => k.frozen hq⟩
theorem Put.high {W w' : World} {b i : Nat} {u : Value} (h : W.cell? ⟨b, i, none⟩ = some u) (hb : b < W.heap.size) (k : Below W.heap.size W w') (v : Value) : Put W b i v (w'.setCell ⟨b, i, none⟩ v) := by
 refine ⟨Below.setCell (k.mono (Nat.le_of_lt hb)) (Nat.le_refl _) _, ?_, ?_, ?_⟩
 ·
  exact World.cell?_setCell_same _ _ _ (u := u) (by rw [k.cell (p := ⟨b, i, none⟩) hb]; exact h)
 ·
  intro q hq hn
  rw [World.cell?_setCell_other _ _ _ _ (fun e => hn e.symm)]; exact k.cell hq
 ·
  intro q hq
  rw [World.frozen?_setCell]; exact k.frozen hq
theorem Put.then {W w1 w' : World} {b i : Nat} {v : Value} (k : Put W b i v w1) (hb : b < W.heap.size) (m : Below w1.heap.size w1 w') : Put W b i v w' :=
 have z := k.below.size
 ⟨k.below.trans (m.mono (by omega)), by rw [m.cell (p := ⟨b, i, none⟩) (show b < _ by omega)]; exact k.cell, fun q hq hn => by rw [m.cell (by omega)]; exact k.other q hq hn, fun q hq => by rw [m.frozen (by omega)]; exact k.frozen q hq⟩
theorem Put.at3 {W w' : World} {b i c : Nat} {v : Value} {x y u : Int} (k : Put W b i v w') (hc : c ≠ b) (h : At3 W c x y u) : At3 w' c x y u :=
 ⟨Nat.lt_of_lt_of_le h.1 k.below.size, by rw [k.other _ h.1 (fun e => hc (congrArg Addr.block e))]; exact h.2.1, by rw [k.other _ h.1 (fun e => hc (congrArg Addr.block e))]; exact h.2.2.1, by rw [k.other _ h.1 (fun e => hc (congrArg Addr.block e))]; exact h.2.2.2⟩
theorem Put.at4 {W w' : World} {b i c : Nat} {v : Value} {x y u z : Int} (k : Put W b i v w') (hc : c ≠ b) (h : At4 W c x y u z) : At4 w' c x y u z :=
 ⟨Nat.lt_of_lt_of_le h.1 k.below.size, by rw [k.other _ h.1 (fun e => hc (congrArg Addr.block e))]; exact h.2.1, by rw [k.other _ h.1 (fun e => hc (congrArg Addr.block e))]; exact h.2.2.1, by rw [k.other _ h.1 (fun e => hc (congrArg Addr.block e))]; exact h.2.2.2.1, by rw [k.other _ h.1 (fun e => hc (congrArg Addr.block e))]; exact h.2.2.2.2⟩
theorem Put.has4 {W w' : World} {b i c : Nat} {v : Value} {x y u z : Int} (k : Put W b i v w') (hc : c ≠ b) (h : Has4 W c x y u z) : Has4 w' c x y u z :=
 ⟨k.at4 hc h.1, by rw [k.frozen ⟨c, 0, none⟩ h.1.1]; exact h.2.1, by rw [k.frozen ⟨c, 1, none⟩ h.1.1]; exact h.2.2.1, by rw [k.frozen ⟨c, 2, none⟩ h.1.1]; exact h.2.2.2.1, by rw [k.frozen ⟨c, 3, none⟩ h.1.1]; exact h.2.2.2.2⟩
theorem Put.has2 {W w' : World} {b i c : Nat} {v : Value} {x y : Int} (k : Put W b i v w') (hc : c ≠ b) (h : Has2 W c x y) : Has2 w' c x y :=
 ⟨⟨Nat.lt_of_lt_of_le h.1.1 k.below.size, by rw [k.other _ h.1.1 (fun e => hc (congrArg Addr.block e))]; exact h.1.2.1, by rw [k.other _ h.1.1 (fun e => hc (congrArg Addr.block e))]; exact h.1.2.2⟩, by rw [k.frozen ⟨c, 0, none⟩ h.1.1]; exact h.2.1, by rw [k.frozen ⟨c, 1, none⟩ h.1.1]; exact h.2.2⟩
theorem Put.first {W w' : World} {b : Nat} {x y v : Int} (k : Put W b 0 (.int .i64 v) w') (h : Has2 W b x y) : Has2 w' b v y :=
 ⟨⟨Nat.lt_of_lt_of_le h.1.1 k.below.size, k.cell, by rw [k.other ⟨b, 1, none⟩ h.1.1 (fun e => by have := congrArg Addr.off e; cases this)]; exact h.1.2.2⟩, by rw [k.frozen ⟨b, 0, none⟩ h.1.1]; exact h.2.1, by rw [k.frozen ⟨b, 1, none⟩ h.1.1]; exact h.2.2⟩
theorem Put.second {W w' : World} {b : Nat} {x y v : Int} (k : Put W b 1 (.int .i64 v) w') (h : Has2 W b x y) : Has2 w' b x v :=
 ⟨⟨Nat.lt_of_lt_of_le h.1.1 k.below.size, by rw [k.other ⟨b, 0, none⟩ h.1.1 (fun e => by have := congrArg Addr.off e; cases this)]; exact h.1.2.1, k.cell⟩, by rw [k.frozen ⟨b, 0, none⟩ h.1.1]; exact h.2.1, by rw [k.frozen ⟨b, 1, none⟩ h.1.1]; exact h.2.2⟩
theorem carry_any {k a n x : Int} (hx : -4611686018427387904 ≤ x + n ∧ x + n ≤ 4611686018427387904 ∧ -4611686018427387904 ≤ x - n ∧ x - n ≤ 4611686018427387904) (b i : Nat) (w : World) (hb : b < w.heap.size) (hc : w.cell? ⟨b, i, none⟩ = some (.int .i64 x)) (hz : w.frozen? ⟨b, i, none⟩ = false) :
  Calls Tryz.prog 45 #[.agg #[.int .i64 k, .int .i64 a, .int .i64 n], .pointer (some ⟨b, i, none⟩)] w fun e w' => e = .returned (.tuple #[]) ∧ Put w b i (.int .i64 (carryR k a n x)) w' := by
 have HI : Hid (∀ W : World, Calls Tryz.prog 75 #[.int .i64 k] W fun e w' => e = .returned (.bool (insB k)) ∧ w' = W) := fun W => inserts_any k W
 have u1 : IntKind.i64.wrap (x + n) = x + n := wrapI (by omega) (by omega)
 have u2 : IntKind.i64.wrap (x - n) = x - n := wrapI (by omega) (by omega)
 clear hx
 have hk : Below w.heap.size w (w.alloc (.cells #[.int .i64 k, .int .i64 a, .int .i64 n] 36)) := (Below.refl _ _).alloc (Nat.le_refl _) _
 have hc1 : (w.alloc (.cells #[.int .i64 k, .int .i64 a, .int .i64 n] 36)).cell? ⟨b, i, none⟩ = some (.int .i64 x) := by rw [hk.cell (p := ⟨b, i, none⟩) hb]; exact hc
 have hz1 : (w.alloc (.cells #[.int .i64 k, .int .i64 a, .int .i64 n] 36)).frozen? ⟨b, i, none⟩ = false := by rw [hk.frozen (p := ⟨b, i, none⟩) hb]; exact hz
 by_cases h : x < a
 ·
  rw [carry_low h]
  go_enter Tryz.func45, Tryz.ntmps45
  go_wp2
  go_region_held3 (fun w' => w'.cell? ⟨b, i, none⟩ = some (.int .i64 x) ∧ w'.cell? ⟨w.heap.size, 0, none⟩ = some (.int .i64 k) ∧ w'.cell? ⟨w.heap.size, 1, none⟩ = some (.int .i64 a) ∧ w'.cell? ⟨w.heap.size, 2, none⟩ = some (.int .i64 n)) (go_keep) (fail)
  go_wp2_with (go_at_call 75; refine (HI.out _).mono ?_; rintro e w' ⟨rfl, rfl⟩)
  refine bodyPost_end (v := .tuple #[]) (by simp [results, Tryz.results45, go_sem]) rfl ⟨rfl, Put.low hc hb ?_⟩
  exact bl
 ·
  cases hi : insB k
  ·
   rw [carry_del h hi]
   rw [hi] at HI
   clear hi
   go_enter Tryz.func45, Tryz.ntmps45
   go_wp2
   go_region_held3 (fun w' => w'.cell? ⟨b, i, none⟩ = some (.int .i64 x) ∧ w'.cell? ⟨w.heap.size, 0, none⟩ = some (.int .i64 k) ∧ w'.cell? ⟨w.heap.size, 1, none⟩ = some (.int .i64 a) ∧ w'.cell? ⟨w.heap.size, 2, none⟩ = some (.int .i64 n)) (go_keep) (fail)
   go_wp2_with (go_at_call 75; refine (HI.out _).mono ?_; rintro e w' ⟨rfl, rfl⟩)
   go_region
   all_goals go_wp2
   all_goals refine bodyPost_end (v := .tuple #[]) (by simp [results, Tryz.results45, go_sem]) rfl ⟨rfl, (Put.high hc hb (Below.refl _ _) _).then hb ?_⟩
   all_goals exact bl
  ·
   rw [carry_ins h hi]
   rw [hi] at HI
   clear hi
   go_enter Tryz.func45, Tryz.ntmps45
   go_wp2
   go_region_held3 (fun w' => w'.cell? ⟨b, i, none⟩ = some (.int .i64 x) ∧ w'.cell? ⟨w.heap.size, 0, none⟩ = some (.int .i64 k) ∧ w'.cell? ⟨w.heap.size, 1, none⟩ = some (.int .i64 a) ∧ w'.cell? ⟨w.heap.size, 2, none⟩ = some (.int .i64 n)) (go_keep) (fail)
   go_wp2_with (go_at_call 75; refine (HI.out _).mono ?_; rintro e w' ⟨rfl, rfl⟩)
   go_region
   all_goals go_wp2
   all_goals refine bodyPost_end (v := .tuple #[]) (by simp [results, Tryz.results45, go_sem]) rfl ⟨rfl, (Put.high hc hb (Below.refl _ _) _).then hb ?_⟩
   all_goals exact bl
theorem left_any {k a n : Int} (h : editB k a n = true) (f l : Int) (w : World) :
  Calls Tryz.prog 93 #[.agg #[.int .i64 f, .int .i64 l], .agg #[.int .i64 (lostF k a n), .int .i64 (lostL k a n)]] w fun e w' => e = .returned (.agg #[.int .i64 (ordF (leftF k a n f) (leftL k a n l)), .int .i64 (ordL (leftF k a n f) (leftL k a n l))]) ∧ Below w.heap.size w w' := by
 have HO : Hid (∀ W : World, Calls Tryz.prog 78 #[.int .i64 (leftF k a n f), .int .i64 (leftL k a n l)] W fun e w' => e = .returned (.agg #[.int .i64 (ordF (leftF k a n f) (leftL k a n l)), .int .i64 (ordL (leftF k a n f) (leftL k a n l))]) ∧ Below W.heap.size W w') := fun W => inOrder_any _ _ W
 generalize ordF (leftF k a n f) (leftL k a n l) = F at *
 generalize ordL (leftF k a n f) (leftL k a n l) = L at *
 have ord := lost_ord h
 have ht := topE_le k
 have H1 : Hid (∀ W : World, Calls Tryz.prog 43 #[.agg #[.int .i64 (lostF k a n), .int .i64 (lostL k a n)], .int .i64 f] W fun e w' => e = .returned (.bool (takenB k a n f)) ∧ w' = W.alloc (.cells #[.int .i64 (lostF k a n), .int .i64 (lostL k a n)] 91)) := fun W => has_some _ _ f (by omega) W
 have H2 : Hid (∀ W : World, Calls Tryz.prog 43 #[.agg #[.int .i64 (lostF k a n), .int .i64 (lostL k a n)], .int .i64 l] W fun e w' => e = .returned (.bool (takenB k a n l)) ∧ w' = W.alloc (.cells #[.int .i64 (lostF k a n), .int .i64 (lostL k a n)] 91)) := fun W => has_some _ _ l (by omega) W
 have u1 : IntKind.i64.wrap (lostL k a n + 1) = lostL k a n + 1 := wrapI (by omega) (by omega)
 have u2 : IntKind.i64.wrap (lostF k a n - 1) = lostF k a n - 1 := wrapI (by omega) (by omega)
 clear ord ht
 cases h1 : takenB k a n f
 all_goals
  cases h2 : takenB k a n l
  all_goals
   first | rw [leftF_yes h1] at HO | rw [leftF_no h1] at HO
   first | rw [leftL_yes h2] at HO | rw [leftL_no h2] at HO
   rw [h1] at H1
   rw [h2] at H2
   generalize lostF k a n = A at *
   generalize lostL k a n = B at *
   clear h h1 h2
   go_enter Tryz.func93, Tryz.ntmps93
   go_wp2_with (first | (go_at_call_of 43 [Value.agg #[Value.int IntKind.i64 A, Value.int IntKind.i64 B], Value.int IntKind.i64 f]; refine (H1.out _).mono ?_; rintro e w' ⟨rfl, rfl⟩) | (go_at_call_of 43 [Value.agg #[Value.int IntKind.i64 A, Value.int IntKind.i64 B], Value.int IntKind.i64 l]; refine (H2.out _).mono ?_; rintro e w' ⟨rfl, rfl⟩) | (go_at_call 78; refine (HO.out _).mono ?_; rintro e w1 ⟨rfl, hb1⟩; have ⟨⟨z2, j0, j1⟩, f0, f1⟩ : Has2 w1 (w.heap.size + 1 + 1) 0 0 := Has2.below (by refine ⟨⟨?_, ?_, ?_⟩, ?_, ?_⟩ <;> simp [go_sem]) hb1))
   refine bodyPost_ret (v := .agg #[.int .i64 F, .int .i64 L]) (by simp [results, Tryz.results93, go_sem, *]) rfl ⟨rfl, ?_⟩
   exact bl
end
section
open Go.RowKit
def SpS (w : World) (k a n r c x y : Int) (w' : World) : Prop := At3 w' w.heap.size k a n ∧ Has2 w' (w.heap.size + 1) r c ∧ Has2 w' (w.heap.size + 1 + 1) x y ∧ Below w.heap.size w w'
theorem SpS.below {w w1 w' : World} {k a n r c x y : Int} (h : SpS w k a n r c x y w1) (m : Below w1.heap.size w1 w') : SpS w k a n r c x y w' :=
 ⟨h.1.below m, h.2.1.below m, h.2.2.1.below m, h.2.2.2.trans (m.mono h.2.2.2.size)⟩
theorem SpS.start (w : World) (k a n r c : Int) (t1 t2 t3 : TypeId) : SpS w k a n r c 0 0 (((w.alloc (.cells #[.int .i64 k, .int .i64 a, .int .i64 n] t1)).alloc (.cells #[.int .i64 r, .int .i64 c] t2)).alloc (.cells #[.int .i64 0, .int .i64 0] t3)) := by
 refine ⟨((At3.new w k a n t1).alloc _).alloc _, ?_, ?_, ?_⟩
 ·
  have := (Has2.new (w.alloc (.cells #[.int .i64 k, .int .i64 a, .int .i64 n] t1)) r c t2).alloc (.cells #[.int .i64 0, .int .i64 0] t3)
  simpa using this
 ·
  have := Has2.new ((w.alloc (.cells #[.int .i64 k, .int .i64 a, .int .i64 n] t1)).alloc (.cells #[.int .i64 r, .int .i64 c] t2)) 0 0 t3
  simpa using this
 ·
  exact bl
theorem SpS.row {w w1 w' : World} {k a n r c x y v : Int} (h : SpS w k a n r c x y w1) (m : Put w1 (w.heap.size + 1) 0 (.int .i64 v) w') : SpS w k a n v c x y w' :=
 ⟨m.at3 (by omega) h.1, m.first h.2.1, m.has2 (by omega) h.2.2.1, h.2.2.2.trans (m.below.mono (by omega))⟩
theorem SpS.col {w w1 w' : World} {k a n r c x y v : Int} (h : SpS w k a n r c x y w1) (m : Put w1 (w.heap.size + 1) 1 (.int .i64 v) w') : SpS w k a n r v x y w' :=
 ⟨m.at3 (by omega) h.1, m.second h.2.1, m.has2 (by omega) h.2.2.1, h.2.2.2.trans (m.below.mono (by omega))⟩
theorem ofR_same {r c : Int} (h : placeB r c = true) : ofR r c r c = (r, c, r, c, 0) := by
 rw [ofR_yes h h]; simp
theorem SpS.alloc {w w1 : World} {k a n r c x y : Int} (h : SpS w k a n r c x y w1) (o : Obj) : SpS w k a n r c x y (w1.alloc o) := h.below ((Below.refl _ _).alloc (Nat.le_refl _) o)
theorem SpA.of {w w' : World} {k a n r c x y : Int} (h : SpS w k a n r c x y w') : w'.cell? ⟨w.heap.size, 0, none⟩ = some (.int .i64 k) ∧ w'.cell? ⟨w.heap.size, 1, none⟩ = some (.int .i64 a) ∧ w'.cell? ⟨w.heap.size, 2, none⟩ = some (.int .i64 n) ∧ w'.cell? ⟨w.heap.size + 1, 0, none⟩ = some (.int .i64 r) ∧ w'.cell? ⟨w.heap.size + 1, 1, none⟩ = some (.int .i64 c) ∧ SpS w k a n r c x y w' :=
 ⟨h.1.2.1, h.1.2.2.1, h.1.2.2.2, h.2.1.1.2.1, h.2.1.1.2.2, h⟩
theorem SpA.below {w w' w2 : World} {k a n r c x y : Int} (h : w'.cell? ⟨w.heap.size, 0, none⟩ = some (.int .i64 k) ∧ w'.cell? ⟨w.heap.size, 1, none⟩ = some (.int .i64 a) ∧ w'.cell? ⟨w.heap.size, 2, none⟩ = some (.int .i64 n) ∧ w'.cell? ⟨w.heap.size + 1, 0, none⟩ = some (.int .i64 r) ∧ w'.cell? ⟨w.heap.size + 1, 1, none⟩ = some (.int .i64 c) ∧ SpS w k a n r c x y w') (m : Below w'.heap.size w' w2) : w2.cell? ⟨w.heap.size, 0, none⟩ = some (.int .i64 k) ∧ w2.cell? ⟨w.heap.size, 1, none⟩ = some (.int .i64 a) ∧ w2.cell? ⟨w.heap.size, 2, none⟩ = some (.int .i64 n) ∧ w2.cell? ⟨w.heap.size + 1, 0, none⟩ = some (.int .i64 r) ∧ w2.cell? ⟨w.heap.size + 1, 1, none⟩ = some (.int .i64 c) ∧ SpS w k a n r c x y w2 :=
 SpA.of (h.2.2.2.2.2.below m)
theorem SpA.drew {w w' : World} {k a n r c x y : Int} (h : w'.cell? ⟨w.heap.size, 0, none⟩ = some (.int .i64 k) ∧ w'.cell? ⟨w.heap.size, 1, none⟩ = some (.int .i64 a) ∧ w'.cell? ⟨w.heap.size, 2, none⟩ = some (.int .i64 n) ∧ w'.cell? ⟨w.heap.size + 1, 0, none⟩ = some (.int .i64 r) ∧ w'.cell? ⟨w.heap.size + 1, 1, none⟩ = some (.int .i64 c) ∧ SpS w k a n r c x y w') : w'.drew.cell? ⟨w.heap.size, 0, none⟩ = some (.int .i64 k) ∧ w'.drew.cell? ⟨w.heap.size, 1, none⟩ = some (.int .i64 a) ∧ w'.drew.cell? ⟨w.heap.size, 2, none⟩ = some (.int .i64 n) ∧ w'.drew.cell? ⟨w.heap.size + 1, 0, none⟩ = some (.int .i64 r) ∧ w'.drew.cell? ⟨w.heap.size + 1, 1, none⟩ = some (.int .i64 c) ∧ SpS w k a n r c x y w'.drew :=
 SpA.below h ((Below.refl _ _).drew)
theorem SpA.out {w w' : World} {k a n r c x y : Int} (h : w'.cell? ⟨w.heap.size, 0, none⟩ = some (.int .i64 k) ∧ w'.cell? ⟨w.heap.size, 1, none⟩ = some (.int .i64 a) ∧ w'.cell? ⟨w.heap.size, 2, none⟩ = some (.int .i64 n) ∧ w'.cell? ⟨w.heap.size + 1, 0, none⟩ = some (.int .i64 r) ∧ w'.cell? ⟨w.heap.size + 1, 1, none⟩ = some (.int .i64 c) ∧ SpS w k a n r c x y w') : SpS w k a n r c x y w' := h.2.2.2.2.2
theorem spot_any (k a n r c : Int) (w : World) :
  Calls Tryz.prog 19 #[.agg #[.int .i64 k, .int .i64 a, .int .i64 n], .agg #[.int .i64 r, .int .i64 c]] w fun e w' => e = .returned (.tuple #[.agg #[.int .i64 (spotR k a n r c).1, .int .i64 (spotR k a n r c).2.1], .int .i64 (spotR k a n r c).2.2.1, .int .i64 (spotR k a n r c).2.2.2]) ∧ Below w.heap.size w w' := by
 have HC : Hid (∀ W : World, Calls Tryz.prog 31 #[.agg #[.int .i64 k, .int .i64 a, .int .i64 n]] W fun e w' => e = .returned (.int .i64 (editR k a n)) ∧ Below W.heap.size W w') := fun W => edit_any k a n W
 have HO : Hid (∀ W : World, Calls Tryz.prog 40 #[.agg #[.int .i64 r, .int .i64 c], .agg #[.int .i64 r, .int .i64 c]] W fun e w' => e = .returned (.tuple #[.agg #[.int .i64 (ofR r c r c).1, .int .i64 (ofR r c r c).2.1, .int .i64 (ofR r c r c).2.2.1, .int .i64 (ofR r c r c).2.2.2.1], .int .i64 (ofR r c r c).2.2.2.2]) ∧ Below W.heap.size W w') := fun W => of_any r c r c W
 have H0 := hide (SpS.start w k a n r c 36 28 28)
 cases hp : placeB r c
 ·
  rw [spotR_no (Or.inr hp)]
  rw [ofR_no (Or.inl hp)] at HO
  cases h : editB k a n
  ·
   rw [editR_no h] at HC
   clear h hp
   go_enter Tryz.func19, Tryz.ntmps19
   go_wp2_with (first | (go_at_call 40; refine (HO.out _).mono ?_; rintro e w1 ⟨rfl, hb1⟩; have hs1 := H0.out.below hb1; have ⟨⟨z1, k0, k1, k2⟩, ⟨⟨z2, j0, j1⟩, f0, f1⟩, ⟨⟨z3, i0, i1⟩, g0, g1⟩, _⟩ := hs1; have HS := hide (hs1.alloc (.cells #[.int .i64 0, .int .i64 0, .int .i64 0, .int .i64 0] 62)); clear hs1) | (go_at_call 31; refine (HC.out _).mono ?_; rintro e w2 ⟨rfl, hb2⟩; have hs2 := HS.out.below hb2; clear z1 k0 k1 k2 z2 j0 j1 f0 f1 z3 i0 i1 g0 g1; have ⟨⟨z1, k0, k1, k2⟩, ⟨⟨z2, j0, j1⟩, f0, f1⟩, ⟨⟨z3, i0, i1⟩, g0, g1⟩, _⟩ := hs2; have HS2 := hide hs2; clear hs2))
   refine bodyPost_ret (v := .tuple #[.agg #[.int .i64 0, .int .i64 0], .int .i64 0, .int .i64 2]) (by simp [results, Tryz.results19, go_sem, *]) rfl ⟨rfl, ?_⟩
   exact bl
  ·
   rw [editR_yes h] at HC
   clear h hp
   go_enter Tryz.func19, Tryz.ntmps19
   go_wp2_with (first | (go_at_call 40; refine (HO.out _).mono ?_; rintro e w1 ⟨rfl, hb1⟩; have hs1 := H0.out.below hb1; have ⟨⟨z1, k0, k1, k2⟩, ⟨⟨z2, j0, j1⟩, f0, f1⟩, ⟨⟨z3, i0, i1⟩, g0, g1⟩, _⟩ := hs1; have HS := hide (hs1.alloc (.cells #[.int .i64 0, .int .i64 0, .int .i64 0, .int .i64 0] 62)); clear hs1) | (go_at_call 31; refine (HC.out _).mono ?_; rintro e w2 ⟨rfl, hb2⟩; have hs2 := HS.out.below hb2; clear z1 k0 k1 k2 z2 j0 j1 f0 f1 z3 i0 i1 g0 g1; have ⟨⟨z1, k0, k1, k2⟩, ⟨⟨z2, j0, j1⟩, f0, f1⟩, ⟨⟨z3, i0, i1⟩, g0, g1⟩, _⟩ := hs2; have HS2 := hide hs2; clear hs2))
   refine bodyPost_ret (v := .tuple #[.agg #[.int .i64 0, .int .i64 0], .int .i64 0, .int .i64 2]) (by simp [results, Tryz.results19, go_sem, *]) rfl ⟨rfl, ?_⟩
   exact bl
 ·
  rw [ofR_same hp] at HO
  cases h : editB k a n
  ·
   rw [spotR_no (Or.inl h)]
   rw [editR_no h] at HC
   clear h hp
   go_enter Tryz.func19, Tryz.ntmps19
   go_wp2_with (first | (go_at_call 40; refine (HO.out _).mono ?_; rintro e w1 ⟨rfl, hb1⟩; have hs1 := H0.out.below hb1; have ⟨⟨z1, k0, k1, k2⟩, ⟨⟨z2, j0, j1⟩, f0, f1⟩, ⟨⟨z3, i0, i1⟩, g0, g1⟩, _⟩ := hs1; have HS := hide (hs1.alloc (.cells #[.int .i64 r, .int .i64 c, .int .i64 r, .int .i64 c] 62)); clear hs1) | (go_at_call 31; refine (HC.out _).mono ?_; rintro e w2 ⟨rfl, hb2⟩; have hs2 := HS.out.below hb2; clear z1 k0 k1 k2 z2 j0 j1 f0 f1 z3 i0 i1 g0 g1; have ⟨⟨z1, k0, k1, k2⟩, ⟨⟨z2, j0, j1⟩, f0, f1⟩, ⟨⟨z3, i0, i1⟩, g0, g1⟩, _⟩ := hs2; have HS2 := hide hs2; clear hs2))
   refine bodyPost_ret (v := .tuple #[.agg #[.int .i64 0, .int .i64 0], .int .i64 0, .int .i64 2]) (by simp [results, Tryz.results19, go_sem, *]) rfl ⟨rfl, ?_⟩
   exact bl
  ·
   rw [editR_yes h] at HC
   cases hr : rowsB k
   ·
    have ht : 1 ≤ c ∧ c ≤ topE k := by
     have := placeB_iff.1 hp
     rw [top_cols hr]
     omega
    rw [spotR_col h hp hr]
    have HA : Hid (∀ W : World, Calls Tryz.prog 41 #[.int .i64 k, .pointer (some ⟨w.heap.size + 1, 0, none⟩)] W fun e w' => e = .returned (.pointer (some ⟨w.heap.size + 1, 1, none⟩)) ∧ w' = W) := fun W => by have := along_any k (w.heap.size + 1) W; rw [hr] at this; exact this
    have HL : Hid (∀ W : World, Calls Tryz.prog 42 #[.agg #[.int .i64 k, .int .i64 a, .int .i64 n]] W fun e w' => e = .returned (.agg #[.int .i64 (lostF k a n), .int .i64 (lostL k a n)]) ∧ Below W.heap.size W w') := fun W => lost_any h W
    have HH : Hid (∀ W : World, Calls Tryz.prog 43 #[.agg #[.int .i64 (lostF k a n), .int .i64 (lostL k a n)], .int .i64 c] W fun e w' => e = .returned (.bool (takenB k a n c)) ∧ Below W.heap.size W w') := fun W => by
     have ord := lost_ord h
     exact (has_some _ _ c (by omega) W).mono fun e w' ⟨h1, h2⟩ => ⟨h1, by rw [h2]; exact (Below.refl _ _).alloc (Nat.le_refl _) _⟩
    have HF : Hid (∀ W : World, Calls Tryz.prog 44 #[.int .i64 k] W fun e w' => e = .returned (.int .i64 (fateR k)) ∧ w' = W) := fun W => fate_any k W
    have HK : Hid (∀ W : World, SpS w k a n r c 0 0 W → Calls Tryz.prog 45 #[.agg #[.int .i64 k, .int .i64 a, .int .i64 n], .pointer (some ⟨w.heap.size + 1, 1, none⟩)] W fun e w' => e = .returned (.tuple #[]) ∧ SpS w k a n r (carryR k a n c) 0 0 w') := fun W hs => by
     have g := editB_iff.1 h
     have tt := topE_le k
     exact (carry_any (by omega) _ _ W hs.2.1.1.1 hs.2.1.1.2.2 hs.2.1.2.2).mono fun e w' ⟨h1, h2⟩ => ⟨h1, hs.col h2⟩
    generalize hv : carryR k a n c = v at *
    generalize lostF k a n = A at *
    generalize lostL k a n = B at *
    generalize fateR k = F at *
    cases hq : takenB k a n c
    ·
     rw [hq] at HH
     clear h hp hr ht hq hv
     go_enter Tryz.func19, Tryz.ntmps19
     go_wp2_with (first | (go_at_call 40; refine (HO.out _).mono ?_; rintro e w1 ⟨rfl, hb1⟩; have hs1 := H0.out.below hb1; have ⟨⟨z1, k0, k1, k2⟩, ⟨⟨z2, j0, j1⟩, f0, f1⟩, ⟨⟨z3, i0, i1⟩, g0, g1⟩, _⟩ := hs1; have HS := hide (hs1.alloc (.cells #[.int .i64 r, .int .i64 c, .int .i64 r, .int .i64 c] 62)); clear hs1) | (go_at_call 31; refine (HC.out _).mono ?_; rintro e w2 ⟨rfl, hb2⟩; have hs2 := HS.out.below hb2; clear z1 k0 k1 k2 z2 j0 j1 f0 f1 z3 i0 i1 g0 g1; have ⟨⟨z1, k0, k1, k2⟩, ⟨⟨z2, j0, j1⟩, f0, f1⟩, ⟨⟨z3, i0, i1⟩, g0, g1⟩, _⟩ := hs2; have HS2 := hide hs2; clear hs2) | (go_at_call 41; refine (HA.out _).mono ?_; rintro e wz ⟨rfl, hz⟩; subst wz))
     have hs8 := SpA.of HS2.out
     go_region_held3 (fun w' => w'.cell? ⟨w.heap.size, 0, none⟩ = some (.int .i64 k) ∧ w'.cell? ⟨w.heap.size, 1, none⟩ = some (.int .i64 a) ∧ w'.cell? ⟨w.heap.size, 2, none⟩ = some (.int .i64 n) ∧ w'.cell? ⟨w.heap.size + 1, 0, none⟩ = some (.int .i64 r) ∧ w'.cell? ⟨w.heap.size + 1, 1, none⟩ = some (.int .i64 c) ∧ SpS w k a n r c 0 0 w') (first | exact hs8 | assumption | exact SpA.drew (by assumption)) (first | (go_at_call 42; refine (HL.out _).mono ?_; rintro e w3 ⟨rfl, hb3⟩; have hs3 := SpA.below (by assumption) hb3) | (go_at_call 43; refine (HH.out _).mono ?_; rintro e w3 ⟨rfl, hb3⟩; have hs3 := SpA.below (by assumption) hb3))
     have hs9 := SpA.out (w' := w3) (by assumption)
     clear hs8 HS2 z1 k0 k1 k2 z2 j0 j1 f0 f1 z3 i0 i1 g0 g1
     have ⟨⟨z1, k0, k1, k2⟩, ⟨⟨z2, j0, j1⟩, f0, f1⟩, ⟨⟨z3, i0, i1⟩, g0, g1⟩, hbz⟩ := hs9
     have HS3 := hide hs9
     clear hs9
     go_wp2_with (go_at_call 45; refine (HK.out _ HS3.out).mono ?_; rintro e w4 ⟨rfl, hs4⟩; clear z1 k0 k1 k2 z2 j0 j1 f0 f1 z3 i0 i1 g0 g1 hbz; have ⟨⟨z1, k0, k1, k2⟩, ⟨⟨z2, j0, j1⟩, f0, f1⟩, ⟨⟨z3, i0, i1⟩, g0, g1⟩, hbz⟩ := hs4)
     refine bodyPost_ret (v := .tuple #[.agg #[.int .i64 r, .int .i64 v], .int .i64 0, .int .i64 0]) (by simp [results, Tryz.results19, go_sem, *]) rfl ⟨rfl, ?_⟩
     exact bl
    ·
     rw [hq] at HH
     clear h hp hr ht hq hv
     go_enter Tryz.func19, Tryz.ntmps19
     go_wp2_with (first | (go_at_call 40; refine (HO.out _).mono ?_; rintro e w1 ⟨rfl, hb1⟩; have hs1 := H0.out.below hb1; have ⟨⟨z1, k0, k1, k2⟩, ⟨⟨z2, j0, j1⟩, f0, f1⟩, ⟨⟨z3, i0, i1⟩, g0, g1⟩, _⟩ := hs1; have HS := hide (hs1.alloc (.cells #[.int .i64 r, .int .i64 c, .int .i64 r, .int .i64 c] 62)); clear hs1) | (go_at_call 31; refine (HC.out _).mono ?_; rintro e w2 ⟨rfl, hb2⟩; have hs2 := HS.out.below hb2; clear z1 k0 k1 k2 z2 j0 j1 f0 f1 z3 i0 i1 g0 g1; have ⟨⟨z1, k0, k1, k2⟩, ⟨⟨z2, j0, j1⟩, f0, f1⟩, ⟨⟨z3, i0, i1⟩, g0, g1⟩, _⟩ := hs2; have HS2 := hide hs2; clear hs2) | (go_at_call 41; refine (HA.out _).mono ?_; rintro e wz ⟨rfl, hz⟩; subst wz))
     have hs8 := SpA.of HS2.out
     go_region_held3 (fun w' => w'.cell? ⟨w.heap.size, 0, none⟩ = some (.int .i64 k) ∧ w'.cell? ⟨w.heap.size, 1, none⟩ = some (.int .i64 a) ∧ w'.cell? ⟨w.heap.size, 2, none⟩ = some (.int .i64 n) ∧ w'.cell? ⟨w.heap.size + 1, 0, none⟩ = some (.int .i64 r) ∧ w'.cell? ⟨w.heap.size + 1, 1, none⟩ = some (.int .i64 c) ∧ SpS w k a n r c 0 0 w') (first | exact hs8 | assumption | exact SpA.drew (by assumption)) (first | (go_at_call 42; refine (HL.out _).mono ?_; rintro e w3 ⟨rfl, hb3⟩; have hs3 := SpA.below (by assumption) hb3) | (go_at_call 43; refine (HH.out _).mono ?_; rintro e w3 ⟨rfl, hb3⟩; have hs3 := SpA.below (by assumption) hb3))
     have hs9 := SpA.out (w' := w3) (by assumption)
     clear hs8 HS2 z1 k0 k1 k2 z2 j0 j1 f0 f1 z3 i0 i1 g0 g1
     have ⟨⟨z1, k0, k1, k2⟩, ⟨⟨z2, j0, j1⟩, f0, f1⟩, ⟨⟨z3, i0, i1⟩, g0, g1⟩, hbz⟩ := hs9
     have HS3 := hide hs9
     clear hs9
     go_wp2_with (go_at_call 44; refine (HF.out _).mono ?_; rintro e wz ⟨rfl, hz⟩; subst wz)
     refine bodyPost_ret (v := .tuple #[.agg #[.int .i64 0, .int .i64 0], .int .i64 F, .int .i64 0]) (by simp [results, Tryz.results19, go_sem, *]) rfl ⟨rfl, ?_⟩
     exact bl
   ·
    have ht : 1 ≤ r ∧ r ≤ topE k := by
     have := placeB_iff.1 hp
     rw [top_rows hr]
     omega
    rw [spotR_row h hp hr]
    have HA : Hid (∀ W : World, Calls Tryz.prog 41 #[.int .i64 k, .pointer (some ⟨w.heap.size + 1, 0, none⟩)] W fun e w' => e = .returned (.pointer (some ⟨w.heap.size + 1, 0, none⟩)) ∧ w' = W) := fun W => by have := along_any k (w.heap.size + 1) W; rw [hr] at this; exact this
    have HL : Hid (∀ W : World, Calls Tryz.prog 42 #[.agg #[.int .i64 k, .int .i64 a, .int .i64 n]] W fun e w' => e = .returned (.agg #[.int .i64 (lostF k a n), .int .i64 (lostL k a n)]) ∧ Below W.heap.size W w') := fun W => lost_any h W
    have HH : Hid (∀ W : World, Calls Tryz.prog 43 #[.agg #[.int .i64 (lostF k a n), .int .i64 (lostL k a n)], .int .i64 r] W fun e w' => e = .returned (.bool (takenB k a n r)) ∧ Below W.heap.size W w') := fun W => by
     have ord := lost_ord h
     exact (has_some _ _ r (by omega) W).mono fun e w' ⟨h1, h2⟩ => ⟨h1, by rw [h2]; exact (Below.refl _ _).alloc (Nat.le_refl _) _⟩
    have HF : Hid (∀ W : World, Calls Tryz.prog 44 #[.int .i64 k] W fun e w' => e = .returned (.int .i64 (fateR k)) ∧ w' = W) := fun W => fate_any k W
    have HK : Hid (∀ W : World, SpS w k a n r c 0 0 W → Calls Tryz.prog 45 #[.agg #[.int .i64 k, .int .i64 a, .int .i64 n], .pointer (some ⟨w.heap.size + 1, 0, none⟩)] W fun e w' => e = .returned (.tuple #[]) ∧ SpS w k a n (carryR k a n r) c 0 0 w') := fun W hs => by
     have g := editB_iff.1 h
     have tt := topE_le k
     exact (carry_any (by omega) _ _ W hs.2.1.1.1 hs.2.1.1.2.1 hs.2.1.2.1).mono fun e w' ⟨h1, h2⟩ => ⟨h1, hs.row h2⟩
    generalize hv : carryR k a n r = v at *
    generalize lostF k a n = A at *
    generalize lostL k a n = B at *
    generalize fateR k = F at *
    cases hq : takenB k a n r
    ·
     rw [hq] at HH
     clear h hp hr ht hq hv
     go_enter Tryz.func19, Tryz.ntmps19
     go_wp2_with (first | (go_at_call 40; refine (HO.out _).mono ?_; rintro e w1 ⟨rfl, hb1⟩; have hs1 := H0.out.below hb1; have ⟨⟨z1, k0, k1, k2⟩, ⟨⟨z2, j0, j1⟩, f0, f1⟩, ⟨⟨z3, i0, i1⟩, g0, g1⟩, _⟩ := hs1; have HS := hide (hs1.alloc (.cells #[.int .i64 r, .int .i64 c, .int .i64 r, .int .i64 c] 62)); clear hs1) | (go_at_call 31; refine (HC.out _).mono ?_; rintro e w2 ⟨rfl, hb2⟩; have hs2 := HS.out.below hb2; clear z1 k0 k1 k2 z2 j0 j1 f0 f1 z3 i0 i1 g0 g1; have ⟨⟨z1, k0, k1, k2⟩, ⟨⟨z2, j0, j1⟩, f0, f1⟩, ⟨⟨z3, i0, i1⟩, g0, g1⟩, _⟩ := hs2; have HS2 := hide hs2; clear hs2) | (go_at_call 41; refine (HA.out _).mono ?_; rintro e wz ⟨rfl, hz⟩; subst wz))
     have hs8 := SpA.of HS2.out
     go_region_held3 (fun w' => w'.cell? ⟨w.heap.size, 0, none⟩ = some (.int .i64 k) ∧ w'.cell? ⟨w.heap.size, 1, none⟩ = some (.int .i64 a) ∧ w'.cell? ⟨w.heap.size, 2, none⟩ = some (.int .i64 n) ∧ w'.cell? ⟨w.heap.size + 1, 0, none⟩ = some (.int .i64 r) ∧ w'.cell? ⟨w.heap.size + 1, 1, none⟩ = some (.int .i64 c) ∧ SpS w k a n r c 0 0 w') (first | exact hs8 | assumption | exact SpA.drew (by assumption)) (first | (go_at_call 42; refine (HL.out _).mono ?_; rintro e w3 ⟨rfl, hb3⟩; have hs3 := SpA.below (by assumption) hb3) | (go_at_call 43; refine (HH.out _).mono ?_; rintro e w3 ⟨rfl, hb3⟩; have hs3 := SpA.below (by assumption) hb3))
     have hs9 := SpA.out (w' := w3) (by assumption)
     clear hs8 HS2 z1 k0 k1 k2 z2 j0 j1 f0 f1 z3 i0 i1 g0 g1
     have ⟨⟨z1, k0, k1, k2⟩, ⟨⟨z2, j0, j1⟩, f0, f1⟩, ⟨⟨z3, i0, i1⟩, g0, g1⟩, hbz⟩ := hs9
     have HS3 := hide hs9
     clear hs9
     go_wp2_with (go_at_call 45; refine (HK.out _ HS3.out).mono ?_; rintro e w4 ⟨rfl, hs4⟩; clear z1 k0 k1 k2 z2 j0 j1 f0 f1 z3 i0 i1 g0 g1 hbz; have ⟨⟨z1, k0, k1, k2⟩, ⟨⟨z2, j0, j1⟩, f0, f1⟩, ⟨⟨z3, i0, i1⟩, g0, g1⟩, hbz⟩ := hs4)
     refine bodyPost_ret (v := .tuple #[.agg #[.int .i64 v, .int .i64 c], .int .i64 0, .int .i64 0]) (by simp [results, Tryz.results19, go_sem, *]) rfl ⟨rfl, ?_⟩
     exact bl
    ·
     rw [hq] at HH
     clear h hp hr ht hq hv
     go_enter Tryz.func19, Tryz.ntmps19
     go_wp2_with (first | (go_at_call 40; refine (HO.out _).mono ?_; rintro e w1 ⟨rfl, hb1⟩; have hs1 := H0.out.below hb1; have ⟨⟨z1, k0, k1, k2⟩, ⟨⟨z2, j0, j1⟩, f0, f1⟩, ⟨⟨z3, i0, i1⟩, g0, g1⟩, _⟩ := hs1; have HS := hide (hs1.alloc (.cells #[.int .i64 r, .int .i64 c, .int .i64 r, .int .i64 c] 62)); clear hs1) | (go_at_call 31; refine (HC.out _).mono ?_; rintro e w2 ⟨rfl, hb2⟩; have hs2 := HS.out.below hb2; clear z1 k0 k1 k2 z2 j0 j1 f0 f1 z3 i0 i1 g0 g1; have ⟨⟨z1, k0, k1, k2⟩, ⟨⟨z2, j0, j1⟩, f0, f1⟩, ⟨⟨z3, i0, i1⟩, g0, g1⟩, _⟩ := hs2; have HS2 := hide hs2; clear hs2) | (go_at_call 41; refine (HA.out _).mono ?_; rintro e wz ⟨rfl, hz⟩; subst wz))
     have hs8 := SpA.of HS2.out
     go_region_held3 (fun w' => w'.cell? ⟨w.heap.size, 0, none⟩ = some (.int .i64 k) ∧ w'.cell? ⟨w.heap.size, 1, none⟩ = some (.int .i64 a) ∧ w'.cell? ⟨w.heap.size, 2, none⟩ = some (.int .i64 n) ∧ w'.cell? ⟨w.heap.size + 1, 0, none⟩ = some (.int .i64 r) ∧ w'.cell? ⟨w.heap.size + 1, 1, none⟩ = some (.int .i64 c) ∧ SpS w k a n r c 0 0 w') (first | exact hs8 | assumption | exact SpA.drew (by assumption)) (first | (go_at_call 42; refine (HL.out _).mono ?_; rintro e w3 ⟨rfl, hb3⟩; have hs3 := SpA.below (by assumption) hb3) | (go_at_call 43; refine (HH.out _).mono ?_; rintro e w3 ⟨rfl, hb3⟩; have hs3 := SpA.below (by assumption) hb3))
     have hs9 := SpA.out (w' := w3) (by assumption)
     clear hs8 HS2 z1 k0 k1 k2 z2 j0 j1 f0 f1 z3 i0 i1 g0 g1
     have ⟨⟨z1, k0, k1, k2⟩, ⟨⟨z2, j0, j1⟩, f0, f1⟩, ⟨⟨z3, i0, i1⟩, g0, g1⟩, hbz⟩ := hs9
     have HS3 := hide hs9
     clear hs9
     go_wp2_with (go_at_call 44; refine (HF.out _).mono ?_; rintro e wz ⟨rfl, hz⟩; subst wz)
     refine bodyPost_ret (v := .tuple #[.agg #[.int .i64 0, .int .i64 0], .int .i64 F, .int .i64 0]) (by simp [results, Tryz.results19, go_sem, *]) rfl ⟨rfl, ?_⟩
     exact bl
end
end Go.Proofs.YtfpmmckpobpokaaGreat.Pla
