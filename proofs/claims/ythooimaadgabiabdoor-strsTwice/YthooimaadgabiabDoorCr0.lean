/-
  Patterns: their steps, what they stand for, and what a walk from the left with one place to come back to tells (plain functions on bytes).
-/
import Derived.WalkKit
namespace Go.Proofs.YthooimaadgabiabDoor

/-- A step of a pattern: its kind (itself 0, any byte 1, any row 2), and its own byte. -/
structure Stp where
  k : Nat
  o : UInt8
deriving DecidableEq
def stepsR : List UInt8 → List Stp
  | [] => []
  | [c] => [if c = 63 then ⟨1, 0⟩ else if c = 42 then ⟨2, 0⟩ else ⟨0, c⟩]
  | c :: d :: r => if c = 63 then ⟨1, 0⟩ :: stepsR (d :: r) else if c = 42 then ⟨2, 0⟩ :: stepsR (d :: r) else if c = 126 then ⟨0, d⟩ :: stepsR r else ⟨0, c⟩ :: stepsR (d :: r)
theorem steps_any {c : UInt8} {r : List UInt8} (h : c = 63) : stepsR (c :: r) = ⟨1, 0⟩ :: stepsR r := by
  cases r with
  | nil => simp [stepsR, h]
  | cons d r => rw [stepsR, if_pos h]
theorem steps_row {c : UInt8} {r : List UInt8} (h : c = 42) : stepsR (c :: r) = ⟨2, 0⟩ :: stepsR r := by
  subst h
  cases r with
  | nil => rfl
  | cons d r => rw [stepsR, if_neg (by decide), if_pos rfl]
theorem steps_own {c d : UInt8} {r : List UInt8} (h : c = 126) : stepsR (c :: d :: r) = ⟨0, d⟩ :: stepsR r := by
  subst h
  rw [stepsR, if_neg (by decide), if_neg (by decide), if_pos rfl]
theorem steps_last {c : UInt8} (h1 : c ≠ 63) (h2 : c ≠ 42) : stepsR [c] = [⟨0, c⟩] := by
  rw [stepsR, if_neg h1, if_neg h2]
theorem steps_self {c : UInt8} {r : List UInt8} (h1 : c ≠ 63) (h2 : c ≠ 42) (h3 : c ≠ 126) : stepsR (c :: r) = ⟨0, c⟩ :: stepsR r := by
  cases r with
  | nil => rw [steps_last h1 h2, stepsR]
  | cons d r => rw [stepsR, if_neg h1, if_neg h2, if_neg h3]
theorem steps_len : ∀ (n : Nat) (l : List UInt8), l.length ≤ n → (stepsR l).length ≤ l.length
  | 0, l, h => by cases l with
    | nil => simp [stepsR]
    | cons _ _ => simp at h
  | n + 1, [], _ => by simp [stepsR]
  | n + 1, [c], _ => by simp [stepsR]
  | n + 1, c :: d :: r, h => by
    simp only [List.length_cons] at h
    have i1 := steps_len n (d :: r) (by simp only [List.length_cons]; omega)
    have i2 := steps_len n r (by omega)
    simp only [List.length_cons] at i1
    rw [stepsR]
    split
    · simp only [List.length_cons]; omega
    split
    · simp only [List.length_cons]; omega
    split
    · simp only [List.length_cons]; omega
    · simp only [List.length_cons]; omega
def wildB (l : List Stp) : Bool := l.any fun p => p.k != 0
def ownsR (l : List Stp) : List UInt8 := l.map fun p => p.o

/-- Is some end of a text what f says? -/
def starL (f : List UInt8 → Bool) : List UInt8 → Bool
  | [] => f []
  | c :: t => f (c :: t) || starL f t
def takesB (p : Stp) (b : UInt8) : Bool := p.k == 1 || p.o == b
/-- Is a text what steps stand for? -/
def lk : List Stp → List UInt8 → Bool
  | [], s => s.isEmpty
  | p :: ps, s => if p.k = 2 then starL (lk ps) s else match s with
    | [] => false
    | b :: t => takesB p b && lk ps t
theorem star_iff (f : List UInt8 → Bool) : ∀ s : List UInt8, starL f s = true ↔ ∃ n, n ≤ s.length ∧ f (s.drop n) = true
  | [] => by simp [starL]
  | c :: t => by
    rw [starL, Bool.or_eq_true, star_iff f t]
    constructor
    · rintro (h | ⟨n, h1, h2⟩)
      · exact ⟨0, Nat.zero_le _, h⟩
      · exact ⟨n + 1, by simp only [List.length_cons]; omega, h2⟩
    · rintro ⟨n, h1, h2⟩
      cases n with
      | zero => exact .inl h2
      | succ n => exact .inr ⟨n, by simp only [List.length_cons] at h1; omega, h2⟩
theorem star_self {f : List UInt8 → Bool} {s : List UInt8} (h : f s = true) : starL f s = true := (star_iff f s).2 ⟨0, Nat.zero_le _, h⟩
theorem lk_row {p : Stp} {ps : List Stp} {s : List UInt8} (h : p.k = 2) : lk (p :: ps) s = starL (lk ps) s := by rw [lk.eq_def]; dsimp only; rw [if_pos h]
theorem lk_one {p : Stp} {ps : List Stp} {b : UInt8} {t : List UInt8} (h : p.k ≠ 2) : lk (p :: ps) (b :: t) = (takesB p b && lk ps t) := by rw [lk.eq_def]; dsimp only; rw [if_neg h]
theorem lk_end {p : Stp} {ps : List Stp} (h : p.k ≠ 2) : lk (p :: ps) [] = false := by rw [lk.eq_def]; dsimp only; rw [if_neg h]

/-- The first i steps are for single bytes, and take the first i bytes. -/
def Ahd (l : List Stp) (s : List UInt8) (i : Nat) : Prop := ∀ j, j < i → ∃ p b, l[j]? = some p ∧ s[j]? = some b ∧ p.k ≠ 2 ∧ takesB p b = true
theorem Ahd.zero (l : List Stp) (s : List UInt8) : Ahd l s 0 := fun j h => absurd h (by omega)
theorem Ahd.more {l : List Stp} {s : List UInt8} {i : Nat} {p : Stp} {b : UInt8} (h : Ahd l s i) (h1 : l[i]? = some p) (h2 : s[i]? = some b) (h3 : p.k ≠ 2) (h4 : takesB p b = true) : Ahd l s (i + 1) := fun j hj => by
  by_cases e : j = i
  · subst e; exact ⟨p, b, h1, h2, h3, h4⟩
  · exact h j (by omega)
theorem Ahd.lk : ∀ {i : Nat} {l : List Stp} {s : List UInt8}, Ahd l s i → lk l s = lk (l.drop i) (s.drop i)
  | 0, l, s, _ => rfl
  | i + 1, l, s, h => by
    obtain ⟨p, b, h1, h2, h3, h4⟩ := h 0 (by omega)
    cases l with
    | nil => simp at h1
    | cons q l =>
      cases s with
      | nil => simp at h2
      | cons c s =>
        simp at h1 h2
        subst h1; subst h2
        rw [lk_one h3, h4, Bool.true_and]
        have : Ahd l s i := fun j hj => by
          obtain ⟨p', b', g1, g2, g3⟩ := h (j + 1) (by omega)
          exact ⟨p', b', by simpa using g1, by simpa using g2, g3⟩
        exact this.lk
theorem Ahd.le {l : List Stp} {s : List UInt8} {i : Nat} (h : Ahd l s i) : i ≤ l.length ∧ i ≤ s.length := by
  cases i with
  | zero => exact ⟨Nat.zero_le _, Nat.zero_le _⟩
  | succ i =>
    obtain ⟨p, b, h1, h2, _⟩ := h i (by omega)
    have := (List.getElem?_eq_some_iff.1 h1).1
    have := (List.getElem?_eq_some_iff.1 h2).1
    omega
/-- Steps for single bytes want that many bytes. -/
theorem single_drop : ∀ {i : Nat} {l : List Stp} {s : List UInt8}, (∀ j, j < i → ∃ p, l[j]? = some p ∧ p.k ≠ 2) → lk l s = true → i ≤ s.length ∧ lk (l.drop i) (s.drop i) = true
  | 0, l, s, _, h => ⟨Nat.zero_le _, h⟩
  | i + 1, l, s, hs, h => by
    obtain ⟨p, h1, h3⟩ := hs 0 (by omega)
    cases l with
    | nil => simp at h1
    | cons q l =>
      simp at h1
      subst h1
      cases s with
      | nil => rw [lk_end h3] at h; cases h
      | cons c s =>
        rw [lk_one h3, Bool.and_eq_true] at h
        obtain ⟨a, b⟩ := single_drop (i := i) (l := l) (s := s) (fun j hj => by
          obtain ⟨p', g1, g2⟩ := hs (j + 1) (by omega)
          exact ⟨p', by simpa using g1, g2⟩) h.2
        exact ⟨by simp only [List.length_cons]; omega, by simpa using b⟩
theorem drop_at {α : Type} {l : List α} {i : Nat} {p : α} (h : l[i]? = some p) : l.drop i = p :: l.drop (i + 1) := by
  obtain ⟨h1, h2⟩ := List.getElem?_eq_some_iff.1 h
  rw [List.drop_eq_getElem_cons h1, h2]
theorem Ahd.singles {l : List Stp} {s : List UInt8} {i : Nat} (h : Ahd l s i) : ∀ j, j < i → ∃ p, l[j]? = some p ∧ p.k ≠ 2 := fun j hj => by
  obtain ⟨p, b, h1, _, h3, _⟩ := h j hj
  exact ⟨p, h1, h3⟩
theorem Ahd.singles1 {l : List Stp} {s : List UInt8} {i : Nat} {p : Stp} (h : Ahd l s i) (hp : l[i]? = some p) (h3 : p.k ≠ 2) : ∀ j, j < i + 1 → ∃ p, l[j]? = some p ∧ p.k ≠ 2 := fun j hj => by
  by_cases e : j = i
  · subst e; exact ⟨p, hp, h3⟩
  · exact h.singles j (by omega)
/-- What is asked at the place to come back to: of the rest, or of some end of it. -/
def askB (after : Bool) (l : List Stp) (s : List UInt8) : Bool := if after then starL (lk l) s else lk l s
theorem ask_row {a : Bool} {l : List Stp} {s : List UInt8} {i : Nat} {p : Stp} (h : Ahd l s i) (hp : l[i]? = some p) (h2 : p.k = 2) : askB a l s = askB true (l.drop (i + 1)) (s.drop i) := by
  have e1 : lk l s = starL (lk (l.drop (i + 1))) (s.drop i) := by rw [h.lk, drop_at hp, lk_row h2]
  unfold askB
  cases a with
  | false => simpa using e1
  | true =>
    simp only [if_true]
    rw [Bool.eq_iff_iff]
    constructor
    · intro hs
      obtain ⟨n, h1, h3⟩ := (star_iff _ _).1 hs
      obtain ⟨g1, g2⟩ := single_drop h.singles h3
      rw [drop_at hp, lk_row h2] at g2
      obtain ⟨m, g3, g4⟩ := (star_iff _ _).1 g2
      refine (star_iff _ _).2 ⟨n + m, ?_, ?_⟩
      · simp only [List.length_drop] at *; omega
      · simp only [List.drop_drop] at *
        rwa [show i + (n + m) = n + i + m by omega] at *
    · intro hs
      exact star_self (by rw [e1]; exact hs)
theorem ask_short {a : Bool} {l : List Stp} {s : List UInt8} {i : Nat} {p : Stp} (h : Ahd l s i) (hp : l[i]? = some p) (h2 : p.k ≠ 2) (hi : s.length ≤ i) : askB a l s = false := by
  rw [Bool.eq_false_iff]
  intro hs
  unfold askB at hs
  cases a with
  | false =>
    have := (single_drop (h.singles1 hp h2) (by simpa using hs)).1
    omega
  | true =>
    obtain ⟨n, h1, h3⟩ := (star_iff _ _).1 (by simpa using hs)
    have := (single_drop (h.singles1 hp h2) h3).1
    simp only [List.length_drop] at this
    omega
theorem lk_wrong {l : List Stp} {s : List UInt8} {i : Nat} {p : Stp} {b : UInt8} (h : Ahd l s i) (hp : l[i]? = some p) (hb : s[i]? = some b) (h2 : p.k ≠ 2) (ht : takesB p b = false) : lk l s = false := by
  rw [h.lk, drop_at hp, drop_at hb, lk_one h2, ht, Bool.false_and]
theorem star_tail {f : List UInt8 → Bool} {s : List UInt8} (h : f s = false) (h1 : 1 ≤ s.length) : starL f s = starL f (s.drop 1) := by
  cases s with
  | nil => simp at h1
  | cons c t => rw [starL, h, Bool.false_or]; rfl
theorem lk_whole {l : List Stp} {s : List UInt8} (h : Ahd l s l.length) : lk l s = decide (s.length = l.length) := by
  rw [h.lk, List.drop_length]
  have := h.le
  unfold lk
  cases e : s.drop l.length with
  | nil =>
    have := List.drop_eq_nil_iff.1 e
    rw [decide_eq_true (by omega)]; rfl
  | cons c t =>
    have : s.length ≠ l.length := fun q => by rw [List.drop_eq_nil_of_le (by omega)] at e; cases e
    rw [decide_eq_false this]; rfl

/-- Patterns put together. -/
theorem steps_app : ∀ (n : Nat) (p q : List UInt8), p.length ≤ n → p.getLast? ≠ some 126 → stepsR (p ++ q) = stepsR p ++ stepsR q
  | _, [], q, _, _ => rfl
  | 0, _ :: _, _, h, _ => by simp at h
  | n + 1, [c], q, _, hl => by
    have h3 : c ≠ 126 := fun e => hl (by simp [e])
    by_cases h1 : c = 63
    · simp only [List.cons_append, List.nil_append]; rw [steps_any h1, steps_any h1]; rfl
    by_cases h2 : c = 42
    · simp only [List.cons_append, List.nil_append]; rw [steps_row h2, steps_row h2]; rfl
    · simp only [List.cons_append, List.nil_append]; rw [steps_self h1 h2 h3, steps_self h1 h2 h3]; rfl
  | n + 1, c :: d :: r, q, h, hl => by
    simp only [List.length_cons] at h
    have hl1 : (d :: r).getLast? ≠ some 126 := by simpa [List.getLast?_cons_cons] using hl
    have i1 := steps_app n (d :: r) q (by simp only [List.length_cons]; omega) hl1
    simp only [List.cons_append] at *
    by_cases h1 : c = 63
    · rw [steps_any h1, steps_any h1, i1]; rfl
    by_cases h2 : c = 42
    · rw [steps_row h2, steps_row h2, i1]; rfl
    by_cases h3 : c = 126
    · rw [steps_own h3, steps_own h3]
      cases r with
      | nil => rfl
      | cons e r =>
        rw [steps_app n (e :: r) q (by simp only [List.length_cons] at *; omega) (by simpa [List.getLast?_cons_cons] using hl1)]; rfl
    · rw [steps_self h1 h2 h3, steps_self h1 h2 h3, i1]; rfl
theorem lk_app : ∀ (a b : List Stp) (s t : List UInt8), lk a s = true → lk b t = true → lk (a ++ b) (s ++ t) = true
  | [], b, s, t, h1, h2 => by
    have : s = [] := by cases s with
      | nil => rfl
      | cons _ _ => cases h1
    subst this; exact h2
  | p :: a, b, s, t, h1, h2 => by
    by_cases hk : p.k = 2
    · rw [List.cons_append, lk_row hk]
      rw [lk_row hk] at h1
      obtain ⟨n, g1, g2⟩ := (star_iff _ _).1 h1
      refine (star_iff _ _).2 ⟨n, by simp only [List.length_append]; omega, ?_⟩
      rw [List.drop_append_of_le_length g1]
      exact lk_app a b _ t g2 h2
    · cases s with
      | nil => rw [lk_end hk] at h1; cases h1
      | cons c s =>
        rw [lk_one hk, Bool.and_eq_true] at h1
        rw [List.cons_append, List.cons_append, lk_one hk, h1.1, Bool.true_and]
        exact lk_app a b s t h1.2 h2
theorem lk_star (s : List UInt8) : lk [⟨2, 0⟩] s = true := by
  rw [lk_row rfl]
  exact (star_iff _ _).2 ⟨s.length, Nat.le_refl _, by rw [List.drop_length]; rfl⟩
theorem lk_wide {b : List Stp} {t : List UInt8} (h : lk b t = true) (u : List UInt8) : lk (⟨2, 0⟩ :: b) (u ++ t) = true := by
  rw [lk_row rfl]
  exact (star_iff _ _).2 ⟨u.length, by simp, by rw [List.drop_left]; exact h⟩
/-- A text without signs of a pattern. -/
def quietB (l : List UInt8) : Bool := l.all fun c => !(c == 63 || c == 42 || c == 126)
theorem steps_quiet : ∀ {l : List UInt8}, quietB l = true → stepsR l = l.map fun c => ⟨0, c⟩
  | [], _ => rfl
  | c :: r, h => by
    unfold quietB at h
    rw [List.all_cons, Bool.and_eq_true] at h
    have h0 := h.1
    simp at h0
    rw [steps_self h0.1.1 h0.1.2 h0.2, steps_quiet (l := r) h.2]; rfl
theorem lk_selves : ∀ (l s : List UInt8), lk (l.map fun c => ⟨0, c⟩) s = decide (l = s)
  | [], [] => rfl
  | [], _ :: _ => rfl
  | _ :: _, [] => rfl
  | c :: l, d :: s => by
    rw [List.map_cons, lk_one (show (0 : Nat) ≠ 2 by decide), lk_selves l s]
    by_cases e : c = d
    · subst e; simp [takesB]
    · have : takesB ⟨0, c⟩ d = false := by simp [takesB, e]
      rw [this, Bool.false_and]
      exact (decide_eq_false (by simp [e])).symm
theorem wild_selves (l : List UInt8) : wildB (l.map fun c => ⟨0, c⟩) = false := by
  unfold wildB
  rw [List.any_map]
  simp
/-- Steps that are not wild stand for one text. -/
theorem lk_tame : ∀ {l : List Stp} (s : List UInt8), wildB l = false → lk l s = decide (ownsR l = s)
  | [], s, _ => by cases s <;> rfl
  | p :: l, s, h => by
    unfold wildB at h
    rw [List.any_cons, Bool.or_eq_false_iff] at h
    have hk : p.k = 0 := by simpa using h.1
    have ih := lk_tame (l := l) (s := s.drop 1) h.2
    cases s with
    | nil => rw [lk_end (by omega)]; rfl
    | cons c s =>
      rw [lk_one (by omega)]
      have ih : lk l s = decide (ownsR l = s) := ih
      rw [ih]
      unfold takesB ownsR
      rw [hk, List.map_cons]
      by_cases e : p.o = c <;> simp [e]
end Go.Proofs.YthooimaadgabiabDoor
