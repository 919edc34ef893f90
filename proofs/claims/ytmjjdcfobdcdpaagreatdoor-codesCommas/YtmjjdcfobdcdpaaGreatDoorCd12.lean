/-
  Where the commas stand in a grouped number, and what it is without them.
-/
import Derived.Test.YtmjjdcfobdcdpaaGreatDoorCd11
namespace Go.Proofs.YtmjjdcfobdcdpaaGreatDoor
open Go.RowKit
set_option linter.unusedSimpArgs false

/-- A comma stands ahead of each three bytes from the right. -/
def CommaAt (l : List UInt8) : Prop := ∀ i c, l[i]? = some c → (c = 44 ↔ (l.length - i) % 4 = 0)
def noC (l : List UInt8) : Prop := ∀ c ∈ l, c ≠ 44
def bareL (l : List UInt8) : List UInt8 := l.filter fun c => c != 44
theorem noC_take {l : List UInt8} (h : noC l) (k : Nat) : noC (l.take k) := fun c hc => h c (List.mem_of_mem_take hc)
theorem noC_drop {l : List UInt8} (h : noC l) (k : Nat) : noC (l.drop k) := fun c hc => h c (List.mem_of_mem_drop hc)
theorem bare_noC {l : List UInt8} (h : noC l) : bareL l = l := by
  unfold bareL
  rw [List.filter_eq_self]
  intro c hc
  simp [h c hc]
theorem bareL_app (a b : List UInt8) : bareL (a ++ b) = bareL a ++ bareL b := by unfold bareL; rw [List.filter_append]
theorem comma_app {d out : List UInt8} (hd : noC d) (h3 : d.length ≤ 3) (ho : out.length % 4 = 0) (h : CommaAt out) : CommaAt (d ++ out) := by
  intro i c hi
  rw [List.length_append]
  by_cases hl : i < d.length
  · rw [List.getElem?_append_left hl] at hi
    have := hd c (List.mem_of_getElem? hi)
    constructor
    · intro e; exact absurd e this
    · intro e; omega
  · rw [List.getElem?_append_right (by omega)] at hi
    have := h (i - d.length) c hi
    rw [this]
    have hlt := (List.getElem?_eq_some_iff.1 hi).1
    rw [show d.length + out.length - i = out.length - (i - d.length) by omega]
theorem comma_step {d out : List UInt8} (hd : noC d) (h3 : d.length = 3) (ho : out.length % 4 = 0) (h : CommaAt out) : CommaAt (44 :: d ++ out) := by
  have h1 := comma_app hd (by omega) ho h
  intro i c hi
  cases i with
  | zero =>
    simp at hi
    subst hi
    simp only [List.length_append, List.length_cons]
    constructor
    · intro _; omega
    · intro _; trivial
  | succ i =>
    have := h1 i c (by simpa using hi)
    rw [this]
    simp only [List.cons_append, List.length_append, List.length_cons]
    rw [show d.length + out.length + 1 - (i + 1) = d.length + out.length - i by omega]
theorem group_comma : ∀ (n : Nat) (d out : List UInt8), d.length ≤ n → noC d → out.length % 4 = 0 → CommaAt out → CommaAt (groupF n d out)
  | 0, d, out, hn, hd, ho, h => by
    rw [groupF]
    exact comma_app hd (by omega) ho h
  | n + 1, d, out, hn, hd, ho, h => by
    by_cases h3 : 3 < d.length
    · rw [group_big n d out h3]
      refine group_comma n _ _ (by simp only [List.length_take]; omega) (noC_take hd _) ?_ ?_
      · simp only [List.cons_append, List.length_cons, List.length_append, List.length_drop]; omega
      · exact comma_step (noC_drop hd _) (by simp only [List.length_drop]; omega) ho h
    · rw [group_small _ d out h3]
      exact comma_app hd (by omega) ho h
theorem group_bare : ∀ (n : Nat) (d out : List UInt8), d.length ≤ n → noC d → bareL (groupF n d out) = d ++ bareL out
  | 0, d, out, hn, hd => by rw [groupF, bareL_app, bare_noC hd]
  | n + 1, d, out, hn, hd => by
    by_cases h3 : 3 < d.length
    · rw [group_big n d out h3, group_bare n _ _ (by simp only [List.length_take]; omega) (noC_take hd _)]
      rw [bareL_app, show bareL (44 :: d.drop (d.length - 3)) = bareL (d.drop (d.length - 3)) from rfl, bare_noC (noC_drop hd _), ← List.append_assoc, List.take_append_drop]
    · rw [group_small _ d out h3, bareL_app, bare_noC hd]
theorem group_head : ∀ (n : Nat) (d out : List UInt8), d ≠ [] → (groupF n d out).head? = d.head?
  | 0, d, out, hd => by
    rw [groupF]
    cases d with
    | nil => exact absurd rfl hd
    | cons c d => rfl
  | n + 1, d, out, hd => by
    by_cases h3 : 3 < d.length
    · rw [group_big n d out h3, group_head n _ _ (fun e => by have := congrArg List.length e; simp at this; omega)]
      rw [List.head?_take, if_neg (by omega)]
    · rw [group_small _ d out h3]
      cases d with
      | nil => exact absurd rfl hd
      | cons c d => rfl
theorem group_mem : ∀ (n : Nat) (d out : List UInt8) (c : UInt8), c ∈ groupF n d out → c ∈ d ∨ c ∈ out ∨ c = 44
  | 0, d, out, c, h => by
    rw [groupF] at h
    rcases List.mem_append.1 h with h | h
    · exact .inl h
    · exact .inr (.inl h)
  | n + 1, d, out, c, h => by
    by_cases h3 : 3 < d.length
    · rw [group_big n d out h3] at h
      rcases group_mem n _ _ c h with h | h | h
      · exact .inl (List.mem_of_mem_take h)
      · rcases List.mem_append.1 h with h | h
        · rcases List.mem_cons.1 h with h | h
          · exact .inr (.inr h)
          · exact .inl (List.mem_of_mem_drop h)
        · exact .inr (.inl h)
      · exact .inr (.inr h)
    · rw [group_small _ d out h3] at h
      rcases List.mem_append.1 h with h | h
      · exact .inl h
      · exact .inr (.inl h)
/-- What the law asks at a place of the text. -/
def PlaceOk (l : List UInt8) : Prop := ∀ i c, l[i]? = some c → (c = 44 ∧ (l.length - i) % 4 = 0 ∧ 0 < i ∧ ∀ d, l[i - 1]? = some d → d ≠ 45) ∨ (c ≠ 44 ∧ ((l.length - i) % 4 ≠ 0 ∨ i = 0))
theorem place_ok {D : List UInt8} (neg : Bool) (hd : noC D) (h45 : ∀ c ∈ D, c ≠ 45) (hn : D ≠ []) : PlaceOk ((if neg then [45] else []) ++ groupR D) := by
  have h1 : CommaAt (groupR D) := group_comma _ D [] (Nat.le_refl _) hd rfl (fun i c hi => by simp at hi)
  have hh : (groupR D).head? = D.head? := group_head _ D [] hn
  have hm : ∀ c ∈ groupR D, c ≠ 45 := fun c hc => by
    rcases group_mem _ _ _ c hc with h | h | h
    · exact h45 c h
    · simp at h
    · subst h; decide
  have h0 : ∀ c, (groupR D)[0]? = some c → c ≠ 44 := fun c hc => by
    rw [← List.head?_eq_getElem?, hh] at hc
    exact hd c (List.mem_of_head? hc)
  generalize groupR D = G at *
  intro i c hi
  cases neg
  · simp only [Bool.false_eq_true, if_false, List.nil_append] at *
    have := h1 i c hi
    by_cases e : c = 44
    · have hi0 : i ≠ 0 := fun z => by subst z; exact h0 c hi e
      exact .inl ⟨e, this.1 e, by omega, fun d hd' => hm d (List.mem_of_getElem? hd')⟩
    · exact .inr ⟨e, .inl (fun z => e (this.2 z))⟩
  · simp only [if_true, List.cons_append, List.nil_append, List.length_cons] at *
    cases i with
    | zero =>
      simp at hi
      subst hi
      exact .inr ⟨by decide, .inr rfl⟩
    | succ i =>
      have hi' : G[i]? = some c := by simpa using hi
      have := h1 i c hi'
      rw [show G.length + 1 - (i + 1) = G.length - i by omega]
      by_cases e : c = 44
      · refine .inl ⟨e, this.1 e, by omega, fun d hd' => ?_⟩
        cases i with
        | zero => exact absurd e (h0 c hi')
        | succ i => exact hm d (List.mem_of_getElem? (by simpa using hd'))
      · exact .inr ⟨e, .inl (fun z => e (this.2 z))⟩
theorem dig_noC {D : List UInt8} (h : D.all isDig = true) : noC D ∧ ∀ c ∈ D, c ≠ 45 := by
  refine ⟨fun c hc e => ?_, fun c hc e => ?_⟩
  all_goals
    have := isDig_iff.1 (List.all_eq_true.1 h c hc)
    subst e
    simp at this
end Go.Proofs.YtmjjdcfobdcdpaaGreatDoor
