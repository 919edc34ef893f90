/-
  Plain words on the answer's Right: a node has what its kind has, and is what its kind asks for.
-/
import Derived.Test.YtijjnchedgllgaaDoorFmK
import Derived.Test.YtijjnchedgllgaaDoorZ2b
import Derived.Test.YtijjnchedgllgaaDoorFmX
namespace Go.Proofs.YtijjnchedgllgaaDoor
open Go.RowKit Go.Shelf

def plainB (h : Hd) : Bool :=
  if h.kind = 1 then noCell h && noTo h && h.txt.isEmpty
  else if h.kind = 2 then noVal h && noTo h && h.txt.isEmpty
  else if h.kind = 3 then noVal h && h.txt.isEmpty
  else if h.kind = 5 ∨ h.kind = 6 then noVal h && noCell h && noTo h
  else noVal h && noCell h && noTo h && h.txt.isEmpty
def swB (h : Hd) (n : Nat) : Bool :=
  if h.kind = 1 then decide (n = 0) && constB h
  else if h.kind = 2 then decide (n = 0) && Pla.placeB h.row h.col
  else if h.kind = 3 then decide (n = 0) && Pla.placeB h.row h.col && Pla.placeB h.row2 h.col2
  else if h.kind = 4 then decide (n = 1)
  else if h.kind = 5 then decide (n = 2) && decide (0 < bindN h.txt)
  else if h.kind = 6 then nmB h.txt && decide (foldL h.txt = h.txt)
  else false
theorem nm_byte (c : UInt8) : nameC c = (nmC c && decide (foldB c = c)) := by
  have hu : c.toNat < 256 := UInt8.toNat_lt _
  by_cases h : 97 ≤ c.toNat ∧ c.toNat ≤ 122
  · have e := foldB_in h.1 h.2
    have hn : foldB c ≠ c := fun q => by rw [q] at e; omega
    rw [show nameC c = false by unfold nameC greatB digitB; simp; omega, show decide (foldB c = c) = false from decide_eq_false hn, Bool.and_false]
  · rw [foldB_out h, decide_eq_true rfl, Bool.and_true]
    unfold nameC nmC greatB digitB letterB isDig
    rw [Bool.eq_iff_iff]
    simp
    omega
theorem nm_head (c : UInt8) (h : foldB c = c) : greatB c = letterB c := by
  have hu : c.toNat < 256 := UInt8.toNat_lt _
  by_cases h1 : 97 ≤ c.toNat ∧ c.toNat ≤ 122
  · have e := foldB_in h1.1 h1.2
    rw [h] at e
    omega
  · unfold greatB letterB
    rw [Bool.eq_iff_iff]
    simp
    omega
theorem map_self {f : UInt8 → UInt8} : ∀ {l : List UInt8}, l.map f = l ↔ ∀ x ∈ l, f x = x
  | [] => by simp
  | c :: r => by rw [List.map_cons, List.cons.injEq, map_self (l := r)]; simp
theorem name_nm (l : List UInt8) : nameOk l = (nmB l && decide (foldL l = l)) := by
  cases l with
  | nil => rfl
  | cons c r =>
    by_cases hf : foldL (c :: r) = c :: r
    · have hc : ∀ x ∈ c :: r, foldB x = x := fun x hx => by
        have h := map_self.1 hf
        exact h x hx
      rw [decide_eq_true hf, Bool.and_true]
      have h2 : (c :: r).all nameC = (c :: r).all nmC := by
        rw [Bool.eq_iff_iff, List.all_eq_true, List.all_eq_true]
        constructor
        · intro h x hx
          have := h x hx
          rw [nm_byte] at this
          simp at this
          exact this.1
        · intro h x hx
          rw [nm_byte, h x hx, decide_eq_true (hc x hx)]
          rfl
      unfold nameOk nmB
      rw [h2]
      simp only [List.headD_cons, nm_head c (hc c (by simp)), List.length_cons, List.isEmpty_cons]
      simp
    · rw [decide_eq_false hf, Bool.and_false]
      have : ¬ ∀ x ∈ c :: r, foldB x = x := fun h => hf (map_self.2 h)
      have h2 : (c :: r).all nameC = false := by
        rw [List.all_eq_false]
        refine Classical.byContradiction fun hn => this fun x hx => ?_
        refine Classical.byContradiction fun hx2 => hn ⟨x, hx, ?_⟩
        rw [nm_byte, decide_eq_false hx2]
        simp
      unfold nameOk
      rw [h2, Bool.and_false]
theorem alone_split (h : Hd) (n : Nat) : aloneB h n = (plainB h && swB h n) := by
  unfold aloneB plainB swB
  by_cases h1 : h.kind = 1
  · simp only [if_pos h1]; ac_rfl
  simp only [if_neg h1]
  by_cases h2 : h.kind = 2
  · simp only [if_pos h2]; ac_rfl
  simp only [if_neg h2]
  by_cases h3 : h.kind = 3
  · simp only [if_pos h3]; ac_rfl
  simp only [if_neg h3]
  by_cases h4 : h.kind = 4
  · simp only [if_pos h4]
    rw [if_neg (by omega)]; ac_rfl
  simp only [if_neg h4]
  by_cases h5 : h.kind = 5
  · simp only [if_pos h5]
    rw [if_pos (Or.inl h5)]; ac_rfl
  simp only [if_neg h5]
  by_cases h6 : h.kind = 6
  · simp only [if_pos h6]
    rw [if_pos (Or.inr h6), name_nm]; ac_rfl
  simp only [if_neg h6, Bool.and_false]
/-- The lost reference, of a node that is right, is told by three cells. -/
theorem lost_right {h : Hd} {n : Nat} (e : aloneB h n = true) : lostB h = (decide (h.kind = 1) && (decide (h.vk = 4) && decide (h.vc = 3))) := by
  unfold lostB
  by_cases h1 : h.kind = 1
  · by_cases h4 : h.vk = 4
    · have hc : constB h = true := by
        unfold aloneB at e
        rw [if_pos h1] at e
        simp only [Bool.and_eq_true] at e
        exact e.1.1.1.1
      unfold constB at hc
      simp only [Bool.and_eq_true] at hc
      have hr := hc.1.1
      rw [h4] at hr
      unfold rightB at hr
      simp at hr
      simp [h1, h4, hr]
    · simp [h4]
  · simp [h1]
/-- A right node's place. -/
theorem of_right {h : Hd} {n : Nat} (e : aloneB h n = true) : (h.kind = 2 → rectH h = ((h.row, h.col, h.row, h.col), true)) ∧ (h.kind = 3 → (rectH h).2 = true) ∧ (h.kind ≠ 2 → h.kind ≠ 3 → (rectH h).2 = false) := by
  refine ⟨fun h2 => ?_, fun h3 => ?_, fun h2 h3 => ?_⟩
  · have hp : Pla.placeB h.row h.col = true := by
      unfold aloneB at e
      rw [if_neg (by omega), if_pos h2] at e
      simp only [Bool.and_eq_true] at e
      exact e.1.1.1.1
    unfold rectH ofH rangeB
    rw [if_pos h2]
    unfold Pla.ofR
    simp [h2, hp]
  · have hp : Pla.placeB h.row h.col = true ∧ Pla.placeB h.row2 h.col2 = true := by
      unfold aloneB at e
      rw [if_neg (by omega), if_neg (by omega), if_pos h3] at e
      simp only [Bool.and_eq_true] at e
      exact e.1.1.1
    unfold rectH ofH rangeB
    rw [if_neg (show ¬ h.kind = 2 by omega)]
    unfold Pla.ofR
    simp [h3, hp]
  · unfold rectH rangeB
    simp [h2, h3]
/-- What is wrong with some kids, one by one. -/
theorem first_kid (h : Hd) (k r : Fo) : firstE (preF (.cons h k r)) = if firstE (preF (.cons h k .nil)) = 0 then firstE (preF r) else firstE (preF (.cons h k .nil)) := by
  have e : preF (.cons h k r) = preF (.cons h k .nil) ++ preF r := by simp [preF]
  rw [e]
  split
  · rename_i h0; exact first_app _ _ h0
  · rename_i h0; exact first_pre _ _ h0
theorem first_node (h : Hd) (k : Fo) : firstE (preF (.cons h k .nil)) = if callP (h, k) = 0 then firstE (preF k) else callP (h, k) := by
  simp [preF, firstE]
end Go.Proofs.YtijjnchedgllgaaDoor
