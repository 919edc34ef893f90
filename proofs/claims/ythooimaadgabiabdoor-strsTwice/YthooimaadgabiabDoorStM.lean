/-
  A pattern with a * behind it: what it is like.
-/
import Derived.Test.YthooimaadgabiabDoorSt0
import Derived.Test.YthooimaadgabiabDoorCr3
import Derived.Test.YthooimaadgabiabDoorStLk
import Derived.Lib.TrimByte
namespace Go.Proofs.YthooimaadgabiabDoor

def openR (p : By) : By := (if (p.length - (Lib.trimRightB p 126).length) % 2 = 1 then p ++ [126] else p) ++ [42]
theorem tw_rep (l : By) (c : UInt8) : l.takeWhile (· == c) = List.replicate (l.takeWhile (· == c)).length c := by
  refine List.eq_replicate_iff.2 ⟨rfl, fun x hx => ?_⟩
  have := List.all_eq_true.1 (List.all_takeWhile (p := (· == c)) (l := l)) x hx
  simpa using this
theorem trim_parts (p : By) : ∃ m, p = Lib.trimRightB p 126 ++ List.replicate m 126 ∧ p.length - (Lib.trimRightB p 126).length = m ∧ (Lib.trimRightB p 126).getLast? ≠ some 126 := by
  unfold Lib.trimRightB
  have h1 : p.reverse = p.reverse.takeWhile (· == 126) ++ p.reverse.dropWhile (· == 126) := (List.takeWhile_append_dropWhile ..).symm
  have h2 : p = (p.reverse.dropWhile (· == 126)).reverse ++ List.replicate (p.reverse.takeWhile (· == 126)).length 126 := by
    have := congrArg List.reverse h1
    rw [List.reverse_reverse, List.reverse_append] at this
    rw [tw_rep p.reverse 126, List.reverse_replicate] at this
    exact this
  refine ⟨_, h2, ?_, ?_⟩
  · have := congrArg List.length h2
    rw [List.length_append, List.length_replicate] at this
    omega
  · rw [List.getLast?_reverse]
    intro e
    have := List.head?_dropWhile_not (p := (· == (126 : UInt8))) (l := p.reverse)
    rw [e] at this
    simp at this
theorem steps_even (k : Nat) (t : By) : stepsR (List.replicate (2 * k) 126 ++ t) = List.replicate k ⟨0, 126⟩ ++ stepsR t := by
  induction k with
  | zero => rfl
  | succ k ih =>
    rw [show 2 * (k + 1) = 2 * k + 1 + 1 by omega, List.replicate_succ, List.replicate_succ, List.cons_append, List.cons_append, steps_own rfl, ih, List.replicate_succ, List.cons_append]
theorem steps_tildes (m : Nat) : stepsR (List.replicate m 126 ++ ((if m % 2 = 1 then [126] else []) ++ [42])) = stepsR (List.replicate m 126) ++ [⟨2, 0⟩] := by
  obtain ⟨k, h | h⟩ : ∃ k, m = 2 * k ∨ m = 2 * k + 1 := ⟨m / 2, by omega⟩
  · subst h
    rw [if_neg (by omega), List.nil_append, steps_even]
    have := steps_even k []
    rw [List.append_nil] at this
    rw [this]
    simp [stepsR]
  · subst h
    rw [if_pos (by omega), List.replicate_succ', List.append_assoc, steps_even, steps_even]
    have e1 : stepsR ([126] ++ ([126] ++ [42])) = [⟨0, 126⟩, ⟨2, 0⟩] := by decide
    have e2 : stepsR [126] = [⟨0, 126⟩] := by decide
    rw [e1, e2]
    simp
theorem foldL_app (a b : By) : foldL (a ++ b) = foldL a ++ foldL b := by unfold foldL; exact List.map_append
theorem fold_rep (m : Nat) : foldL (List.replicate m 126) = List.replicate m 126 := by
  unfold foldL; rw [List.map_replicate]; rfl
theorem steps_open (p : By) : stepsR (foldL (openR p)) = stepsR (foldL p) ++ [⟨2, 0⟩] := by
  obtain ⟨m, h1, h2, h3⟩ := trim_parts p
  have h4 : (foldL (Lib.trimRightB p 126)).getLast? ≠ some 126 := by
    unfold foldL
    rw [List.getLast?_map]
    intro e
    cases hl : (Lib.trimRightB p 126).getLast? with
    | none => rw [hl] at e; cases e
    | some c =>
      rw [hl] at e h3
      have e : foldB c = 126 := by simpa using e
      exact h3 (by rw [(fold_same (.inr (.inr rfl))).1 e])
  have e1 : openR p = Lib.trimRightB p 126 ++ (List.replicate m 126 ++ ((if m % 2 = 1 then [126] else []) ++ [42])) := by
    unfold openR
    rw [h2]
    by_cases h : m % 2 = 1
    · rw [if_pos h, if_pos h]
      conv => lhs; rw [h1]
      simp
    · rw [if_neg h, if_neg h]
      conv => lhs; rw [h1]
      simp
  have e2 : foldL p = foldL (Lib.trimRightB p 126) ++ List.replicate m 126 := by
    conv => lhs; rw [h1]
    rw [foldL_app, fold_rep]
  have e3 : foldL (openR p) = foldL (Lib.trimRightB p 126) ++ (List.replicate m 126 ++ ((if m % 2 = 1 then [126] else []) ++ [42])) := by
    rw [e1, foldL_app, foldL_app, fold_rep, foldL_app]
    congr 3
    by_cases h : m % 2 = 1
    · rw [if_pos h]; rfl
    · rw [if_neg h]; rfl
  rw [e3, e2, steps_app _ _ _ (Nat.le_refl _) h4, steps_app _ _ _ (Nat.le_refl _) h4, steps_tildes, List.append_assoc]
theorem lk_split : ∀ (a b : List Stp) (s : By), lk (a ++ b) s = true → ∃ n, n ≤ s.length ∧ lk a (s.take n) = true ∧ lk b (s.drop n) = true
  | [], b, s, h => ⟨0, Nat.zero_le _, rfl, h⟩
  | p :: a, b, s, h => by
    rw [List.cons_append] at h
    by_cases hk : p.k = 2
    · rw [lk_row hk] at h
      obtain ⟨n, h1, h2⟩ := (star_iff _ _).1 h
      obtain ⟨m, g1, g2, g3⟩ := lk_split a b _ h2
      rw [List.length_drop] at g1
      refine ⟨n + m, by omega, ?_, ?_⟩
      · rw [lk_row hk]
        refine (star_iff _ _).2 ⟨n, by rw [List.length_take]; omega, ?_⟩
        rw [List.drop_take, show n + m - n = m by omega]
        exact g2
      · rw [List.drop_drop] at g3
        exact g3
    · cases s with
      | nil => rw [lk_end hk] at h; cases h
      | cons c t =>
        rw [lk_one hk, Bool.and_eq_true] at h
        obtain ⟨m, g1, g2, g3⟩ := lk_split a b t h.2
        refine ⟨m + 1, by simp only [List.length_cons]; omega, ?_, g3⟩
        rw [List.take_succ_cons, lk_one hk, h.1, g2]; rfl
/-- Is some beginning of a text like a pattern? -/
def anyL (p r : By) : Bool := (List.range (r.length + 1)).any fun n => likeR p (r.take n)
theorem any_iff {p r : By} : anyL p r = true ↔ ∃ n, n ≤ r.length ∧ likeR p (r.take n) = true := by
  unfold anyL
  rw [List.any_eq_true]
  constructor
  · rintro ⟨n, h1, h2⟩
    exact ⟨n, by have := List.mem_range.1 h1; omega, h2⟩
  · rintro ⟨n, h1, h2⟩
    exact ⟨n, List.mem_range.2 (by omega), h2⟩
theorem foldL_take (r : By) (n : Nat) : foldL (r.take n) = (foldL r).take n := by unfold foldL; exact List.map_take
theorem like_open (p r : By) : likeR (openR p) r = anyL p r := by
  rw [Bool.eq_iff_iff, any_iff]
  unfold likeR
  rw [steps_open]
  constructor
  · intro h
    obtain ⟨n, h1, h2, _⟩ := lk_split _ _ _ h
    rw [foldL_len] at h1
    exact ⟨n, h1, by rw [foldL_take]; exact h2⟩
  · rintro ⟨n, h1, h2⟩
    rw [foldL_take] at h2
    have := lk_app _ [⟨2, 0⟩] _ ((foldL r).drop n) h2 (lk_star _)
    rwa [List.take_append_drop] at this
def srS (p s : By) (from_ : Int) : Option Int := if 255 < p.length then none else plS (anyL p) s from_
end Go.Proofs.YthooimaadgabiabDoor
