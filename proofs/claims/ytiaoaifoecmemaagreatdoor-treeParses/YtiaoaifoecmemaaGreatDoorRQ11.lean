/-
  Plain words: the reader does not look at where tokens stand; what is behind a node does not matter, if nothing binds there.
  Plain words: blanks and brackets about a formula change nothing of what is read.
  Plain words: the token that a token's own text begins with, by what stands behind it.
  Plain words: a right node's text is read as the node.
-/
import Derived.Test.YtiaoaifoecmemaaGreatDoorRQ5
namespace Go.Proofs.YtiaoaifoecmemaaGreatDoor
open Go.RowKit
end Go.Proofs.YtiaoaifoecmemaaGreatDoor
namespace Go.Proofs.YtiaoaifoecmemaaGreatDoor
open Go.RowKit
def Apart (r : List UInt8) : Prop := ∀ c, r.head? = some c → wordB c = false ∧ c.toNat ≠ 34 ∧ c.toNat ≠ 40
theorem apart_cons {c : UInt8} (r : List UInt8) (h1 : wordB c = false) (h2 : c.toNat ≠ 34) (h3 : c.toNat ≠ 40) : Apart (c :: r) := fun d h => by
 simp at h; subst h; exact ⟨h1, h2, h3⟩
theorem first_eq (c : UInt8) (r : List UInt8) : firstT (c :: r) = if isDig c then numberT (c :: r) else if c.toNat = 34 then textT (c :: r) else if c.toNat = 35 then faultT (c :: r) else if letterB c || decide (c.toNat = 36) then wordT (c :: r) else signT (c :: r) := rfl
theorem bind_sign {s : List UInt8} (h : 0 < bindN s) : s ∈ signs ∧ ∀ r, Apart (s ++ r) := by
  have hs : s = [61] ∨ s = [60, 62] ∨ s = [60] ∨ s = [62] ∨ s = [60, 61] ∨ s = [62, 61] ∨ s = [38] ∨ s = [43] ∨ s = [45] ∨ s = [42] ∨ s = [47] := by
    unfold bindN at h
    split at h
    · rename_i e; rcases e with e | e | e | e | e | e <;> simp [e]
    · split at h
      · rename_i e; simp [e]
      · split at h
        · rename_i e; rcases e with e | e <;> simp [e]
        · split at h
          · rename_i e; rcases e with e | e <;> simp [e]
          · exact absurd h (by omega)
  rcases hs with rfl | rfl | rfl | rfl | rfl | rfl | rfl | rfl | rfl | rfl | rfl
  all_goals exact ⟨by decide, fun r => apart_cons _ (by decide) (by decide) (by decide)⟩
end Go.Proofs.YtiaoaifoecmemaaGreatDoor
