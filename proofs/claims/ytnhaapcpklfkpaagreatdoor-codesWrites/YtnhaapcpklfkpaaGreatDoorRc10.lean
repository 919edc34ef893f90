/-
  The answer's Check and Plain.
-/
import Derived.Test.YtnhaapcpklfkpaaGreatDoorRc9
namespace Go.Proofs.YtnhaapcpklfkpaaGreatDoor
open Go.RowKit
set_option linter.unusedSimpArgs false

theorem readT_cases {n₀ : Nat} {w : World} {S : List UInt8} {e : Ending} {W : World} (h : ReadT n₀ w S e W) :
    (secsOpt S = none ∧ e = .returned (.tuple #[.slice none 0 0, .int .i64 (checkR S)]) ∧ checkR S ≠ 0) ∨
    (∃ (ss : List (List Pc)) (g cap : Nat) (G : List (Value × List Pc)) (C : Array Value), secsOpt S = some ss ∧ checkR S = 0 ∧ e = .returned (.tuple #[.slice (some ⟨g, 0, none⟩) G.length cap, .int .i64 0]) ∧ RR n₀ W g cap G C ∧ G.map Prod.snd = ss.map (·.map kkP)) := by
  unfold ReadT at h
  unfold secsOpt checkR
  by_cases hl : 60 < S.length
  · rw [if_pos hl] at h
    exact .inl ⟨by rw [if_pos hl], by rw [if_pos hl]; exact h, by rw [if_pos hl]; decide⟩
  · rw [if_neg hl] at h
    rw [if_neg hl, if_neg hl]
    cases hr : readR S with
    | none =>
      rw [hr] at h
      exact .inl ⟨rfl, h, by decide⟩
    | some ss =>
      rw [hr] at h
      obtain ⟨g, cap, G, C, h1, h2, h3⟩ := h
      exact .inr ⟨ss, g, cap, G, C, rfl, rfl, h1, h2, h3⟩
end Go.Proofs.YtnhaapcpklfkpaaGreatDoor
