/-
  Plain words for LexParts and LexPlaces: a run of tokens, behind blanks, ahead of a blank, from a place on.
-/
import Derived.Test.YtiaoaifoecmemaaGreatDoorRLxTextsMath
namespace Go.Proofs.YtiaoaifoecmemaaGreatDoor
open Go.RowKit
theorem first_kind {l : List UInt8} (h : l ≠ []) (h0 : (firstT l).1.kind = 0) : (firstT l).2.2 ≠ 0 := by
  match l, h with
  | c :: r, _ =>
    have hf : firstT (c :: r) = if isDig c then numberT (c :: r) else if c.toNat = 34 then textT (c :: r) else if c.toNat = 35 then faultT (c :: r) else if letterB c || decide (c.toNat = 36) then wordT (c :: r) else signT (c :: r) := rfl
    rw [hf] at h0 ⊢
    split at h0
    · rw [if_pos (by assumption)]
      unfold numberT at h0 ⊢
      split at h0
      · simp [valTok] at h0
      · rw [if_neg (by assumption)]; assumption
    · rw [if_neg (by assumption)]
      split at h0
      · rw [if_pos (by assumption)]
        unfold textT at h0 ⊢
        cases e : txt (c :: r).tail with
        | none => simp [textOfT]
        | some x =>
          rw [e] at h0
          simp only [textOfT] at h0 ⊢
          split at h0
          · rw [if_pos (by assumption)]; simp
          · simp [valTok] at h0
      · rw [if_neg (by assumption)]
        split at h0
        · rw [if_pos (by assumption)]
          unfold faultT at h0 ⊢
          cases e : pick nameL (c :: r) 1 7 with
          | none => simp [faultOfT]
          | some x => rw [e] at h0; simp [faultOfT, valTok] at h0
        · rw [if_neg (by assumption)]
          split at h0
          · rw [if_pos (by assumption)]
            unfold wordT at h0 ⊢
            split at h0
            · rw [if_pos (by assumption)]
              unfold nameT at h0 ⊢
              split at h0
              · rw [if_pos (by assumption)]; simp
              · simp [nameTok] at h0
            · rw [if_neg (by assumption)]
              unfold plainT at h0 ⊢
              split at h0
              · simp [valTok] at h0
              · rw [if_neg (by assumption)]
                split at h0
                · simp [cellTok] at h0
                · rw [if_neg (by assumption)]; assumption
          · rw [if_neg (by assumption)]
            unfold signT at h0 ⊢
            cases e : pick signL (c :: r) 0 15 with
            | none => simp [signOfT]
            | some x => rw [e] at h0; simp [signOfT, opTok] at h0
theorem run_blank (f p : Nat) (l : List UInt8) : runG (f + 1) p (32 :: l) = runG (f + 1) (p + 1) l := by
 have hb : runN blankB (32 :: l) = runN blankB l + 1 := by
  unfold runN; rw [List.takeWhile_cons, if_pos (by decide)]; rfl
 rw [run_step f p (32 :: l) _ hb _ rfl, run_step f (p + 1) l _ rfl _ rfl, List.drop_succ_cons]
 have e1 : p + (runN blankB l + 1) = p + 1 + runN blankB l := by omega
 rw [e1]
theorem run_ne {f p : Nat} {l : List UInt8} (h : 0 < f) : runG f p l ≠ [] := by
 obtain ⟨g, rfl⟩ : ∃ g, f = g + 1 := ⟨f - 1, by omega⟩
 rw [run_step g p l _ rfl _ rfl]; simp
end Go.Proofs.YtiaoaifoecmemaaGreatDoor
