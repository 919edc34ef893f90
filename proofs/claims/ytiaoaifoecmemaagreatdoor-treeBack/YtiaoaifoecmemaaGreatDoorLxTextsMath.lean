/-
  Plain words for LexTexts: a text with its quotes doubled, in quotes, is told as it is.
-/
import Derived.Test.YtiaoaifoecmemaaGreatDoorLxM2
namespace Go.Proofs.YtiaoaifoecmemaaGreatDoor
open Go.RowKit

/-- Each quote twice. -/
def dbl : List UInt8 → List UInt8
  | [] => []
  | c :: r => if c.toNat = 34 then 34 :: c :: dbl r else c :: dbl r
theorem dbl_len : ∀ (l : List UInt8), (dbl l).length ≤ 2 * l.length
  | [] => by simp [dbl]
  | c :: r => by
    have := dbl_len r
    simp only [dbl]
    split <;> simp <;> omega
theorem dbl_app : ∀ (l m : List UInt8), dbl (l ++ m) = dbl l ++ dbl m
  | [], m => rfl
  | c :: r, m => by
    have := dbl_app r m
    simp only [dbl, List.cons_append]
    split <;> simp [this]
theorem txt_dbl : ∀ (l : List UInt8), txt (dbl l ++ [34]) = some (l, (dbl l).length + 1)
  | [] => by simp [dbl, txt]
  | c :: r => by
    have ih := txt_dbl r
    simp only [dbl]
    by_cases h : c.toNat = 34
    · rw [if_pos h]
      have hc := byte34.1 h
      subst hc
      rw [List.cons_append, List.cons_append, txt_two, ih]
      simp
    · rw [if_neg h, List.cons_append, txt_in _ h, ih]
      simp
theorem blank_none {c : UInt8} {r : List UInt8} (h : blankB c = false) : runN blankB (c :: r) = 0 := by
  unfold runN; rw [List.takeWhile_cons, if_neg (by rw [h]; simp)]; rfl
theorem first_quote (r : List UInt8) : firstT (34 :: r) = textOfT (txt r) := by
  have h : firstT (34 :: r) = if isDig 34 then numberT (34 :: r) else if (34 : UInt8).toNat = 34 then textT (34 :: r) else if (34 : UInt8).toNat = 35 then faultT (34 :: r) else if letterB 34 || decide ((34 : UInt8).toNat = 36) then wordT (34 :: r) else signT (34 :: r) := rfl
  rw [h, if_neg (by decide), if_pos (by decide)]
  rfl
/-- The last step of a run, and one that goes on. -/
theorem run_last {f p : Nat} {l : List UInt8} {b : Nat} (hb : runN blankB l = b) {x : Tok × Nat × Int} (hx : firstT (l.drop b) = x) (h0 : x.1.kind = 0) : runG (f + 1) p l = [(x.1.put ((p + b : Nat) : Int), x.2.2)] := by
  rw [run_step f p l b hb x hx, if_pos h0]
theorem run_more {f p : Nat} {l : List UInt8} {b : Nat} (hb : runN blankB l = b) {x : Tok × Nat × Int} (hx : firstT (l.drop b) = x) (h0 : x.1.kind ≠ 0) : runG (f + 1) p l = (x.1.put ((p + b : Nat) : Int), x.2.2) :: runG f (p + b + x.2.1) ((l.drop b).drop x.2.1) := by
  rw [run_step f p l b hb x hx, if_neg h0]
theorem scan_texts (l : List UInt8) (h : l.length ≤ 300) : scanR (34 :: (dbl l ++ [34])) = if 255 < l.length then ([], 0, 7) else ([valTok 2 0 l false 0, zt.put (((dbl l).length + 2 : Nat) : Int)], 0, 0) := by
  have h1 := dbl_len l
  have hl : (34 :: (dbl l ++ [34]) : List UInt8).length = (dbl l).length + 2 := by simp
  unfold scanR
  rw [if_neg (by rw [hl]; omega)]
  have hf : firstT (34 :: (dbl l ++ [34])) = textOfT (some (l, (dbl l).length + 1)) := by rw [first_quote, txt_dbl]
  by_cases h255 : 255 < l.length
  · rw [if_pos h255]
    have hf' : firstT ((34 :: (dbl l ++ [34]) : List UInt8).drop 0) = (zt, 0, 7) := by
      rw [List.drop_zero, hf]
      show (if 255 < l.length then _ else _) = _
      rw [if_pos h255]
    have ha : allG (34 :: (dbl l ++ [34])) = [(zt.put ((0 + 0 : Nat) : Int), 7)] := by
      unfold allG
      rw [run_last (blank_none (by decide)) hf' rfl]
    rw [ha]
    rfl
  · rw [if_neg h255]
    have hf' : firstT ((34 :: (dbl l ++ [34]) : List UInt8).drop 0) = (valTok 2 0 l false 0, (dbl l).length + 2, 0) := by
      rw [List.drop_zero, hf]
      show (if 255 < l.length then _ else _) = _
      rw [if_neg h255]
    have ha : allG (34 :: (dbl l ++ [34])) = [((valTok 2 0 l false 0).put ((0 + 0 : Nat) : Int), 0), (zt.put (((dbl l).length + 2 : Nat) : Int), 0)] := by
      unfold allG
      rw [hl, run_more (blank_none (by decide)) hf' (by simp [valTok])]
      congr 1
      have hd : ((34 :: (dbl l ++ [34]) : List UInt8).drop 0).drop ((dbl l).length + 2) = [] := by
        rw [List.drop_zero]
        exact List.drop_of_length_le (by rw [hl]; exact Nat.le_refl _)
      show runG ((dbl l).length + 1 + 1) _ (((34 :: (dbl l ++ [34]) : List UInt8).drop 0).drop ((dbl l).length + 2)) = _
      rw [hd, run_last (b := 0) (x := (zt, 0, 0)) rfl rfl rfl]
      simp
    rw [ha]
    rfl
end Go.Proofs.YtiaoaifoecmemaaGreatDoor
