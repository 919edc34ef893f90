/-
  The answer's piece, in plain words: what it tells of a text.
-/
import Derived.Test.YtnhaapcpklfkpaaGreatDoorRc2
namespace Go.Proofs.YtnhaapcpklfkpaaGreatDoor
open Go.RowKit
set_option linter.unusedSimpArgs false

/-- The answer's number of a kind; a piece as the answer has it; none. -/
def kk (k : Nat) : Nat := if k = 2 then 4 else if k = 3 then 2 else if k = 4 then 3 else k
def rpc (p : Pc) : Value := .agg #[.int .i64 (kk p.k), .string ⟨p.t.toArray⟩]
def noPc : Value := .agg #[.int .i64 0, .string ⟨#[]⟩]
def rFirst (L : List UInt8) : Value × Nat :=
  match firstR L with
  | none => (noPc, 0)
  | some (p, k) => if p.k = 1 ∧ placeB p.t = false then (noPc, 0) else (rpc p, k)
def daysL : List UInt8 := [121, 109, 100]
theorem rfirst_hit {W F : List UInt8} (h : ∀ d ∈ W, d ≠ 34) : rFirst (34 :: (W ++ 34 :: F)) = (rpc ⟨0, W⟩, W.length + 2) := by
  have hi := index_byte W F h
  have e : Lib.cut (W ++ 34 :: F) [34] = (W, F, true) := by
    unfold Lib.cut
    rw [if_pos (by rw [hi]; omega), hi, Int.toNat_natCast]
    simp
  simp [rFirst, firstR, quotedR, e]
theorem rfirst_miss {r : List UInt8} (h : ∀ d ∈ r, d ≠ 34) : rFirst (34 :: r) = (noPc, 0) := by
  have e : (Lib.cut r [34]).2.2 = false := by
    unfold Lib.cut
    rw [if_neg (by rw [index_no r h]; decide)]
  simp [rFirst, firstR, quotedR, e]
theorem rfirst_esc (d : UInt8) (r : List UInt8) : rFirst (92 :: d :: r) = (rpc ⟨0, [d]⟩, 2) := by simp [rFirst, firstR, escapedR]
theorem rfirst_bare : rFirst [92] = (noPc, 0) := by simp [rFirst, firstR, escapedR]
theorem rfirst_hundred (r : List UInt8) : rFirst (37 :: r) = (rpc ⟨2, [37]⟩, 1) := by simp [rFirst, firstR]
theorem rfirst_at (r : List UInt8) : rFirst (64 :: r) = (rpc ⟨4, [64]⟩, 1) := by simp [rFirst, firstR]
theorem rowLen_no {c : UInt8} {r cs : List UInt8} (h : cs.contains c = false) : rowLen (c :: r) cs = 0 :=
  rowLen_is (Nat.zero_le _) (by intro d hd; simp at hd) (by intro d hd; simp at hd; subst hd; exact h)
theorem rfirst_marks {c : UInt8} {r : List UInt8} (h : marksL.contains c = true) :
    rFirst (c :: r) = if placeB ((c :: r).take (rowLen (c :: r) marksL)) then (rpc ⟨1, (c :: r).take (rowLen (c :: r) marksL)⟩, rowLen (c :: r) marksL) else (noPc, 0) := by
  have hp := rowLen_head (r := r) h
  have hc : c = 48 ∨ c = 35 ∨ c = 44 ∨ c = 46 := by simpa [marksL] using h
  have e : firstR (c :: r) = some (⟨1, (c :: r).take (rowLen (c :: r) marksL)⟩, rowLen (c :: r) marksL) := by
    unfold firstR
    simp only
    rw [if_neg, if_neg, if_neg, if_neg, if_neg, if_neg, if_pos hp]
    all_goals (rcases hc with e | e | e | e <;> subst e <;> decide)
  unfold rFirst
  rw [e]
  simp only
  cases placeB ((c :: r).take (rowLen (c :: r) marksL)) <;> simp
theorem rfirst_self {c : UInt8} {r : List UInt8} (h : selvesL.contains c = true) : rFirst (c :: r) = (rpc ⟨0, [c]⟩, 1) := by
  have hc : c = 32 ∨ c = 36 ∨ c = 40 ∨ c = 41 ∨ c = 43 ∨ c = 45 ∨ c = 47 ∨ c = 58 ∨ c = 33 ∨ c = 61 := by simpa [selvesL] using h
  have hm : marksL.contains c = false := by rcases hc with e | e | e | e | e | e | e | e | e | e <;> subst e <;> decide
  have e : firstR (c :: r) = some (⟨0, [c]⟩, 1) := by
    unfold firstR
    simp only
    rw [if_neg, if_neg, if_neg, if_neg, if_neg, if_neg, if_neg (by rw [rowLen_no hm]; omega), if_pos h]
    all_goals (rcases hc with e | e | e | e | e | e | e | e | e | e <;> subst e <;> decide)
  unfold rFirst
  rw [e]
  simp
theorem rfirst_else {c : UInt8} {r : List UInt8} (h1 : c ≠ 34) (h2 : c ≠ 92) (h3 : c ≠ 37) (h4 : c ≠ 64) (h5 : c ≠ 59) (h6 : daysL.contains c = false) (h7 : marksL.contains c = false) (h8 : selvesL.contains c = false) : rFirst (c :: r) = (noPc, 0) := by
  have hd : ¬ (c = 121 ∨ c = 109 ∨ c = 100) := by simpa [daysL] using h6
  have e : firstR (c :: r) = none := by
    unfold firstR
    simp only
    rw [if_neg h1, if_neg h2, if_neg h3, if_neg h4, if_neg h5, if_neg hd, if_neg (by rw [rowLen_no h7]; omega), if_neg (by rw [h8]; decide)]
  unfold rFirst
  rw [e]
theorem take_row {c : UInt8} : ∀ (l : List UInt8), l.take (rowLen l [c]) = List.replicate (rowLen l [c]) c := by
  intro l
  apply List.eq_replicate_iff.2
  have hl := rowLen_le l [c]
  refine ⟨by rw [List.length_take]; omega, ?_⟩
  intro d hd
  have ht : l.take (rowLen l [c]) = l.takeWhile ([c].contains ·) := by
    have e := List.takeWhile_append_dropWhile (p := ([c].contains ·)) (l := l)
    have e2 : rowLen l [c] = (l.takeWhile ([c].contains ·)).length := by
      unfold rowLen Lib.trimLeftS
      have := congrArg List.length e
      rw [List.length_append] at this
      omega
    rw [e2]
    have q := List.take_left (l₁ := l.takeWhile ([c].contains ·)) (l₂ := l.dropWhile ([c].contains ·))
    rw [e] at q
    exact q
  rw [ht] at hd
  have := List.all_eq_true.1 (List.all_takeWhile (p := ([c].contains ·)) (l := l)) d hd
  simpa using this
def dayB (c : UInt8) (n : Nat) : Bool := (decide (n ≤ 2) && c != 121) || (c == 121 && (n == 2 || n == 4))
theorem part_day {c : UInt8} {n : Nat} (h : c = 121 ∨ c = 109 ∨ c = 100) (h0 : 0 < n) : partB (List.replicate n c) = dayB c n := by
  match n, h0 with
  | 1, _ => rcases h with e | e | e <;> subst e <;> decide
  | 2, _ => rcases h with e | e | e <;> subst e <;> decide
  | 3, _ => rcases h with e | e | e <;> subst e <;> decide
  | 4, _ => rcases h with e | e | e <;> subst e <;> decide
  | n + 5, _ =>
    have e1 : dayB c (n + 5) = false := by simp [dayB]
    rw [e1]
    simp [partB, List.replicate_succ]
theorem rfirst_day {c : UInt8} {r : List UInt8} (h : daysL.contains c = true) :
    rFirst (c :: r) = if dayB c (rowLen (c :: r) [c]) then (rpc ⟨3, (c :: r).take (rowLen (c :: r) [c])⟩, rowLen (c :: r) [c]) else (noPc, 0) := by
  have hc : c = 121 ∨ c = 109 ∨ c = 100 := by simpa [daysL] using h
  have hp : 0 < rowLen (c :: r) [c] := rowLen_head (by simp)
  have e : firstR (c :: r) = partR c r := by
    unfold firstR
    simp only
    rw [if_neg, if_neg, if_neg, if_neg, if_neg, if_pos hc]
    all_goals (rcases hc with e | e | e <;> subst e <;> decide)
  unfold rFirst
  rw [e]
  unfold partR
  rw [take_row, part_day hc hp]
  cases dayB c (rowLen (c :: r) [c]) <;> simp
end Go.Proofs.YtnhaapcpklfkpaaGreatDoor
