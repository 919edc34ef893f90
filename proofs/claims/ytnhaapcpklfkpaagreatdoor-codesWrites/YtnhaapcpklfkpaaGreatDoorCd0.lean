/-
  Formats: what the pieces of a text are, its sections, and what they ask for (plain functions on bytes).
-/
import Derived.Lib.CutLaws
import Derived.Lib.Split
import Derived.Lib.SlTrimSet
import Derived.Lib.Repeat
import Derived.Lib.Join
import Derived.Lib.ItoaNum
import Derived.WalkKit
namespace Go.Proofs.YtnhaapcpklfkpaaGreatDoor

/-- One piece: its kind (words 0, number 1, hundred 2, day 3, text 4, parting 5), and its text. -/
structure Pc where
  k : Nat
  t : List UInt8
/-- How many bytes from the front on are among some. -/
def rowLen (l cs : List UInt8) : Nat := l.length - (Lib.trimLeftS l cs).length
def marksL : List UInt8 := [48, 35, 44, 46]
def selvesL : List UInt8 := [32, 36, 40, 41, 43, 45, 47, 58, 33, 61]
/-- Is it a part of a day? -/
def partB (t : List UInt8) : Bool := t == [121, 121, 121, 121] || t == [121, 121] || t == [109, 109] || t == [109] || t == [100, 100] || t == [100]
def quotedR (r : List UInt8) : Option (Pc × Nat) := if (Lib.cut r [34]).2.2 then some (⟨0, (Lib.cut r [34]).1⟩, (Lib.cut r [34]).1.length + 2) else none
def escapedR (r : List UInt8) : Option (Pc × Nat) :=
  match r with
  | [] => none
  | d :: _ => some (⟨0, [d]⟩, 2)
def partR (c : UInt8) (r : List UInt8) : Option (Pc × Nat) := if partB ((c :: r).take (rowLen (c :: r) [c])) then some (⟨3, (c :: r).take (rowLen (c :: r) [c])⟩, rowLen (c :: r) [c]) else none
/-- The piece that a text begins with, and how many bytes it takes. -/
def firstR (l : List UInt8) : Option (Pc × Nat) :=
  match l with
  | [] => none
  | c :: r =>
    if c = 34 then quotedR r else if c = 92 then escapedR r else if c = 37 then some (⟨2, [37]⟩, 1) else if c = 64 then some (⟨4, [64]⟩, 1) else if c = 59 then some (⟨5, [59]⟩, 1)
    else if c = 121 ∨ c = 109 ∨ c = 100 then partR c r
    else if 0 < rowLen (c :: r) marksL then some (⟨1, (c :: r).take (rowLen (c :: r) marksL)⟩, rowLen (c :: r) marksL)
    else if selvesL.contains c then some (⟨0, [c]⟩, 1) else none
/-- All pieces of a text. -/
def piecesF : Nat → List UInt8 → Option (List Pc)
  | _, [] => some []
  | 0, _ :: _ => none
  | n + 1, c :: r =>
    match firstR (c :: r) with
    | none => none
    | some (p, k) =>
      match piecesF n ((c :: r).drop k) with
      | none => none
      | some ps => some (p :: ps)
def piecesR (l : List UInt8) : Option (List Pc) := piecesF l.length l

theorem rowLen_le (l cs : List UInt8) : rowLen l cs ≤ l.length := by unfold rowLen; omega
theorem rowLen_head {c : UInt8} {r cs : List UInt8} (h : cs.contains c = true) : 0 < rowLen (c :: r) cs := by
  unfold rowLen Lib.trimLeftS
  rw [List.dropWhile_cons, if_pos h]
  have := (List.dropWhile_sublist (p := (cs.contains ·)) (l := r)).length_le
  simp only [List.length_cons]
  omega
theorem ccut_len (r : List UInt8) (h : (Lib.cut r [34]).2.2 = true) : (Lib.cut r [34]).1.length + 1 ≤ r.length := by
  unfold Lib.cut at *
  split at h
  · rename_i h0
    rw [if_pos h0]
    have := Lib.index_room r [34] h0
    simp only [List.length_cons, List.length_nil, List.length_take] at *
    omega
  · simp at h
/-- A piece takes a byte at least, and no more than there are; its text is no longer. -/
theorem first_len {l : List UInt8} {p : Pc} {k : Nat} (h : firstR l = some (p, k)) : 1 ≤ k ∧ k ≤ l.length ∧ p.t.length ≤ k := by
  cases l with
  | nil => cases h
  | cons c r =>
    unfold firstR at h
    simp only at h
    split at h
    · unfold quotedR at h
      split at h
      · rename_i hq
        have := ccut_len r hq
        cases h
        simp only [List.length_cons]
        omega
      · cases h
    split at h
    · unfold escapedR at h
      split at h
      · cases h
      · cases h; simp
    split at h
    · cases h; simp
    split at h
    · cases h; simp
    split at h
    · cases h; simp
    split at h
    · unfold partR at h
      have h1 := rowLen_le (c :: r) [c]
      have h2 : 0 < rowLen (c :: r) [c] := rowLen_head (by simp)
      split at h
      · cases h
        refine ⟨h2, h1, ?_⟩
        simp only [List.length_take]; omega
      · cases h
    split at h
    · rename_i hm
      have h1 := rowLen_le (c :: r) marksL
      cases h
      refine ⟨hm, h1, ?_⟩
      simp only [List.length_take]; omega
    split at h
    · cases h; simp
    · cases h
theorem piecesF_fuel : ∀ (n m : Nat) (l : List UInt8), l.length ≤ n → l.length ≤ m → piecesF n l = piecesF m l
  | _, _, [], _, _ => by simp [piecesF]
  | 0, _, _ :: _, h, _ => by simp at h
  | _, 0, _ :: _, _, h => by simp at h
  | n + 1, m + 1, c :: r, h1, h2 => by
    unfold piecesF
    cases hf : firstR (c :: r) with
    | none => rfl
    | some x =>
      obtain ⟨p, k⟩ := x
      obtain ⟨a, b, _⟩ := first_len hf
      simp only [List.length_cons] at h1 h2
      simp only
      rw [piecesF_fuel n m ((c :: r).drop k) (by simp only [List.length_drop, List.length_cons]; omega) (by simp only [List.length_drop, List.length_cons]; omega)]
theorem pieces_nil : piecesR [] = some [] := rfl
theorem pieces_none {l : List UInt8} (h0 : l ≠ []) (h : firstR l = none) : piecesR l = none := by
  cases l with
  | nil => exact absurd rfl h0
  | cons c r => unfold piecesR; simp only [List.length_cons]; unfold piecesF; rw [h]
theorem pieces_some {l : List UInt8} {p : Pc} {k : Nat} (h : firstR l = some (p, k)) : piecesR l = (piecesR (l.drop k)).map (p :: ·) := by
  cases l with
  | nil => cases h
  | cons c r =>
    obtain ⟨a, b, _⟩ := first_len h
    unfold piecesR
    simp only [List.length_cons] at *
    conv => lhs; unfold piecesF
    rw [h]
    simp only
    rw [piecesF_fuel r.length ((c :: r).drop k).length ((c :: r).drop k) (by simp only [List.length_drop, List.length_cons]; omega) (Nat.le_refl _)]
    cases piecesF ((c :: r).drop k).length ((c :: r).drop k) <;> rfl
/-- A text that begins with some pieces, and what is left. -/
inductive Rd (l : List UInt8) : List Pc → List UInt8 → Prop where
  | none : Rd l [] l
  | more {pre : List Pc} {r : List UInt8} {p : Pc} {k : Nat} : Rd l pre r → firstR r = some (p, k) → Rd l (pre ++ [p]) (r.drop k)
theorem rd_pieces {l : List UInt8} {pre : List Pc} {r : List UInt8} (h : Rd l pre r) : piecesR l = (piecesR r).map (pre ++ ·) := by
  induction h with
  | none => cases piecesR l <;> simp
  | more _ hf ih => rw [ih, pieces_some hf, Option.map_map]; congr 1; funext x; simp
theorem rd_len {l : List UInt8} {pre : List Pc} {r : List UInt8} (h : Rd l pre r) : pre.length + r.length ≤ l.length := by
  induction h with
  | none => simp
  | more _ hf ih => obtain ⟨a, b, _⟩ := first_len hf; simp only [List.length_append, List.length_cons, List.length_nil, List.length_drop]; omega
theorem rd_texts {l : List UInt8} {pre : List Pc} {r : List UInt8} (h : Rd l pre r) : ∀ p ∈ pre, p.t.length ≤ l.length := by
  induction h with
  | none => simp
  | more h0 hf ih =>
    intro p hp
    rcases List.mem_append.1 hp with h | h
    · exact ih p h
    · obtain rfl := List.mem_singleton.1 h
      have := rd_len h0
      obtain ⟨a, b, c⟩ := first_len hf
      omega
theorem first_kind {l : List UInt8} {p : Pc} {k : Nat} (h : firstR l = some (p, k)) : p.k ≤ 5 := by
  cases l with
  | nil => cases h
  | cons c r =>
    unfold firstR at h
    simp only at h
    unfold quotedR escapedR partR at h
    repeat' split at h
    all_goals first | (cases h; simp; done) | (cases h)
theorem rd_kinds {l : List UInt8} {pre : List Pc} {r : List UInt8} (h : Rd l pre r) : ∀ p ∈ pre, p.k ≤ 5 := by
  induction h with
  | none => simp
  | more h0 hf ih =>
    intro p hp
    rcases List.mem_append.1 hp with h | h
    · exact ih p h
    · obtain rfl := List.mem_singleton.1 h
      exact first_kind hf

/-- What a number's place asks for. -/
structure Plc where
  comma : Bool
  point : Bool
  noughts : Nat
  fixed : Nat
  free : Nat
def isRowB (l : List UInt8) (a b : UInt8) : Bool := Lib.trimLeftB (Lib.trimLeftB l a) b == []
def wholeOf (t : List UInt8) : List UInt8 := (Lib.cut t [46]).1
def fracOf (t : List UInt8) : List UInt8 := (Lib.cut t [46]).2.1
def groupsOf (t : List UInt8) : List (List UInt8) := Lib.split (wholeOf t) [44]
def placeB (t : List UInt8) : Bool := !(groupsOf t).contains [] && isRowB (Lib.join (groupsOf t) []) 35 48 && isRowB (fracOf t) 48 35
def placeR (t : List UInt8) : Plc :=
  { comma := decide (1 < (groupsOf t).length), point := (Lib.cut t [46]).2.2, noughts := Lib.countByte (wholeOf t) 48, fixed := Lib.countByte (fracOf t) 48, free := Lib.countByte (fracOf t) 35 }
/-- How many pieces of a kind there are; the place of the last number; the kind; whether a section may be. -/
def cntK (ps : List Pc) (k : Nat) : Nat := (ps.filter (fun p => p.k == k)).length
def plcOf (ps : List Pc) : Plc := ps.foldl (fun q p => if p.k = 1 then placeR p.t else q) ⟨false, false, 0, 0, 0⟩
def kindS (ps : List Pc) : Nat := if 0 < cntK ps 1 then 1 else if 0 < cntK ps 3 then 3 else if 0 < cntK ps 4 then 4 else 0
def rightS (ps : List Pc) : Bool :=
  if kindS ps ≠ 0 ∧ cntK ps (kindS ps) < cntK ps 1 + cntK ps 3 + cntK ps 4 then false
  else if kindS ps ≠ 1 ∧ 0 < cntK ps 2 then false
  else decide (cntK ps 1 ≤ 1) && decide (cntK ps 2 ≤ 2)
/-- The sections that are whole, and the last one. -/
def secsF (ps : List Pc) : List (List Pc) × List Pc := ps.foldl (fun x p => if p.k = 5 then (x.1 ++ [x.2], []) else (x.1, x.2 ++ [p])) ([], [])
def secsR (ps : List Pc) : List (List Pc) := (secsF ps).1 ++ [(secsF ps).2]
/-- The sections of a format, or why the text is none. -/
def readR (l : List UInt8) : Option (List (List Pc)) :=
  match piecesR l with
  | none => none
  | some ps => if ps.all (fun p => p.k != 1 || placeB p.t) && decide ((secsR ps).length ≤ 3) && (secsR ps).all rightS then some (secsR ps) else none
def checkR (l : List UInt8) : Int := if 60 < l.length then 7 else if (readR l).isSome then 0 else 5
end Go.Proofs.YtnhaapcpklfkpaaGreatDoor
