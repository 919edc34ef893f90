/-
  What the document says of tokens, in plain words: a token, its cells; the token that a text begins with; all tokens of a text.
-/
import Derived.Test.YtiaoaifoecmemaaGreatDoorRXVal4
import Derived.Test.YtiaoaifoecmemaaGreatDoorRXPla5
namespace Go.Proofs.YtiaoaifoecmemaaGreatDoor
open Go.RowKit
structure Tok where
 kind : Int
 vk : Int
 vn : Int
 vs : List UInt8
 vb : Bool
 vc : Int
 row : Int
 col : Int
 fr : Bool
 fc : Bool
 txt : List UInt8
 pos : Int
def tokC (t : Tok) : List Value := [.int .i64 t.kind, .int .i64 t.vk, .int .i64 t.vn, .string ⟨t.vs.toArray⟩, .bool t.vb, .int .i64 t.vc, .int .i64 t.row, .int .i64 t.col, .bool t.fr, .bool t.fc, .string ⟨t.txt.toArray⟩, .int .i64 t.pos]
def tokV (t : Tok) : Value := .agg (tokC t).toArray
def zt : Tok := ⟨0, 0, 0, [], false, 0, 0, 0, false, false, [], 0⟩
def valTok (vk vn : Int) (vs : List UInt8) (vb : Bool) (vc : Int) : Tok := ⟨1, vk, vn, vs, vb, vc, 0, 0, false, false, [], 0⟩
def cellTok (r c : Int) (fr fc : Bool) : Tok := ⟨2, 0, 0, [], false, 0, r, c, fr, fc, [], 0⟩
def nameTok (l : List UInt8) : Tok := ⟨3, 0, 0, [], false, 0, 0, 0, false, false, l, 0⟩
def opTok (l : List UInt8) : Tok := ⟨4, 0, 0, [], false, 0, 0, 0, false, false, l, 0⟩
def Tok.put (t : Tok) (p : Int) : Tok := ⟨t.kind, t.vk, t.vn, t.vs, t.vb, t.vc, t.row, t.col, t.fr, t.fc, t.txt, p⟩
def blankB (c : UInt8) : Bool := decide (c.toNat = 32)
def letterB (c : UInt8) : Bool := decide (65 ≤ c.toNat ∧ c.toNat ≤ 90) || decide (97 ≤ c.toNat ∧ c.toNat ≤ 122)
def numB (c : UInt8) : Bool := isDig c || decide (c.toNat = 46)
def wordB (c : UInt8) : Bool := letterB c || isDig c || decide (c.toNat = 36) || decide (c.toNat = 46) || decide (c.toNat = 95)
def runN (p : UInt8 → Bool) (l : List UInt8) : Nat := (l.takeWhile p).length
def numberT (l : List UInt8) : Tok × Nat × Int :=
 if (parseR (l.take (runN numB l))).2 = 0 then (valTok 1 (parseR (l.take (runN numB l))).1 [] false 0, runN numB l, 0) else (zt, 0, (parseR (l.take (runN numB l))).2)
def txt : List UInt8 → Option (List UInt8 × Nat)
 | [] => none
 | [c] => if c.toNat = 34 then some ([], 1) else none
 | c :: d :: r => if c.toNat = 34 then (if d.toNat = 34 then (txt r).map (fun x => (34 :: x.1, x.2 + 2)) else some ([], 1)) else (txt (d :: r)).map (fun x => (c :: x.1, x.2 + 1))
def textOfT : Option (List UInt8 × Nat) → Tok × Nat × Int
 | none => (zt, 0, 5)
 | some x => if 255 < x.1.length then (zt, 0, 7) else (valTok 2 0 x.1 false 0, x.2 + 1, 0)
def textT (l : List UInt8) : Tok × Nat × Int := textOfT (txt l.tail)
def pick (f : Nat → List UInt8) (l : List UInt8) : Nat → Nat → Option Nat
 | _, 0 => none
 | k, n + 1 => if Lib.hasPrefix l (f k) then some k else pick f l (k + 1) n
def faultOfT : Option Nat → Tok × Nat × Int
 | none => (zt, 0, 5)
 | some k => (valTok 4 0 [] false k, (nameL k).length, 0)
def faultT (l : List UInt8) : Tok × Nat × Int := faultOfT (pick nameL l 1 7)
def nameT (w : List UInt8) : Tok × Nat × Int := if w.any (fun c => decide (c.toNat = 36)) || decide (20 < w.length) then (zt, 0, 5) else (nameTok (foldL w), w.length, 0)
def plainT (w : List UInt8) : Tok × Nat × Int :=
 if (namedR w).2 then (valTok 3 0 [] (namedR w).1 0, w.length, 0)
 else if (Pla.parseR w).2.2.2.2 = 0 then (cellTok (Pla.parseR w).1 (Pla.parseR w).2.1 (Pla.parseR w).2.2.1 (Pla.parseR w).2.2.2.1, w.length, 0) else (zt, 0, (Pla.parseR w).2.2.2.2)
def wordT (l : List UInt8) : Tok × Nat × Int := if Lib.hasPrefix (l.drop (runN wordB l)) [40] then nameT (l.take (runN wordB l)) else plainT (l.take (runN wordB l))
def signs : List (List UInt8) := [[60, 62], [60, 61], [62, 61], [60], [62], [61], [43], [45], [42], [47], [38], [40], [41], [44], [58]]
def signL (i : Nat) : List UInt8 := signs.getD i []
def signOfT : Option (List UInt8) → Tok × Nat × Int
 | none => (zt, 0, 5)
 | some x => (opTok x, x.length, 0)
def signT (l : List UInt8) : Tok × Nat × Int := signOfT ((pick signL l 0 15).map signL)
def firstT (l : List UInt8) : Tok × Nat × Int :=
 match l with
 | [] => (zt, 0, 0)
 | c :: _ => if isDig c then numberT l else if c.toNat = 34 then textT l else if c.toNat = 35 then faultT l else if letterB c || decide (c.toNat = 36) then wordT l else signT l
def runG : Nat → Nat → List UInt8 → List (Tok × Int)
 | 0, _, _ => []
 | f + 1, p, l =>
  ((firstT (l.drop (runN blankB l))).1.put ((p + runN blankB l : Nat) : Int), (firstT (l.drop (runN blankB l))).2.2) ::
   (if (firstT (l.drop (runN blankB l))).1.kind = 0 then [] else runG f (p + runN blankB l + (firstT (l.drop (runN blankB l))).2.1) ((l.drop (runN blankB l)).drop (firstT (l.drop (runN blankB l))).2.1))
def allG (l : List UInt8) : List (Tok × Int) := runG (l.length + 1) 0 l
def badG (xs : List (Tok × Int)) : Option (Int × Int) := (xs.find? (fun x => decide (x.2 ≠ 0))).map (fun x => (x.1.pos, x.2))
def scanOf (xs : List (Tok × Int)) : Option (Int × Int) → List Tok × Int × Int
 | some x => ([], x.1, x.2)
 | none => (xs.map (fun x => x.1), 0, 0)
def scanR (l : List UInt8) : List Tok × Int × Int := if 1024 < l.length then ([], 0, 7) else scanOf (allG l) (badG (allG l))
end Go.Proofs.YtiaoaifoecmemaaGreatDoor
