/-
  Out of Pt5, Pt6, what is asked for (laid by pack9.py).
-/
import Derived.Test.YtklldmidcmfbdaaGreatDoorVPla
import Derived.Deep.RegionHeld3
import Derived.Laws.IdiomStrings
import Derived.Lib.AtoiErrMem
import Derived.Lib.MinMax
import Derived.Lib.OthersKept
import Derived.LoopTactic
import Derived.WalkKit
import Derived.WalkLawsBesides
import Derived.WalkSpells
namespace Go.Proofs.YtklldmidcmfbdaaGreatDoor.Pla
section
open Go.RowKit
/-- Is there a front? -/
def nonB (l : List UInt8) : Bool := !(l == [])
/-- A cell lies in a block that may be written. -/
def Cel (w : World) (b : Nat) (r c : Int) (x y : Bool) : Prop :=
  (b < w.heap.size ∧ w.cell? ⟨b, 0, none⟩ = some (.int .i64 r) ∧ w.cell? ⟨b, 1, none⟩ = some (.int .i64 c) ∧ w.cell? ⟨b, 2, none⟩ = some (.bool x) ∧ w.cell? ⟨b, 3, none⟩ = some (.bool y)) ∧
  w.frozen? ⟨b, 0, none⟩ = false ∧ w.frozen? ⟨b, 1, none⟩ = false ∧ w.frozen? ⟨b, 2, none⟩ = false ∧ w.frozen? ⟨b, 3, none⟩ = false
theorem Cel.block {w w' : World} {b : Nat} {r c : Int} {x y : Bool} (h : Cel w b r c x y) (hs : w.heap.size ≤ w'.heap.size) (hb : w'.heap[b]? = w.heap[b]?) : Cel w' b r c x y := by
  obtain ⟨⟨h0, h1, h2, h3, h4⟩, f1, f2, f3, f4⟩ := h
  refine ⟨⟨Nat.lt_of_lt_of_le h0 hs, ?_, ?_, ?_, ?_⟩, ?_, ?_, ?_, ?_⟩
  all_goals first | (rw [World.cell?_of_block (w := w) hb]; assumption) | (rw [World.frozen?_of_block (w := w) hb]; assumption)
theorem Cel.below {w w' : World} {b : Nat} {r c : Int} {x y : Bool} (h : Cel w b r c x y) (k : Below w.heap.size w w') : Cel w' b r c x y := h.block k.size (k.block b h.1.1)
end
section
open Go.RowKit
/-- What is behind the first $, the letters, the second $, the digits. -/
def p1 (l : List UInt8) : List UInt8 := rest fixB 1 l
def p2 (l : List UInt8) : List UInt8 := rest letB 3 (p1 l)
def p3 (l : List UInt8) : List UInt8 := rest fixB 1 (p2 l)
def p4 (l : List UInt8) : List UInt8 := rest digB 7 (p3 l)
/-- What stands there. -/
def pCol (l : List UInt8) : Nat := colV (pre letB 3 (p1 l))
def pRow (l : List UInt8) : Nat := rowV (pre digB 7 (p3 l))
def pFixC (l : List UInt8) : Bool := nonB (pre fixB 1 l)
def pFixR (l : List UInt8) : Bool := nonB (pre fixB 1 (p2 l))
/-- What Parse tells: row, column, which are fixed, and why not. -/
def parseR (l : List UInt8) : Int × Int × Bool × Bool × Int :=
  if pCol l = 0 ∨ pRow l = 0 ∨ p4 l ≠ [] then (0, 0, false, false, 5) else if placeB (pRow l) (pCol l) then (pRow l, pCol l, pFixR l, pFixC l, 0) else (0, 0, false, false, 11)
theorem rest_len (p : UInt8 → Bool) (m : Nat) (l : List UInt8) : (rest p m l).length ≤ l.length := by unfold rest; simp
theorem Cel.alloc {w : World} {b : Nat} {r c : Int} {x y : Bool} (h : Cel w b r c x y) (o : Obj) : Cel (w.alloc o) b r c x y := h.below ((Below.refl _ _).alloc (Nat.le_refl _) o)
end
end Go.Proofs.YtklldmidcmfbdaaGreatDoor.Pla
