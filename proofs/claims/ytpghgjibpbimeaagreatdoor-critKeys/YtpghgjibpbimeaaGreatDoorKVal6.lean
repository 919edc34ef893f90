/-
  Out of RefShow, RefAlike, what is asked for (laid by pack9.py).
-/
import Derived.Test.YtpghgjibpbimeaaGreatDoorKVal
import Derived.Test.YtpghgjibpbimeaaGreatDoorKVal3
import Derived.Test.YtpghgjibpbimeaaGreatDoorKVal4
import Derived.Test.YtpghgjibpbimeaaGreatDoorKVal5
import Derived.BigCall
import Derived.BigGuard
import Derived.BigQuiet
import Derived.ChangeArms
import Derived.Deep.QuietTactic
import Derived.Deep.RegionHeld3
import Derived.Deep.RegionWith
import Derived.Laws.Cover1
import Derived.Laws.EntriesVeiled
import Derived.Laws.IdiomStrings
import Derived.Lib.AppendIntMem
import Derived.Lib.IndexMore
import Derived.Lib.ItoaMem
import Derived.Lib.LaidTab
import Derived.Lib.OthersKept
import Derived.Lib.SmallJoins
import Derived.Lib.Walk
import Derived.LoopTactic
import Derived.WalkKit
import Derived.WalkLawsBesides
import Derived.WalkSpells
import Derived.WideShapes
namespace Go.Proofs.YtpghgjibpbimeaaGreatDoor
section
open Go.RowKit
theorem BoxS.alloc {W w' : World} {p : Nat} {k n : Int} {s : ByteArray} {b : Bool} {c : Int}
    (h : w'.cell? ⟨p, 0, none⟩ = some (.int .i64 k) ∧ w'.cell? ⟨p, 1, none⟩ = some (.int .i64 n) ∧ w'.cell? ⟨p, 2, none⟩ = some (.string s) ∧ w'.cell? ⟨p, 3, none⟩ = some (.bool b) ∧ w'.cell? ⟨p, 4, none⟩ = some (.int .i64 c) ∧ p < w'.heap.size ∧ Below W.heap.size W w') (o : Obj) :
    (w'.alloc o).cell? ⟨p, 0, none⟩ = some (.int .i64 k) ∧ (w'.alloc o).cell? ⟨p, 1, none⟩ = some (.int .i64 n) ∧ (w'.alloc o).cell? ⟨p, 2, none⟩ = some (.string s) ∧ (w'.alloc o).cell? ⟨p, 3, none⟩ = some (.bool b) ∧ (w'.alloc o).cell? ⟨p, 4, none⟩ = some (.int .i64 c) ∧ p < (w'.alloc o).heap.size ∧ Below W.heap.size W (w'.alloc o) :=
  BoxS.below h ((Below.refl _ _).alloc (Nat.le_refl _) o)
end
section
open Go.RowKit
/-- Two values lie in blocks that may be written. -/
def Both (w : World) (p q : Nat) (k n : Int) (s : ByteArray) (b : Bool) (c : Int) (k' n' : Int) (s' : ByteArray) (b' : Bool) (c' : Int) : Prop := HasV w p k n s b c ∧ HasV w q k' n' s' b' c'
theorem Both.new (w : World) (k n : Int) (s : ByteArray) (b : Bool) (c : Int) (k' n' : Int) (s' : ByteArray) (b' : Bool) (c' : Int) : Both ((w.alloc (.cells #[.int .i64 k, .int .i64 n, .string s, .bool b, .int .i64 c] 25)).alloc (.cells #[.int .i64 k', .int .i64 n', .string s', .bool b', .int .i64 c'] 25)) w.heap.size (w.heap.size + 1) k n s b c k' n' s' b' c' :=
  ⟨(HasV.at w w.heap.size k n s b c 25 rfl).alloc _, HasV.at (w.alloc (.cells #[.int .i64 k, .int .i64 n, .string s, .bool b, .int .i64 c] 25)) (w.heap.size + 1) k' n' s' b' c' 25 (by simp)⟩
theorem Both.below {w w' : World} {p q : Nat} {k n : Int} {s : ByteArray} {b : Bool} {c : Int} {k' n' : Int} {s' : ByteArray} {b' : Bool} {c' : Int} (h : Both w p q k n s b c k' n' s' b' c') (z : Below w.heap.size w w') : Both w' p q k n s b c k' n' s' b' c' := ⟨h.1.below z, h.2.below z⟩
theorem Both.drew {w : World} {p q : Nat} {k n : Int} {s : ByteArray} {b : Bool} {c : Int} {k' n' : Int} {s' : ByteArray} {b' : Bool} {c' : Int} (h : Both w p q k n s b c k' n' s' b' c') : Both w.drew p q k n s b c k' n' s' b' c' := h
theorem BB.below {W w w' : World} {p q : Nat} {k n : Int} {s : ByteArray} {b : Bool} {c : Int} {k' n' : Int} {s' : ByteArray} {b' : Bool} {c' : Int} (h : Both w p q k n s b c k' n' s' b' c' ∧ Below W.heap.size W w) (z : Below w.heap.size w w') : Both w' p q k n s b c k' n' s' b' c' ∧ Below W.heap.size W w' := ⟨h.1.below z, h.2.trans (z.mono h.2.size)⟩
theorem BB.drew {W w : World} {p q : Nat} {k n : Int} {s : ByteArray} {b : Bool} {c : Int} {k' n' : Int} {s' : ByteArray} {b' : Bool} {c' : Int} (h : Both w p q k n s b c k' n' s' b' c' ∧ Below W.heap.size W w) : Both w.drew p q k n s b c k' n' s' b' c' ∧ Below W.heap.size W w.drew := ⟨h.1, h.2.drew⟩
end
end Go.Proofs.YtpghgjibpbimeaaGreatDoor
