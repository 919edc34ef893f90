/-
  Out of Val4, CompMath, ValMem, what is asked for (laid by pack9.py).
-/
import Derived.Test.YthooimaadgabiabDoorKVal
import Derived.Test.YthooimaadgabiabDoorKVal3
import Derived.BigCall
import Derived.BigGuard
import Derived.BigQuiet
import Derived.Deep.QuietTactic
import Derived.Deep.RegionHeld3
import Derived.Deep.RegionWith
import Derived.Laws.Cover1
import Derived.Laws.EntriesVeiled
import Derived.Laws.IdiomStrings
import Derived.Lib.AppendIntMem
import Derived.Lib.IndexMore
import Derived.Lib.ItoaMem
import Derived.Lib.OthersKept
import Derived.Lib.SmallJoins
import Derived.Lib.Walk
import Derived.LoopTactic
import Derived.WalkKit
import Derived.WalkLawsBesides
import Derived.WalkSpells
import Derived.WideShapes
namespace Go.Proofs.YthooimaadgabiabDoor
section
open Go.RowKit
/-- Behind a call on a value that lies in a new block. -/
theorem box_cells {w w1 : World} {k n : Int} {s : ByteArray} {b : Bool} {c : Int} {t : TypeId} (hb : Below (w.alloc (.cells #[.int .i64 k, .int .i64 n, .string s, .bool b, .int .i64 c] t)).heap.size (w.alloc (.cells #[.int .i64 k, .int .i64 n, .string s, .bool b, .int .i64 c] t)) w1) :
    w1.cell? ⟨w.heap.size, 0, none⟩ = some (.int .i64 k) ∧ w1.cell? ⟨w.heap.size, 1, none⟩ = some (.int .i64 n) ∧ w1.cell? ⟨w.heap.size, 2, none⟩ = some (.string s) ∧ w1.cell? ⟨w.heap.size, 3, none⟩ = some (.bool b) ∧ w1.cell? ⟨w.heap.size, 4, none⟩ = some (.int .i64 c) ∧ w.heap.size < w1.heap.size ∧ Below w.heap.size w w1 :=
  BoxS.below (BoxS.new w k n s b c t) hb
set_option maxHeartbeats 400000 in
theorem checkV_any (k n : Int) (s : ByteArray) (b : Bool) (c : Int) (w : World) (hz : s.size ≤ maxLen) :
    Calls Tryd.prog 44 #[.agg #[.int .i64 k, .int .i64 n, .string s, .bool b, .int .i64 c]] w fun e w' => e = .returned (.int .i64 (checkV k n s b c)) ∧ Below w.heap.size w w' := by
  have HR : Hid (∀ W : World, Calls Tryd.prog 52 #[.agg #[.int .i64 k, .int .i64 n, .string s, .bool b, .int .i64 c]] W fun e w' => e = .returned (.bool (rightB k n s b c)) ∧ Below W.heap.size W w') := fun W => right_any k n s b c W hz
  clear hz
  have HV : Hid (checkV k n s b c = if rightB k n s b c then 0 else 2) := rfl
  generalize rightB k n s b c = r at *
  cases r
  all_goals
    go_enter Tryd.func44, Tryd.ntmps44
    go_wp2_with (go_at_call 52; refine (HR.out _).mono ?_; rintro e w1 ⟨rfl, hb1⟩; obtain ⟨q0, q1, q2, q3, q4, q5, q6⟩ := box_cells hb1)
    go_ret
    exact ⟨by rw [HV.out]; rfl, q6⟩
end
section
open Go.RowKit
/-- A right value that is no fault has no code. -/
theorem right_code {k n : Int} {s : ByteArray} {b : Bool} {c : Int} (h : rightB k n s b c = true) : (k = 4 ∧ 1 ≤ c ∧ c ≤ 7) ∨ (k ≠ 4 ∧ c = 0) := by
  rcases right_cases h with ⟨rfl, _, _, _, h⟩ | ⟨rfl, _, _, _, h⟩ | ⟨rfl, _, _, _, h⟩ | ⟨rfl, _, _, h⟩ | ⟨rfl, _, _, _, h⟩
  · exact .inr ⟨by decide, h⟩
  · exact .inr ⟨by decide, h⟩
  · exact .inr ⟨by decide, h⟩
  · exact .inr ⟨by decide, h⟩
  · exact .inl ⟨rfl, h⟩
theorem right_zero {n : Int} {s : ByteArray} {b : Bool} {c : Int} (h : rightB 0 n s b c = true) : n = 0 ∧ s = ⟨#[]⟩ ∧ b = false ∧ c = 0 := by
  rcases right_cases h with ⟨_, h⟩ | ⟨h, _⟩ | ⟨h, _⟩ | ⟨h, _⟩ | ⟨h, _⟩
  · exact h
  all_goals exact absurd h (by decide)
end
section
open Go.RowKit
/-- A value lies in a block that may be written. -/
def HasV (w : World) (p : Nat) (k n : Int) (s : ByteArray) (b : Bool) (c : Int) : Prop :=
  AtV w p k n s b c ∧ w.frozen? ⟨p, 0, none⟩ = false ∧ w.frozen? ⟨p, 1, none⟩ = false ∧ w.frozen? ⟨p, 2, none⟩ = false ∧ w.frozen? ⟨p, 3, none⟩ = false ∧ w.frozen? ⟨p, 4, none⟩ = false
theorem HasV.at (w : World) (p : Nat) (k n : Int) (s : ByteArray) (b : Bool) (c : Int) (t : TypeId) (h : p = w.heap.size) : HasV (w.alloc (.cells #[.int .i64 k, .int .i64 n, .string s, .bool b, .int .i64 c] t)) p k n s b c := by
  refine ⟨AtV.at w p k n s b c t h, ?_⟩
  subst h
  exact ⟨by simp, by simp, by simp, by simp, by simp⟩
theorem HasV.alloc {w : World} {p : Nat} {k n : Int} {s : ByteArray} {b : Bool} {c : Int} (h : HasV w p k n s b c) (o : Obj) : HasV (w.alloc o) p k n s b c := by
  obtain ⟨a, h0, h1, h2, h3, h4⟩ := h
  have l := a.1
  exact ⟨a.alloc o, by rw [World.frozen?_alloc_past _ _ _ l]; exact h0, by rw [World.frozen?_alloc_past _ _ _ l]; exact h1, by rw [World.frozen?_alloc_past _ _ _ l]; exact h2, by rw [World.frozen?_alloc_past _ _ _ l]; exact h3, by rw [World.frozen?_alloc_past _ _ _ l]; exact h4⟩
theorem HasV.below {w w' : World} {p : Nat} {k n : Int} {s : ByteArray} {b : Bool} {c : Int} (h : HasV w p k n s b c) (q : Below w.heap.size w w') : HasV w' p k n s b c := by
  obtain ⟨a, h0, h1, h2, h3, h4⟩ := h
  have l := a.1
  exact ⟨a.below q, by rw [q.frozen (p := ⟨p, 0, none⟩) l]; exact h0, by rw [q.frozen (p := ⟨p, 1, none⟩) l]; exact h1, by rw [q.frozen (p := ⟨p, 2, none⟩) l]; exact h2, by rw [q.frozen (p := ⟨p, 3, none⟩) l]; exact h3, by rw [q.frozen (p := ⟨p, 4, none⟩) l]; exact h4⟩
theorem HasV.drew {w : World} {p : Nat} {k n : Int} {s : ByteArray} {b : Bool} {c : Int} (h : HasV w p k n s b c) : HasV w.drew p k n s b c := h
theorem HasV.drewN {w : World} {p : Nat} {k n : Int} {s : ByteArray} {b : Bool} {c : Int} (h : HasV w p k n s b c) (m : Nat) : HasV (w.drewN m) p k n s b c := h
end
end Go.Proofs.YthooimaadgabiabDoor
