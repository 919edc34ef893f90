/-
  Values in blocks that may be written.
-/
import Derived.Test.YtaokibkeoomfjaaDoorVal1
namespace Go.Proofs.YtaokibkeoomfjaaDoor
open Go.RowKit

/-- A value lies in a block that may be written. -/
def HasV (w : World) (p : Nat) (k n : Int) (s : ByteArray) (b : Bool) (c : Int) : Prop :=
  AtV w p k n s b c ∧ w.frozen? ⟨p, 0, none⟩ = false ∧ w.frozen? ⟨p, 1, none⟩ = false ∧ w.frozen? ⟨p, 2, none⟩ = false ∧ w.frozen? ⟨p, 3, none⟩ = false ∧ w.frozen? ⟨p, 4, none⟩ = false
theorem HasV.at (w : World) (p : Nat) (k n : Int) (s : ByteArray) (b : Bool) (c : Int) (t : TypeId) (h : p = w.heap.size) : HasV (w.alloc (.cells #[.int .i64 k, .int .i64 n, .string s, .bool b, .int .i64 c] t)) p k n s b c := by
  refine ⟨AtV.at w p k n s b c t h, ?_⟩
  subst h
  exact ⟨by simp, by simp, by simp, by simp, by simp⟩
theorem HasV.alloc {w : World} {p : Nat} {k n : Int} {s : ByteArray} {b : Bool} {c : Int} (h : HasV w p k n s b c) (o : Obj) : HasV (w.alloc o) p k n s b c := by
  obtain ⟨a, h0, h1, h2, h3, h4⟩ := h
  have l := a.1
  exact ⟨a.alloc o, by rw [World.frozen?_alloc_past _ _ _ l]; exact h0, by rw [World.frozen?_alloc_past _ _ _ l]; exact h1, by rw [World.frozen?_alloc_past _ _ _ l]; exact h2, by rw [World.frozen?_alloc_past _ _ _ l]; exact h3, by rw [World.frozen?_alloc_past _ _ _ l]; exact h4⟩
theorem HasV.below {w w' : World} {p : Nat} {k n : Int} {s : ByteArray} {b : Bool} {c : Int} (h : HasV w p k n s b c) (q : Below w.heap.size w w') : HasV w' p k n s b c := by
  obtain ⟨a, h0, h1, h2, h3, h4⟩ := h
  have l := a.1
  exact ⟨a.below q, by rw [q.frozen (p := ⟨p, 0, none⟩) l]; exact h0, by rw [q.frozen (p := ⟨p, 1, none⟩) l]; exact h1, by rw [q.frozen (p := ⟨p, 2, none⟩) l]; exact h2, by rw [q.frozen (p := ⟨p, 3, none⟩) l]; exact h3, by rw [q.frozen (p := ⟨p, 4, none⟩) l]; exact h4⟩
theorem HasV.drew {w : World} {p : Nat} {k n : Int} {s : ByteArray} {b : Bool} {c : Int} (h : HasV w p k n s b c) : HasV w.drew p k n s b c := h
theorem HasV.drewN {w : World} {p : Nat} {k n : Int} {s : ByteArray} {b : Bool} {c : Int} (h : HasV w p k n s b c) (m : Nat) : HasV (w.drewN m) p k n s b c := h
end Go.Proofs.YtaokibkeoomfjaaDoor
