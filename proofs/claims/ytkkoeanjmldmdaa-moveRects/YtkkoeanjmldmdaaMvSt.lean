/-
  Edits, places and rectangles in blocks of the call's own, behind calls.
-/
import Derived.Test.YtkkoeanjmldmdaaMv4
import Derived.Test.YtkkoeanjmldmdaaMv8
import Derived.Test.YtkkoeanjmldmdaaMv9
namespace Go.Proofs.Ytkkoeanjmldmdaa
open Go.RowKit

def All3 (w : World) : List (Nat × Int × Int × Int) → Prop
  | [] => True
  | x :: l => At3 w x.1 x.2.1 x.2.2.1 x.2.2.2 ∧ All3 w l
def All4 (w : World) : List (Nat × Int × Int × Int × Int) → Prop
  | [] => True
  | x :: l => At4 w x.1 x.2.1 x.2.2.1 x.2.2.2.1 x.2.2.2.2 ∧ All4 w l
def All2 (w : World) : List (Nat × Int × Int) → Prop
  | [] => True
  | x :: l => At2 w x.1 x.2.1 x.2.2 ∧ All2 w l
theorem All3.below {w w' : World} (k : Below w.heap.size w w') : ∀ {l}, All3 w l → All3 w' l
  | [], _ => trivial
  | _ :: _, h => ⟨h.1.below k, All3.below k h.2⟩
theorem All4.below {w w' : World} (k : Below w.heap.size w w') : ∀ {l}, All4 w l → All4 w' l
  | [], _ => trivial
  | _ :: _, h => ⟨h.1.below k, All4.below k h.2⟩
theorem All2.below {w w' : World} (k : Below w.heap.size w w') : ∀ {l}, All2 w l → All2 w' l
  | [], _ => trivial
  | _ :: _, h => ⟨h.1.below k, All2.below k h.2⟩
/-- What lies where (edits, places, rectangles), and that all below the start is as it was. -/
def St (w : World) (e : List (Nat × Int × Int × Int)) (p : List (Nat × Int × Int)) (r : List (Nat × Int × Int × Int × Int)) (w' : World) : Prop := All3 w' e ∧ All2 w' p ∧ All4 w' r ∧ Below w.heap.size w w'
theorem St.nil (w : World) : St w [] [] [] w := ⟨trivial, trivial, trivial, Below.refl _ _⟩
theorem St.below {w w' w2 : World} {e : List (Nat × Int × Int × Int)} {p : List (Nat × Int × Int)} {r : List (Nat × Int × Int × Int × Int)} (k : Below w'.heap.size w' w2) (h : St w e p r w') : St w e p r w2 :=
  ⟨h.1.below k, h.2.1.below k, h.2.2.1.below k, h.2.2.2.trans (k.mono h.2.2.2.size)⟩
theorem St.alloc {w w' : World} {e : List (Nat × Int × Int × Int)} {p : List (Nat × Int × Int)} {r : List (Nat × Int × Int × Int × Int)} (h : St w e p r w') (o : Obj) : St w e p r (w'.alloc o) := St.below ((Below.refl _ _).alloc (Nat.le_refl _) o) h
theorem St.drew {w w' : World} {e : List (Nat × Int × Int × Int)} {p : List (Nat × Int × Int)} {r : List (Nat × Int × Int × Int × Int)} (h : St w e p r w') : St w e p r w'.drew := St.below ((Below.refl _ _).drew) h
theorem St.box3 {w w' : World} {e : List (Nat × Int × Int × Int)} {p : List (Nat × Int × Int)} {r : List (Nat × Int × Int × Int × Int)} (h : St w e p r w') (x y u : Int) (t : TypeId) : St w ((w'.heap.size, x, y, u) :: e) p r (w'.alloc (.cells #[.int .i64 x, .int .i64 y, .int .i64 u] t)) :=
  have g := h.alloc (.cells #[.int .i64 x, .int .i64 y, .int .i64 u] t)
  ⟨⟨At3.new w' x y u t, g.1⟩, g.2⟩
theorem St.box2 {w w' : World} {e : List (Nat × Int × Int × Int)} {p : List (Nat × Int × Int)} {r : List (Nat × Int × Int × Int × Int)} (h : St w e p r w') (x y : Int) (t : TypeId) : St w e ((w'.heap.size, x, y) :: p) r (w'.alloc (.cells #[.int .i64 x, .int .i64 y] t)) :=
  have g := h.alloc (.cells #[.int .i64 x, .int .i64 y] t)
  ⟨g.1, ⟨At2.new w' x y t, g.2.1⟩, g.2.2⟩
theorem St.box4 {w w' : World} {e : List (Nat × Int × Int × Int)} {p : List (Nat × Int × Int)} {r : List (Nat × Int × Int × Int × Int)} (h : St w e p r w') (x y u v : Int) (t : TypeId) : St w e p ((w'.heap.size, x, y, u, v) :: r) (w'.alloc (.cells #[.int .i64 x, .int .i64 y, .int .i64 u, .int .i64 v] t)) :=
  have g := h.alloc (.cells #[.int .i64 x, .int .i64 y, .int .i64 u, .int .i64 v] t)
  ⟨g.1, g.2.1, ⟨At4.new w' x y u v t, g.2.2.1⟩, g.2.2.2⟩
theorem St.out {w w' : World} {e : List (Nat × Int × Int × Int)} {p : List (Nat × Int × Int)} {r : List (Nat × Int × Int × Int × Int)} (h : St w e p r w') : Below w.heap.size w w' := h.2.2.2
end Go.Proofs.Ytkkoeanjmldmdaa
