/-
  Places, rectangles and cells in blocks of the call's own, behind calls.
-/
import Derived.Test.YtpognkhobmbfcaaDoorPt8
import Derived.Test.YtpognkhobmbfcaaDoorPl2
namespace Go.Proofs.YtpognkhobmbfcaaDoor
open Go.RowKit

def All4 (w : World) : List (Nat × Int × Int × Int × Int) → Prop
  | [] => True
  | x :: l => At4 w x.1 x.2.1 x.2.2.1 x.2.2.2.1 x.2.2.2.2 ∧ All4 w l
def All2 (w : World) : List (Nat × Int × Int) → Prop
  | [] => True
  | x :: l => At2 w x.1 x.2.1 x.2.2 ∧ All2 w l
/-- A cell lies in a block of its own. -/
def AtC (w : World) (b : Nat) (r c : Int) (x y : Bool) : Prop := b < w.heap.size ∧ w.cell? ⟨b, 0, none⟩ = some (.int .i64 r) ∧ w.cell? ⟨b, 1, none⟩ = some (.int .i64 c) ∧ w.cell? ⟨b, 2, none⟩ = some (.bool x) ∧ w.cell? ⟨b, 3, none⟩ = some (.bool y)
def AllC (w : World) : List (Nat × Int × Int × Bool × Bool) → Prop
  | [] => True
  | x :: l => AtC w x.1 x.2.1 x.2.2.1 x.2.2.2.1 x.2.2.2.2 ∧ AllC w l
theorem AtC.below {w w' : World} {b : Nat} {r c : Int} {x y : Bool} (h : AtC w b r c x y) (k : Below w.heap.size w w') : AtC w' b r c x y :=
  ⟨Nat.lt_of_lt_of_le h.1 k.size, by rw [k.cell (p := ⟨b, 0, none⟩) h.1]; exact h.2.1, by rw [k.cell (p := ⟨b, 1, none⟩) h.1]; exact h.2.2.1, by rw [k.cell (p := ⟨b, 2, none⟩) h.1]; exact h.2.2.2.1, by rw [k.cell (p := ⟨b, 3, none⟩) h.1]; exact h.2.2.2.2⟩
theorem AtC.new (w : World) (r c : Int) (x y : Bool) (t : TypeId) : AtC (w.alloc (.cells #[.int .i64 r, .int .i64 c, .bool x, .bool y] t)) w.heap.size r c x y := (Cel.new w r c x y t).1
theorem All4.below {w w' : World} (k : Below w.heap.size w w') : ∀ {l}, All4 w l → All4 w' l
  | [], _ => trivial
  | _ :: _, h => ⟨h.1.below k, All4.below k h.2⟩
theorem All2.below {w w' : World} (k : Below w.heap.size w w') : ∀ {l}, All2 w l → All2 w' l
  | [], _ => trivial
  | _ :: _, h => ⟨h.1.below k, All2.below k h.2⟩
theorem AllC.below {w w' : World} (k : Below w.heap.size w w') : ∀ {l}, AllC w l → AllC w' l
  | [], _ => trivial
  | _ :: _, h => ⟨h.1.below k, AllC.below k h.2⟩
/-- What lies where, and that all below the start is as it was. -/
def St (w : World) (a : List (Nat × Int × Int × Int × Int)) (b : List (Nat × Int × Int)) (c : List (Nat × Int × Int × Bool × Bool)) (w' : World) : Prop := All4 w' a ∧ All2 w' b ∧ AllC w' c ∧ Below w.heap.size w w'
theorem St.nil (w : World) : St w [] [] [] w := ⟨trivial, trivial, trivial, Below.refl _ _⟩
theorem St.below {w w' w2 : World} {a : List (Nat × Int × Int × Int × Int)} {b : List (Nat × Int × Int)} {c : List (Nat × Int × Int × Bool × Bool)} (k : Below w'.heap.size w' w2) (h : St w a b c w') : St w a b c w2 :=
  ⟨h.1.below k, h.2.1.below k, h.2.2.1.below k, h.2.2.2.trans (k.mono h.2.2.2.size)⟩
theorem St.alloc {w w' : World} {a : List (Nat × Int × Int × Int × Int)} {b : List (Nat × Int × Int)} {c : List (Nat × Int × Int × Bool × Bool)} (h : St w a b c w') (o : Obj) : St w a b c (w'.alloc o) := St.below ((Below.refl _ _).alloc (Nat.le_refl _) o) h
theorem St.box4 {w w' : World} {a : List (Nat × Int × Int × Int × Int)} {b : List (Nat × Int × Int)} {c : List (Nat × Int × Int × Bool × Bool)} (h : St w a b c w') (x y u v : Int) (t : TypeId) : St w ((w'.heap.size, x, y, u, v) :: a) b c (w'.alloc (.cells #[.int .i64 x, .int .i64 y, .int .i64 u, .int .i64 v] t)) :=
  have g := h.alloc (.cells #[.int .i64 x, .int .i64 y, .int .i64 u, .int .i64 v] t)
  ⟨⟨At4.new w' x y u v t, g.1⟩, g.2⟩
theorem St.box2 {w w' : World} {a : List (Nat × Int × Int × Int × Int)} {b : List (Nat × Int × Int)} {c : List (Nat × Int × Int × Bool × Bool)} (h : St w a b c w') (x y : Int) (t : TypeId) : St w a ((w'.heap.size, x, y) :: b) c (w'.alloc (.cells #[.int .i64 x, .int .i64 y] t)) :=
  have g := h.alloc (.cells #[.int .i64 x, .int .i64 y] t)
  ⟨g.1, ⟨At2.new w' x y t, g.2.1⟩, g.2.2⟩
theorem St.boxC {w w' : World} {a : List (Nat × Int × Int × Int × Int)} {b : List (Nat × Int × Int)} {c : List (Nat × Int × Int × Bool × Bool)} (h : St w a b c w') (r k : Int) (x y : Bool) (t : TypeId) : St w a b ((w'.heap.size, r, k, x, y) :: c) (w'.alloc (.cells #[.int .i64 r, .int .i64 k, .bool x, .bool y] t)) :=
  have g := h.alloc (.cells #[.int .i64 r, .int .i64 k, .bool x, .bool y] t)
  ⟨g.1, g.2.1, ⟨AtC.new w' r k x y t, g.2.2.1⟩, g.2.2.2⟩
theorem St.out {w w' : World} {a : List (Nat × Int × Int × Int × Int)} {b : List (Nat × Int × Int)} {c : List (Nat × Int × Int × Bool × Bool)} (h : St w a b c w') : Below w.heap.size w w' := h.2.2.2

theorem meet_comm (t l b r t' l' b' r' : Int) : meetR t' l' b' r' t l b r = meetR t l b r t' l' b' r' := by
  unfold meetR
  rw [Int.max_comm t' t, Int.max_comm l' l, Int.min_comm b' b, Int.min_comm r' r, Bool.and_comm (rightB t' l' b' r')]
theorem in_meet {t l b r t' l' b' r' : Int} (h : (meetR t l b r t' l' b' r').2.2.2.2 = true) (x y : Int) : inB (meetR t l b r t' l' b' r').1 (meetR t l b r t' l' b' r').2.1 (meetR t l b r t' l' b' r').2.2.1 (meetR t l b r t' l' b' r').2.2.2.1 x y = (inB t l b r x y && inB t' l' b' r' x y) ∧ rightB (meetR t l b r t' l' b' r').1 (meetR t l b r t' l' b' r').2.1 (meetR t l b r t' l' b' r').2.2.1 (meetR t l b r t' l' b' r').2.2.2.1 = true ∧ rightB t l b r = true ∧ rightB t' l' b' r' = true := by
  cases h1 : rightB t l b r
  · rw [meetR_no (Or.inl h1)] at h; cases h
  · cases h2 : rightB t' l' b' r'
    · rw [meetR_no (Or.inr (Or.inl h2))] at h; cases h
    · cases h3 : rightB (max t t') (max l l') (min b b') (min r r')
      · rw [meetR_no (Or.inr (Or.inr h3))] at h; cases h
      · rw [meetR_yes h1 h2 h3]
        refine ⟨?_, h3, rfl, rfl⟩
        rw [Bool.eq_iff_iff, Bool.and_eq_true, inB_iff, inB_iff, inB_iff, h1, h2, h3]
        simp only [true_and]
        omega
theorem meet_none {t l b r t' l' b' r' : Int} (h : (meetR t l b r t' l' b' r').2.2.2.2 = false) : meetR t l b r t' l' b' r' = (0, 0, 0, 0, false) := by
  unfold meetR at *
  split
  · rename_i a; rw [if_pos a] at h; cases h
  · rfl
theorem meet_both {t l b r t' l' b' r' x y : Int} (h : (meetR t l b r t' l' b' r').2.2.2.2 = false) (h1 : inB t l b r x y = true) : inB t' l' b' r' x y = false := by
  cases h2 : inB t' l' b' r' x y
  · rfl
  · have g1 := inB_iff.1 h1
    have g2 := inB_iff.1 h2
    have k1 := rightB_iff.1 g1.1
    have k2 := rightB_iff.1 g2.1
    rw [meetR_yes g1.1 g2.1 (rightB_iff.2 (by omega))] at h
    cases h
end Go.Proofs.YtpognkhobmbfcaaDoor
