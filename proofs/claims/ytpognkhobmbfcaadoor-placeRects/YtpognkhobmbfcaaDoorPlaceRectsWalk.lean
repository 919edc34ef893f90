/-
  The walk of PlaceRects: for every two rectangles and every two places it returns true.
-/
import Derived.Test.YtpognkhobmbfcaaDoorPlSt
import Derived.Test.YtpognkhobmbfcaaDoorPl4
namespace Go.Proofs.YtpognkhobmbfcaaDoor
open Go.RowKit

theorem RctS.of {w w' : World} {p1 p2 p3 p4 p5 p6 q1 q2 : Nat} {t l b r t' l' b' r' x y x' y' m1 m2 m3 m4 o1 o2 o3 o4 : Int} (h : St w [(p6, o1, o2, o3, o4), (p5, o1, o2, o3, o4), (p4, m1, m2, m3, m4), (p3, m1, m2, m3, m4), (p2, t', l', b', r'), (p1, t, l, b, r)] [(q2, x', y'), (q1, x, y)] [] w') : w'.cell? ⟨p1, 0, none⟩ = some (.int .i64 t) ∧ w'.cell? ⟨p1, 1, none⟩ = some (.int .i64 l) ∧ w'.cell? ⟨p1, 2, none⟩ = some (.int .i64 b) ∧ w'.cell? ⟨p1, 3, none⟩ = some (.int .i64 r) ∧ w'.cell? ⟨p3, 0, none⟩ = some (.int .i64 m1) ∧ w'.cell? ⟨p3, 1, none⟩ = some (.int .i64 m2) ∧ w'.cell? ⟨p3, 2, none⟩ = some (.int .i64 m3) ∧ w'.cell? ⟨p3, 3, none⟩ = some (.int .i64 m4) ∧ w'.cell? ⟨p4, 0, none⟩ = some (.int .i64 m1) ∧ w'.cell? ⟨p4, 1, none⟩ = some (.int .i64 m2) ∧ w'.cell? ⟨p4, 2, none⟩ = some (.int .i64 m3) ∧ w'.cell? ⟨p4, 3, none⟩ = some (.int .i64 m4) ∧ w'.cell? ⟨p5, 0, none⟩ = some (.int .i64 o1) ∧ w'.cell? ⟨p5, 1, none⟩ = some (.int .i64 o2) ∧ w'.cell? ⟨p5, 2, none⟩ = some (.int .i64 o3) ∧ w'.cell? ⟨p5, 3, none⟩ = some (.int .i64 o4) ∧ w'.cell? ⟨p6, 0, none⟩ = some (.int .i64 o1) ∧ w'.cell? ⟨p6, 1, none⟩ = some (.int .i64 o2) ∧ w'.cell? ⟨p6, 2, none⟩ = some (.int .i64 o3) ∧ w'.cell? ⟨p6, 3, none⟩ = some (.int .i64 o4) ∧ w'.cell? ⟨q1, 0, none⟩ = some (.int .i64 x) ∧ w'.cell? ⟨q1, 1, none⟩ = some (.int .i64 y) ∧ St w [(p6, o1, o2, o3, o4), (p5, o1, o2, o3, o4), (p4, m1, m2, m3, m4), (p3, m1, m2, m3, m4), (p2, t', l', b', r'), (p1, t, l, b, r)] [(q2, x', y'), (q1, x, y)] [] w' := by
  obtain ⟨⟨⟨_, f0, f1, f2, f3⟩, ⟨_, e0, e1, e2, e3⟩, ⟨_, d0, d1, d2, d3⟩, ⟨_, c0, c1, c2, c3⟩, _, ⟨_, a0, a1, a2, a3⟩, _⟩, ⟨_, ⟨_, g0, g1⟩, _⟩, _⟩ := id h
  exact ⟨a0, a1, a2, a3, c0, c1, c2, c3, d0, d1, d2, d3, e0, e1, e2, e3, f0, f1, f2, f3, g0, g1, h⟩
theorem RctS.st {w w' : World} {p1 p2 p3 p4 p5 p6 q1 q2 : Nat} {t l b r t' l' b' r' x y x' y' m1 m2 m3 m4 o1 o2 o3 o4 : Int} (h : w'.cell? ⟨p1, 0, none⟩ = some (.int .i64 t) ∧ w'.cell? ⟨p1, 1, none⟩ = some (.int .i64 l) ∧ w'.cell? ⟨p1, 2, none⟩ = some (.int .i64 b) ∧ w'.cell? ⟨p1, 3, none⟩ = some (.int .i64 r) ∧ w'.cell? ⟨p3, 0, none⟩ = some (.int .i64 m1) ∧ w'.cell? ⟨p3, 1, none⟩ = some (.int .i64 m2) ∧ w'.cell? ⟨p3, 2, none⟩ = some (.int .i64 m3) ∧ w'.cell? ⟨p3, 3, none⟩ = some (.int .i64 m4) ∧ w'.cell? ⟨p4, 0, none⟩ = some (.int .i64 m1) ∧ w'.cell? ⟨p4, 1, none⟩ = some (.int .i64 m2) ∧ w'.cell? ⟨p4, 2, none⟩ = some (.int .i64 m3) ∧ w'.cell? ⟨p4, 3, none⟩ = some (.int .i64 m4) ∧ w'.cell? ⟨p5, 0, none⟩ = some (.int .i64 o1) ∧ w'.cell? ⟨p5, 1, none⟩ = some (.int .i64 o2) ∧ w'.cell? ⟨p5, 2, none⟩ = some (.int .i64 o3) ∧ w'.cell? ⟨p5, 3, none⟩ = some (.int .i64 o4) ∧ w'.cell? ⟨p6, 0, none⟩ = some (.int .i64 o1) ∧ w'.cell? ⟨p6, 1, none⟩ = some (.int .i64 o2) ∧ w'.cell? ⟨p6, 2, none⟩ = some (.int .i64 o3) ∧ w'.cell? ⟨p6, 3, none⟩ = some (.int .i64 o4) ∧ w'.cell? ⟨q1, 0, none⟩ = some (.int .i64 x) ∧ w'.cell? ⟨q1, 1, none⟩ = some (.int .i64 y) ∧ St w [(p6, o1, o2, o3, o4), (p5, o1, o2, o3, o4), (p4, m1, m2, m3, m4), (p3, m1, m2, m3, m4), (p2, t', l', b', r'), (p1, t, l, b, r)] [(q2, x', y'), (q1, x, y)] [] w') : St w [(p6, o1, o2, o3, o4), (p5, o1, o2, o3, o4), (p4, m1, m2, m3, m4), (p3, m1, m2, m3, m4), (p2, t', l', b', r'), (p1, t, l, b, r)] [(q2, x', y'), (q1, x, y)] [] w' := h.2.2.2.2.2.2.2.2.2.2.2.2.2.2.2.2.2.2.2.2.2.2
theorem RctS.below {w w' w2 : World} {p1 p2 p3 p4 p5 p6 q1 q2 : Nat} {t l b r t' l' b' r' x y x' y' m1 m2 m3 m4 o1 o2 o3 o4 : Int} (k : Below w'.heap.size w' w2) (h : w'.cell? ⟨p1, 0, none⟩ = some (.int .i64 t) ∧ w'.cell? ⟨p1, 1, none⟩ = some (.int .i64 l) ∧ w'.cell? ⟨p1, 2, none⟩ = some (.int .i64 b) ∧ w'.cell? ⟨p1, 3, none⟩ = some (.int .i64 r) ∧ w'.cell? ⟨p3, 0, none⟩ = some (.int .i64 m1) ∧ w'.cell? ⟨p3, 1, none⟩ = some (.int .i64 m2) ∧ w'.cell? ⟨p3, 2, none⟩ = some (.int .i64 m3) ∧ w'.cell? ⟨p3, 3, none⟩ = some (.int .i64 m4) ∧ w'.cell? ⟨p4, 0, none⟩ = some (.int .i64 m1) ∧ w'.cell? ⟨p4, 1, none⟩ = some (.int .i64 m2) ∧ w'.cell? ⟨p4, 2, none⟩ = some (.int .i64 m3) ∧ w'.cell? ⟨p4, 3, none⟩ = some (.int .i64 m4) ∧ w'.cell? ⟨p5, 0, none⟩ = some (.int .i64 o1) ∧ w'.cell? ⟨p5, 1, none⟩ = some (.int .i64 o2) ∧ w'.cell? ⟨p5, 2, none⟩ = some (.int .i64 o3) ∧ w'.cell? ⟨p5, 3, none⟩ = some (.int .i64 o4) ∧ w'.cell? ⟨p6, 0, none⟩ = some (.int .i64 o1) ∧ w'.cell? ⟨p6, 1, none⟩ = some (.int .i64 o2) ∧ w'.cell? ⟨p6, 2, none⟩ = some (.int .i64 o3) ∧ w'.cell? ⟨p6, 3, none⟩ = some (.int .i64 o4) ∧ w'.cell? ⟨q1, 0, none⟩ = some (.int .i64 x) ∧ w'.cell? ⟨q1, 1, none⟩ = some (.int .i64 y) ∧ St w [(p6, o1, o2, o3, o4), (p5, o1, o2, o3, o4), (p4, m1, m2, m3, m4), (p3, m1, m2, m3, m4), (p2, t', l', b', r'), (p1, t, l, b, r)] [(q2, x', y'), (q1, x, y)] [] w') : w2.cell? ⟨p1, 0, none⟩ = some (.int .i64 t) ∧ w2.cell? ⟨p1, 1, none⟩ = some (.int .i64 l) ∧ w2.cell? ⟨p1, 2, none⟩ = some (.int .i64 b) ∧ w2.cell? ⟨p1, 3, none⟩ = some (.int .i64 r) ∧ w2.cell? ⟨p3, 0, none⟩ = some (.int .i64 m1) ∧ w2.cell? ⟨p3, 1, none⟩ = some (.int .i64 m2) ∧ w2.cell? ⟨p3, 2, none⟩ = some (.int .i64 m3) ∧ w2.cell? ⟨p3, 3, none⟩ = some (.int .i64 m4) ∧ w2.cell? ⟨p4, 0, none⟩ = some (.int .i64 m1) ∧ w2.cell? ⟨p4, 1, none⟩ = some (.int .i64 m2) ∧ w2.cell? ⟨p4, 2, none⟩ = some (.int .i64 m3) ∧ w2.cell? ⟨p4, 3, none⟩ = some (.int .i64 m4) ∧ w2.cell? ⟨p5, 0, none⟩ = some (.int .i64 o1) ∧ w2.cell? ⟨p5, 1, none⟩ = some (.int .i64 o2) ∧ w2.cell? ⟨p5, 2, none⟩ = some (.int .i64 o3) ∧ w2.cell? ⟨p5, 3, none⟩ = some (.int .i64 o4) ∧ w2.cell? ⟨p6, 0, none⟩ = some (.int .i64 o1) ∧ w2.cell? ⟨p6, 1, none⟩ = some (.int .i64 o2) ∧ w2.cell? ⟨p6, 2, none⟩ = some (.int .i64 o3) ∧ w2.cell? ⟨p6, 3, none⟩ = some (.int .i64 o4) ∧ w2.cell? ⟨q1, 0, none⟩ = some (.int .i64 x) ∧ w2.cell? ⟨q1, 1, none⟩ = some (.int .i64 y) ∧ St w [(p6, o1, o2, o3, o4), (p5, o1, o2, o3, o4), (p4, m1, m2, m3, m4), (p3, m1, m2, m3, m4), (p2, t', l', b', r'), (p1, t, l, b, r)] [(q2, x', y'), (q1, x, y)] [] w2 := RctS.of (St.below k (RctS.st h))
theorem RctS.drew {w w' : World} {p1 p2 p3 p4 p5 p6 q1 q2 : Nat} {t l b r t' l' b' r' x y x' y' m1 m2 m3 m4 o1 o2 o3 o4 : Int} (h : w'.cell? ⟨p1, 0, none⟩ = some (.int .i64 t) ∧ w'.cell? ⟨p1, 1, none⟩ = some (.int .i64 l) ∧ w'.cell? ⟨p1, 2, none⟩ = some (.int .i64 b) ∧ w'.cell? ⟨p1, 3, none⟩ = some (.int .i64 r) ∧ w'.cell? ⟨p3, 0, none⟩ = some (.int .i64 m1) ∧ w'.cell? ⟨p3, 1, none⟩ = some (.int .i64 m2) ∧ w'.cell? ⟨p3, 2, none⟩ = some (.int .i64 m3) ∧ w'.cell? ⟨p3, 3, none⟩ = some (.int .i64 m4) ∧ w'.cell? ⟨p4, 0, none⟩ = some (.int .i64 m1) ∧ w'.cell? ⟨p4, 1, none⟩ = some (.int .i64 m2) ∧ w'.cell? ⟨p4, 2, none⟩ = some (.int .i64 m3) ∧ w'.cell? ⟨p4, 3, none⟩ = some (.int .i64 m4) ∧ w'.cell? ⟨p5, 0, none⟩ = some (.int .i64 o1) ∧ w'.cell? ⟨p5, 1, none⟩ = some (.int .i64 o2) ∧ w'.cell? ⟨p5, 2, none⟩ = some (.int .i64 o3) ∧ w'.cell? ⟨p5, 3, none⟩ = some (.int .i64 o4) ∧ w'.cell? ⟨p6, 0, none⟩ = some (.int .i64 o1) ∧ w'.cell? ⟨p6, 1, none⟩ = some (.int .i64 o2) ∧ w'.cell? ⟨p6, 2, none⟩ = some (.int .i64 o3) ∧ w'.cell? ⟨p6, 3, none⟩ = some (.int .i64 o4) ∧ w'.cell? ⟨q1, 0, none⟩ = some (.int .i64 x) ∧ w'.cell? ⟨q1, 1, none⟩ = some (.int .i64 y) ∧ St w [(p6, o1, o2, o3, o4), (p5, o1, o2, o3, o4), (p4, m1, m2, m3, m4), (p3, m1, m2, m3, m4), (p2, t', l', b', r'), (p1, t, l, b, r)] [(q2, x', y'), (q1, x, y)] [] w') : w'.drew.cell? ⟨p1, 0, none⟩ = some (.int .i64 t) ∧ w'.drew.cell? ⟨p1, 1, none⟩ = some (.int .i64 l) ∧ w'.drew.cell? ⟨p1, 2, none⟩ = some (.int .i64 b) ∧ w'.drew.cell? ⟨p1, 3, none⟩ = some (.int .i64 r) ∧ w'.drew.cell? ⟨p3, 0, none⟩ = some (.int .i64 m1) ∧ w'.drew.cell? ⟨p3, 1, none⟩ = some (.int .i64 m2) ∧ w'.drew.cell? ⟨p3, 2, none⟩ = some (.int .i64 m3) ∧ w'.drew.cell? ⟨p3, 3, none⟩ = some (.int .i64 m4) ∧ w'.drew.cell? ⟨p4, 0, none⟩ = some (.int .i64 m1) ∧ w'.drew.cell? ⟨p4, 1, none⟩ = some (.int .i64 m2) ∧ w'.drew.cell? ⟨p4, 2, none⟩ = some (.int .i64 m3) ∧ w'.drew.cell? ⟨p4, 3, none⟩ = some (.int .i64 m4) ∧ w'.drew.cell? ⟨p5, 0, none⟩ = some (.int .i64 o1) ∧ w'.drew.cell? ⟨p5, 1, none⟩ = some (.int .i64 o2) ∧ w'.drew.cell? ⟨p5, 2, none⟩ = some (.int .i64 o3) ∧ w'.drew.cell? ⟨p5, 3, none⟩ = some (.int .i64 o4) ∧ w'.drew.cell? ⟨p6, 0, none⟩ = some (.int .i64 o1) ∧ w'.drew.cell? ⟨p6, 1, none⟩ = some (.int .i64 o2) ∧ w'.drew.cell? ⟨p6, 2, none⟩ = some (.int .i64 o3) ∧ w'.drew.cell? ⟨p6, 3, none⟩ = some (.int .i64 o4) ∧ w'.drew.cell? ⟨q1, 0, none⟩ = some (.int .i64 x) ∧ w'.drew.cell? ⟨q1, 1, none⟩ = some (.int .i64 y) ∧ St w [(p6, o1, o2, o3, o4), (p5, o1, o2, o3, o4), (p4, m1, m2, m3, m4), (p3, m1, m2, m3, m4), (p2, t', l', b', r'), (p1, t, l, b, r)] [(q2, x', y'), (q1, x, y)] [] w'.drew := RctS.of (St.below ((Below.refl _ _).drew) (RctS.st h))
set_option maxRecDepth 100000 in
set_option maxHeartbeats 8000000 in
theorem placeRects_walk (t l b r t' l' b' r' x y x' y' : Int) (w : World) (ht : TabOk w) :
    Calls Tryd.prog 5 #[.agg #[.int .i64 t, .int .i64 l, .int .i64 b, .int .i64 r], .agg #[.int .i64 t', .int .i64 l', .int .i64 b', .int .i64 r'], .agg #[.int .i64 x, .int .i64 y], .agg #[.int .i64 x', .int .i64 y']] w fun e w' => e = .returned (.bool true) ∧ Below w.heap.size w w' := by
  have HT := hide ht
  clear ht
  have HS : Hid (St w [(w.heap.size + 1, t', l', b', r'), (w.heap.size, t, l, b, r)] [(w.heap.size + 1 + 1 + 1, x', y'), (w.heap.size + 1 + 1, x, y)] [] ((((w.alloc (.cells #[.int .i64 t, .int .i64 l, .int .i64 b, .int .i64 r] 45)).alloc (.cells #[.int .i64 t', .int .i64 l', .int .i64 b', .int .i64 r'] 45)).alloc (.cells #[.int .i64 x, .int .i64 y] 34)).alloc (.cells #[.int .i64 x', .int .i64 y'] 34))) := by
    have := ((((St.nil w).box4 t l b r 45).box4 t' l' b' r' 45).box2 x y 34).box2 x' y' 34
    show St _ _ _ _ _
    simpa using this
  have H1 : Hid (∀ W : World, Calls Tryd.prog 18 #[.agg #[.int .i64 t, .int .i64 l, .int .i64 b, .int .i64 r]] W fun e w' => e = .returned (.tuple #[.int .i64 (areaR t l b r).1, .int .i64 (areaR t l b r).2]) ∧ Below W.heap.size W w') := fun W => area_any _ _ _ _ W
  have H2 : Hid (∀ W : World, Calls Tryd.prog 19 #[.agg #[.int .i64 t, .int .i64 l, .int .i64 b, .int .i64 r]] W fun e w' => e = .returned (.tuple #[.int .i64 (areaR t l b r).1, .int .i64 (areaR t l b r).2]) ∧ Below W.heap.size W w') := fun W => rarea_any _ _ _ _ W
  have H3 : Hid (∀ W : World, Calls Tryd.prog 20 #[.agg #[.int .i64 t, .int .i64 l, .int .i64 b, .int .i64 r], .agg #[.int .i64 t', .int .i64 l', .int .i64 b', .int .i64 r']] W fun e w' => e = .returned (.tuple #[.agg #[.int .i64 ((meetR t l b r t' l' b' r').1), .int .i64 ((meetR t l b r t' l' b' r').2.1), .int .i64 ((meetR t l b r t' l' b' r').2.2.1), .int .i64 ((meetR t l b r t' l' b' r').2.2.2.1)], .bool (meetR t l b r t' l' b' r').2.2.2.2]) ∧ Below W.heap.size W w') := fun W => meet_any _ _ _ _ _ _ _ _ W
  have H4 : Hid (∀ W : World, Calls Tryd.prog 21 #[.agg #[.int .i64 t, .int .i64 l, .int .i64 b, .int .i64 r], .agg #[.int .i64 t', .int .i64 l', .int .i64 b', .int .i64 r']] W fun e w' => e = .returned (.tuple #[.agg #[.int .i64 ((meetR t l b r t' l' b' r').1), .int .i64 ((meetR t l b r t' l' b' r').2.1), .int .i64 ((meetR t l b r t' l' b' r').2.2.1), .int .i64 ((meetR t l b r t' l' b' r').2.2.2.1)], .bool (meetR t l b r t' l' b' r').2.2.2.2]) ∧ Below W.heap.size W w') := fun W => rmeet_any _ _ _ _ _ _ _ _ W
  have H5 : Hid (∀ W : World, Calls Tryd.prog 22 #[.agg #[.int .i64 x, .int .i64 y], .agg #[.int .i64 x', .int .i64 y']] W fun e w' => e = .returned (.tuple #[.agg #[.int .i64 ((ofR x y x' y').1), .int .i64 ((ofR x y x' y').2.1), .int .i64 ((ofR x y x' y').2.2.1), .int .i64 ((ofR x y x' y').2.2.2.1)], .int .i64 (ofR x y x' y').2.2.2.2]) ∧ Below W.heap.size W w') := fun W => of_any _ _ _ _ W
  have H6 : Hid (∀ W : World, Calls Tryd.prog 23 #[.agg #[.int .i64 x, .int .i64 y], .agg #[.int .i64 x', .int .i64 y']] W fun e w' => e = .returned (.tuple #[.agg #[.int .i64 ((ofR x y x' y').1), .int .i64 ((ofR x y x' y').2.1), .int .i64 ((ofR x y x' y').2.2.1), .int .i64 ((ofR x y x' y').2.2.2.1)], .int .i64 (ofR x y x' y').2.2.2.2]) ∧ Below W.heap.size W w') := fun W => rof_any _ _ _ _ W
  have H7 : Hid (∀ W : World, Calls Tryd.prog 24 #[.agg #[.int .i64 t, .int .i64 l, .int .i64 b, .int .i64 r]] W fun e w' => e = .returned (.int .i64 (checkR t l b r)) ∧ Below W.heap.size W w') := fun W => check_any _ _ _ _ W
  have H8 : Hid (∀ W : World, Calls Tryd.prog 25 #[.agg #[.int .i64 t, .int .i64 l, .int .i64 b, .int .i64 r]] W fun e w' => e = .returned (.int .i64 (checkR t l b r)) ∧ Below W.heap.size W w') := fun W => rcheck_any _ _ _ _ W
  have H9 : Hid (∀ W : World, Calls Tryd.prog 26 #[.agg #[.int .i64 t, .int .i64 l, .int .i64 b, .int .i64 r], .agg #[.int .i64 x, .int .i64 y]] W fun e w' => e = .returned (.bool (inB t l b r x y)) ∧ Below W.heap.size W w') := fun W => in_any _ _ _ _ _ _ W
  have H10 : Hid (∀ W : World, Calls Tryd.prog 27 #[.agg #[.int .i64 t, .int .i64 l, .int .i64 b, .int .i64 r], .agg #[.int .i64 x, .int .i64 y]] W fun e w' => e = .returned (.bool (inB t l b r x y)) ∧ Below W.heap.size W w') := fun W => rin_any _ _ _ _ _ _ W
  generalize (meetR t l b r t' l' b' r').1 = m1 at *
  generalize (meetR t l b r t' l' b' r').2.1 = m2 at *
  generalize (meetR t l b r t' l' b' r').2.2.1 = m3 at *
  generalize (meetR t l b r t' l' b' r').2.2.2.1 = m4 at *
  generalize (meetR t l b r t' l' b' r').2.2.2.2 = mb at *
  generalize (ofR x y x' y').1 = o1 at *
  generalize (ofR x y x' y').2.1 = o2 at *
  generalize (ofR x y x' y').2.2.1 = o3 at *
  generalize (ofR x y x' y').2.2.2.1 = o4 at *
  generalize (ofR x y x' y').2.2.2.2 = oe at *
  generalize (areaR t l b r).1 = a1 at *
  generalize (areaR t l b r).2 = a2 at *
  generalize checkR t l b r = ck at *
  generalize inB t l b r x y = ib at *
  have qm1 : (m1 == m1) = true := by simp
  have qm2 : (m2 == m2) = true := by simp
  have qm3 : (m3 == m3) = true := by simp
  have qm4 : (m4 == m4) = true := by simp
  have qmb : (mb == mb) = true := by simp
  have qo1 : (o1 == o1) = true := by simp
  have qo2 : (o2 == o2) = true := by simp
  have qo3 : (o3 == o3) = true := by simp
  have qo4 : (o4 == o4) = true := by simp
  have qoe : (oe == oe) = true := by simp
  have qa1 : (a1 == a1) = true := by simp
  have qa2 : (a2 == a2) = true := by simp
  have qck : (ck == ck) = true := by simp
  have qib : (ib == ib) = true := by simp
  go_enter Tryd.func5, Tryd.ntmps5
  go_wp2_with fail
  refine (H1.out _).mono ?_
  rintro e w1 ⟨rfl, hb⟩
  have hs0 := St.below hb HS.out
  have ⟨⟨⟨za, ka0, ka1, ka2, ka3⟩, ⟨zb, kb0, kb1, kb2, kb3⟩, _⟩, ⟨⟨zk, kk0, kk1⟩, ⟨zl, kl0, kl1⟩, _⟩, _⟩ := hs0
  have HS := hide hs0
  clear hs0 hb
  go_wp2_with fail
  refine (H2.out _).mono ?_
  rintro e w2 ⟨rfl, hb⟩
  clear za ka0 ka1 ka2 ka3 zb kb0 kb1 kb2 kb3 zk kk0 kk1 zl kl0 kl1
  have hs0 := St.below hb HS.out
  have ⟨⟨⟨za, ka0, ka1, ka2, ka3⟩, ⟨zb, kb0, kb1, kb2, kb3⟩, _⟩, ⟨⟨zk, kk0, kk1⟩, ⟨zl, kl0, kl1⟩, _⟩, _⟩ := hs0
  have HS := hide hs0
  clear hs0 hb
  go_wp2_with fail
  refine (H3.out _).mono ?_
  rintro e w3 ⟨rfl, hb⟩
  clear za ka0 ka1 ka2 ka3 zb kb0 kb1 kb2 kb3 zk kk0 kk1 zl kl0 kl1
  have hs0 := St.below hb HS.out
  have ⟨⟨⟨za, ka0, ka1, ka2, ka3⟩, ⟨zb, kb0, kb1, kb2, kb3⟩, _⟩, ⟨⟨zk, kk0, kk1⟩, ⟨zl, kl0, kl1⟩, _⟩, _⟩ := hs0
  have HS := hide (hs0.box4 m1 m2 m3 m4 45)
  clear hs0 hb
  go_wp2_with fail
  refine (H4.out _).mono ?_
  rintro e w4 ⟨rfl, hb⟩
  clear za ka0 ka1 ka2 ka3 zb kb0 kb1 kb2 kb3 zk kk0 kk1 zl kl0 kl1
  have hs0 := St.below hb HS.out
  have ⟨⟨⟨za, ka0, ka1, ka2, ka3⟩, ⟨zb, kb0, kb1, kb2, kb3⟩, ⟨zc, kc0, kc1, kc2, kc3⟩, _⟩, ⟨⟨zk, kk0, kk1⟩, ⟨zl, kl0, kl1⟩, _⟩, _⟩ := hs0
  have HS := hide (hs0.box4 m1 m2 m3 m4 45)
  clear hs0 hb
  go_wp2_with fail
  refine (H5.out _).mono ?_
  rintro e w5 ⟨rfl, hb⟩
  clear za ka0 ka1 ka2 ka3 zb kb0 kb1 kb2 kb3 zc kc0 kc1 kc2 kc3 zk kk0 kk1 zl kl0 kl1
  have hs0 := St.below hb HS.out
  have ⟨⟨⟨za, ka0, ka1, ka2, ka3⟩, ⟨zb, kb0, kb1, kb2, kb3⟩, ⟨zc, kc0, kc1, kc2, kc3⟩, ⟨zd, kd0, kd1, kd2, kd3⟩, _⟩, ⟨⟨zk, kk0, kk1⟩, ⟨zl, kl0, kl1⟩, _⟩, _⟩ := hs0
  have HS := hide (hs0.box4 o1 o2 o3 o4 45)
  clear hs0 hb
  go_wp2_with fail
  refine (H6.out _).mono ?_
  rintro e w6 ⟨rfl, hb⟩
  clear za ka0 ka1 ka2 ka3 zb kb0 kb1 kb2 kb3 zc kc0 kc1 kc2 kc3 zd kd0 kd1 kd2 kd3 zk kk0 kk1 zl kl0 kl1
  have hs0 := St.below hb HS.out
  have HS := hide (hs0.box4 o1 o2 o3 o4 45)
  clear hs0 hb
  go_wp2
  have hs9 := RctS.of HS.out
  go_region_held3 (fun w' => w'.cell? ⟨w.heap.size, 0, none⟩ = some (.int .i64 t) ∧ w'.cell? ⟨w.heap.size, 1, none⟩ = some (.int .i64 l) ∧ w'.cell? ⟨w.heap.size, 2, none⟩ = some (.int .i64 b) ∧ w'.cell? ⟨w.heap.size, 3, none⟩ = some (.int .i64 r) ∧ w'.cell? ⟨w3.heap.size, 0, none⟩ = some (.int .i64 m1) ∧ w'.cell? ⟨w3.heap.size, 1, none⟩ = some (.int .i64 m2) ∧ w'.cell? ⟨w3.heap.size, 2, none⟩ = some (.int .i64 m3) ∧ w'.cell? ⟨w3.heap.size, 3, none⟩ = some (.int .i64 m4) ∧ w'.cell? ⟨w4.heap.size, 0, none⟩ = some (.int .i64 m1) ∧ w'.cell? ⟨w4.heap.size, 1, none⟩ = some (.int .i64 m2) ∧ w'.cell? ⟨w4.heap.size, 2, none⟩ = some (.int .i64 m3) ∧ w'.cell? ⟨w4.heap.size, 3, none⟩ = some (.int .i64 m4) ∧ w'.cell? ⟨w5.heap.size, 0, none⟩ = some (.int .i64 o1) ∧ w'.cell? ⟨w5.heap.size, 1, none⟩ = some (.int .i64 o2) ∧ w'.cell? ⟨w5.heap.size, 2, none⟩ = some (.int .i64 o3) ∧ w'.cell? ⟨w5.heap.size, 3, none⟩ = some (.int .i64 o4) ∧ w'.cell? ⟨w6.heap.size, 0, none⟩ = some (.int .i64 o1) ∧ w'.cell? ⟨w6.heap.size, 1, none⟩ = some (.int .i64 o2) ∧ w'.cell? ⟨w6.heap.size, 2, none⟩ = some (.int .i64 o3) ∧ w'.cell? ⟨w6.heap.size, 3, none⟩ = some (.int .i64 o4) ∧ w'.cell? ⟨w.heap.size + 1 + 1, 0, none⟩ = some (.int .i64 x) ∧ w'.cell? ⟨w.heap.size + 1 + 1, 1, none⟩ = some (.int .i64 y) ∧ St w [(w6.heap.size, o1, o2, o3, o4), (w5.heap.size, o1, o2, o3, o4), (w4.heap.size, m1, m2, m3, m4), (w3.heap.size, m1, m2, m3, m4), (w.heap.size + 1, t', l', b', r'), (w.heap.size, t, l, b, r)] [(w.heap.size + 1 + 1 + 1, x', y'), (w.heap.size + 1 + 1, x, y)] [] w') (first | exact hs9 | assumption | exact RctS.drew (by assumption)) (first | (go_at_call 24; refine (H7.out _).mono ?_; rintro e wn ⟨rfl, hb⟩; have hs := RctS.below hb (by assumption)) | (go_at_call 25; refine (H8.out _).mono ?_; rintro e wn ⟨rfl, hb⟩; have hs := RctS.below hb (by assumption)) | (go_at_call 26; refine (H9.out _).mono ?_; rintro e wn ⟨rfl, hb⟩; have hs := RctS.below hb (by assumption)) | (go_at_call 27; refine (H10.out _).mono ?_; rintro e wn ⟨rfl, hb⟩; have hs := RctS.below hb (by assumption)) | (go_at_call 13; refine (lives5_any _ (tab_below HT.out (St.out (RctS.st (by assumption))))).mono ?_; rintro e wn ⟨rfl, hb⟩; have hs := RctS.below hb (by assumption)))
  all_goals go_wp2
  all_goals go_ret
  all_goals exact ⟨rfl, St.out (RctS.st (by assumption))⟩
end Go.Proofs.YtpognkhobmbfcaaDoor
