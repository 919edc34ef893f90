/-
  Out of Mv5, Mv6, Mv7, Mv8, what is asked for (laid by pack9.py).
-/
import Derived.Test.YtfpmmckpobpokaaGreatMVMv
set_option maxRecDepth 100000
set_option maxHeartbeats 4000000
namespace Go.Proofs.YtfpmmckpobpokaaGreat.Pla
section
open Go.RowKit
def RcS (w : World) (k a n t l b r : Int) (w' : World) : Prop := At3 w' w.heap.size k a n ∧ At4 w' (w.heap.size + 1) t l b r ∧ Has4 w' (w.heap.size + 1 + 1) 0 0 0 0 ∧ Below w.heap.size w w'
theorem RcS.below {w w1 w' : World} {k a n t l b r : Int} (h : RcS w k a n t l b r w1) (m : Below w1.heap.size w1 w') : RcS w k a n t l b r w' :=
 ⟨h.1.below m, h.2.1.below m, h.2.2.1.below m, h.2.2.2.trans (m.mono h.2.2.2.size)⟩
theorem RcS.alloc {w w1 : World} {k a n t l b r : Int} (h : RcS w k a n t l b r w1) (o : Obj) : RcS w k a n t l b r (w1.alloc o) := h.below ((Below.refl _ _).alloc (Nat.le_refl _) o)
theorem RcS.start (w : World) (k a n t l b r : Int) (t1 t2 t3 : TypeId) : RcS w k a n t l b r (((w.alloc (.cells #[.int .i64 k, .int .i64 a, .int .i64 n] t1)).alloc (.cells #[.int .i64 t, .int .i64 l, .int .i64 b, .int .i64 r] t2)).alloc (.cells #[.int .i64 0, .int .i64 0, .int .i64 0, .int .i64 0] t3)) := by
 refine ⟨((At3.new w k a n t1).alloc _).alloc _, ?_, ?_, ?_⟩
 ·
  have := (At4.new (w.alloc (.cells #[.int .i64 k, .int .i64 a, .int .i64 n] t1)) t l b r t2).alloc (.cells #[.int .i64 0, .int .i64 0, .int .i64 0, .int .i64 0] t3)
  simpa using this
 ·
  have := Has4.new ((w.alloc (.cells #[.int .i64 k, .int .i64 a, .int .i64 n] t1)).alloc (.cells #[.int .i64 t, .int .i64 l, .int .i64 b, .int .i64 r] t2)) 0 0 0 0 t3
  simpa using this
 ·
  exact bl
def RdS (w : World) (q : Nat) (k a n t l b r x y u v : Int) (w' : World) : Prop := w.heap.size + 1 + 1 < q ∧ Has2 w' q x y ∧ Has2 w' (q + 1) u v ∧ RcS w k a n t l b r w'
theorem RdS.below {w w1 w' : World} {q : Nat} {k a n t l b r x y u v : Int} (h : RdS w q k a n t l b r x y u v w1) (m : Below w1.heap.size w1 w') : RdS w q k a n t l b r x y u v w' :=
 ⟨h.1, h.2.1.below m, h.2.2.1.below m, h.2.2.2.below m⟩
theorem RdS.alloc {w w1 : World} {q : Nat} {k a n t l b r x y u v : Int} (h : RdS w q k a n t l b r x y u v w1) (o : Obj) : RdS w q k a n t l b r x y u v (w1.alloc o) := h.below ((Below.refl _ _).alloc (Nat.le_refl _) o)
theorem RdS.start {w w1 : World} {k a n t l b r : Int} (h : RcS w k a n t l b r w1) (x y u v : Int) (t1 t2 : TypeId) : RdS w w1.heap.size k a n t l b r x y u v ((w1.alloc (.cells #[.int .i64 x, .int .i64 y] t1)).alloc (.cells #[.int .i64 u, .int .i64 v] t2)) :=
 ⟨h.2.2.1.1.1, (Has2.new w1 x y t1).alloc _, by have := Has2.new (w1.alloc (.cells #[.int .i64 x, .int .i64 y] t1)) u v t2; simpa using this, (h.alloc _).alloc _⟩
theorem RdS.put {w w1 w' : World} {q i : Nat} {k a n t l b r x y u v : Int} {z : Value} (h : RdS w q k a n t l b r x y u v w1) (m : Put w1 q i z w') : Has2 w' (q + 1) u v ∧ RcS w k a n t l b r w' := by
 have g := h.1
 exact ⟨m.has2 (by omega) h.2.2.1, m.at3 (by omega) h.2.2.2.1, m.at4 (by omega) h.2.2.2.2.1, m.has4 (by omega) h.2.2.2.2.2.1, h.2.2.2.2.2.2.trans (m.below.mono (by omega))⟩
theorem RdS.put2 {w w1 w' : World} {q i : Nat} {k a n t l b r x y u v : Int} {z : Value} (h : RdS w q k a n t l b r x y u v w1) (m : Put w1 (q + 1) i z w') : Has2 w' q x y ∧ RcS w k a n t l b r w' := by
 have g := h.1
 exact ⟨m.has2 (by omega) h.2.1, m.at3 (by omega) h.2.2.2.1, m.at4 (by omega) h.2.2.2.2.1, m.has4 (by omega) h.2.2.2.2.2.1, h.2.2.2.2.2.2.trans (m.below.mono (by omega))⟩
theorem RdS.a0 {w w1 w' : World} {q : Nat} {k a n t l b r x y u v z : Int} (h : RdS w q k a n t l b r x y u v w1) (m : Put w1 q 0 (.int .i64 z) w') : RdS w q k a n t l b r z y u v w' := ⟨h.1, m.first h.2.1, (h.put m).1, (h.put m).2⟩
theorem RdS.a1 {w w1 w' : World} {q : Nat} {k a n t l b r x y u v z : Int} (h : RdS w q k a n t l b r x y u v w1) (m : Put w1 q 1 (.int .i64 z) w') : RdS w q k a n t l b r x z u v w' := ⟨h.1, m.second h.2.1, (h.put m).1, (h.put m).2⟩
theorem RdS.b0 {w w1 w' : World} {q : Nat} {k a n t l b r x y u v z : Int} (h : RdS w q k a n t l b r x y u v w1) (m : Put w1 (q + 1) 0 (.int .i64 z) w') : RdS w q k a n t l b r x y z v w' := ⟨h.1, (h.put2 m).1, m.first h.2.2.1, (h.put2 m).2⟩
theorem RdS.b1 {w w1 w' : World} {q : Nat} {k a n t l b r x y u v z : Int} (h : RdS w q k a n t l b r x y u v w1) (m : Put w1 (q + 1) 1 (.int .i64 z) w') : RdS w q k a n t l b r x y u z w' := ⟨h.1, (h.put2 m).1, m.second h.2.2.1, (h.put2 m).2⟩
theorem RdA.of {w w' : World} {q : Nat} {k a n t l b r x y u v : Int} (h : RdS w q k a n t l b r x y u v w') : w'.cell? ⟨w.heap.size, 0, none⟩ = some (.int .i64 k) ∧ w'.cell? ⟨w.heap.size, 1, none⟩ = some (.int .i64 a) ∧ w'.cell? ⟨w.heap.size, 2, none⟩ = some (.int .i64 n) ∧ w'.cell? ⟨q, 0, none⟩ = some (.int .i64 x) ∧ w'.cell? ⟨q, 1, none⟩ = some (.int .i64 y) ∧ w'.cell? ⟨q + 1, 0, none⟩ = some (.int .i64 u) ∧ w'.cell? ⟨q + 1, 1, none⟩ = some (.int .i64 v) ∧ RdS w (q) k a n t l b r x y u v w' :=
 ⟨h.2.2.2.1.2.1, h.2.2.2.1.2.2.1, h.2.2.2.1.2.2.2, h.2.1.1.2.1, h.2.1.1.2.2, h.2.2.1.1.2.1, h.2.2.1.1.2.2, h⟩
theorem RdA.out {w w' : World} {q : Nat} {k a n t l b r x y u v : Int} (h : w'.cell? ⟨w.heap.size, 0, none⟩ = some (.int .i64 k) ∧ w'.cell? ⟨w.heap.size, 1, none⟩ = some (.int .i64 a) ∧ w'.cell? ⟨w.heap.size, 2, none⟩ = some (.int .i64 n) ∧ w'.cell? ⟨q, 0, none⟩ = some (.int .i64 x) ∧ w'.cell? ⟨q, 1, none⟩ = some (.int .i64 y) ∧ w'.cell? ⟨q + 1, 0, none⟩ = some (.int .i64 u) ∧ w'.cell? ⟨q + 1, 1, none⟩ = some (.int .i64 v) ∧ RdS w (q) k a n t l b r x y u v w') : RdS w q k a n t l b r x y u v w' := h.2.2.2.2.2.2.2
theorem RdA.below {w w' w2 : World} {q : Nat} {k a n t l b r x y u v : Int} (h : w'.cell? ⟨w.heap.size, 0, none⟩ = some (.int .i64 k) ∧ w'.cell? ⟨w.heap.size, 1, none⟩ = some (.int .i64 a) ∧ w'.cell? ⟨w.heap.size, 2, none⟩ = some (.int .i64 n) ∧ w'.cell? ⟨q, 0, none⟩ = some (.int .i64 x) ∧ w'.cell? ⟨q, 1, none⟩ = some (.int .i64 y) ∧ w'.cell? ⟨q + 1, 0, none⟩ = some (.int .i64 u) ∧ w'.cell? ⟨q + 1, 1, none⟩ = some (.int .i64 v) ∧ RdS w (q) k a n t l b r x y u v w') (m : Below w'.heap.size w' w2) : w2.cell? ⟨w.heap.size, 0, none⟩ = some (.int .i64 k) ∧ w2.cell? ⟨w.heap.size, 1, none⟩ = some (.int .i64 a) ∧ w2.cell? ⟨w.heap.size, 2, none⟩ = some (.int .i64 n) ∧ w2.cell? ⟨q, 0, none⟩ = some (.int .i64 x) ∧ w2.cell? ⟨q, 1, none⟩ = some (.int .i64 y) ∧ w2.cell? ⟨q + 1, 0, none⟩ = some (.int .i64 u) ∧ w2.cell? ⟨q + 1, 1, none⟩ = some (.int .i64 v) ∧ RdS w (q) k a n t l b r x y u v w2 := RdA.of ((RdA.out h).below m)
theorem RdA.drew {w w' : World} {q : Nat} {k a n t l b r x y u v : Int} (h : w'.cell? ⟨w.heap.size, 0, none⟩ = some (.int .i64 k) ∧ w'.cell? ⟨w.heap.size, 1, none⟩ = some (.int .i64 a) ∧ w'.cell? ⟨w.heap.size, 2, none⟩ = some (.int .i64 n) ∧ w'.cell? ⟨q, 0, none⟩ = some (.int .i64 x) ∧ w'.cell? ⟨q, 1, none⟩ = some (.int .i64 y) ∧ w'.cell? ⟨q + 1, 0, none⟩ = some (.int .i64 u) ∧ w'.cell? ⟨q + 1, 1, none⟩ = some (.int .i64 v) ∧ RdS w (q) k a n t l b r x y u v w') : w'.drew.cell? ⟨w.heap.size, 0, none⟩ = some (.int .i64 k) ∧ w'.drew.cell? ⟨w.heap.size, 1, none⟩ = some (.int .i64 a) ∧ w'.drew.cell? ⟨w.heap.size, 2, none⟩ = some (.int .i64 n) ∧ w'.drew.cell? ⟨q, 0, none⟩ = some (.int .i64 x) ∧ w'.drew.cell? ⟨q, 1, none⟩ = some (.int .i64 y) ∧ w'.drew.cell? ⟨q + 1, 0, none⟩ = some (.int .i64 u) ∧ w'.drew.cell? ⟨q + 1, 1, none⟩ = some (.int .i64 v) ∧ RdS w (q) k a n t l b r x y u v w'.drew := RdA.below h ((Below.refl _ _).drew)
theorem RdA.alloc {w w' : World} {q : Nat} {k a n t l b r x y u v : Int} (h : w'.cell? ⟨w.heap.size, 0, none⟩ = some (.int .i64 k) ∧ w'.cell? ⟨w.heap.size, 1, none⟩ = some (.int .i64 a) ∧ w'.cell? ⟨w.heap.size, 2, none⟩ = some (.int .i64 n) ∧ w'.cell? ⟨q, 0, none⟩ = some (.int .i64 x) ∧ w'.cell? ⟨q, 1, none⟩ = some (.int .i64 y) ∧ w'.cell? ⟨q + 1, 0, none⟩ = some (.int .i64 u) ∧ w'.cell? ⟨q + 1, 1, none⟩ = some (.int .i64 v) ∧ RdS w (q) k a n t l b r x y u v w') (o : Obj) : (w'.alloc o).cell? ⟨w.heap.size, 0, none⟩ = some (.int .i64 k) ∧ (w'.alloc o).cell? ⟨w.heap.size, 1, none⟩ = some (.int .i64 a) ∧ (w'.alloc o).cell? ⟨w.heap.size, 2, none⟩ = some (.int .i64 n) ∧ (w'.alloc o).cell? ⟨q, 0, none⟩ = some (.int .i64 x) ∧ (w'.alloc o).cell? ⟨q, 1, none⟩ = some (.int .i64 y) ∧ (w'.alloc o).cell? ⟨q + 1, 0, none⟩ = some (.int .i64 u) ∧ (w'.alloc o).cell? ⟨q + 1, 1, none⟩ = some (.int .i64 v) ∧ RdS w (q) k a n t l b r x y u v (w'.alloc o) := RdA.below h ((Below.refl _ _).alloc (Nat.le_refl _) o)
theorem CC.drew {w' : World} {c : Nat} {F L : Int} (h : w'.cell? ⟨c, 0, none⟩ = some (.int .i64 F) ∧ w'.cell? ⟨c, 1, none⟩ = some (.int .i64 L)) : w'.drew.cell? ⟨c, 0, none⟩ = some (.int .i64 F) ∧ w'.drew.cell? ⟨c, 1, none⟩ = some (.int .i64 L) := h
theorem CC.set {w' : World} {c q i : Nat} {F L : Int} (hn : q ≠ c) (h : w'.cell? ⟨c, 0, none⟩ = some (.int .i64 F) ∧ w'.cell? ⟨c, 1, none⟩ = some (.int .i64 L)) (v : Value) : (w'.setCell ⟨q, i, none⟩ v).cell? ⟨c, 0, none⟩ = some (.int .i64 F) ∧ (w'.setCell ⟨q, i, none⟩ v).cell? ⟨c, 1, none⟩ = some (.int .i64 L) := by
 rw [World.cell?_setCell_other _ _ _ _ (fun e => hn (congrArg Addr.block e)), World.cell?_setCell_other _ _ _ _ (fun e => hn (congrArg Addr.block e))]; exact h
theorem rect_bad (k a n t l b r : Int) (hz : editB k a n = false ∨ rightB t l b r = false) (w : World) :
  Calls Tryz.prog 64 #[.agg #[.int .i64 k, .int .i64 a, .int .i64 n], .agg #[.int .i64 t, .int .i64 l, .int .i64 b, .int .i64 r]] w fun e w' => e = .returned (.tuple #[.agg #[.int .i64 (rectR k a n t l b r).1, .int .i64 (rectR k a n t l b r).2.1, .int .i64 (rectR k a n t l b r).2.2.1, .int .i64 (rectR k a n t l b r).2.2.2.1], .bool (rectR k a n t l b r).2.2.2.2.1, .int .i64 (rectR k a n t l b r).2.2.2.2.2]) ∧ Below w.heap.size w w' := by
 have HC : Hid (∀ W : World, Calls Tryz.prog 31 #[.agg #[.int .i64 k, .int .i64 a, .int .i64 n]] W fun e w' => e = .returned (.int .i64 (editR k a n)) ∧ Below W.heap.size W w') := fun W => edit_any k a n W
 have HP : Hid (∀ W : World, Calls Tryz.prog 50 #[.agg #[.int .i64 t, .int .i64 l, .int .i64 b, .int .i64 r]] W fun e w' => e = .returned (.int .i64 (checkR t l b r)) ∧ Below W.heap.size W w') := fun W => check_any t l b r W
 have HN : Hid (∀ W : World, Calls Tryz.prog 51 #[.agg #[.int .i64 t, .int .i64 l, .int .i64 b, .int .i64 r]] W fun e w' => e = .returned (.tuple #[.agg #[.int .i64 t, .int .i64 l], .agg #[.int .i64 b, .int .i64 r]]) ∧ Below W.heap.size W w') := fun W => corners_any t l b r W
 have H0 := hide (RcS.start w k a n t l b r 36 62 62)
 rw [rectR_no hz]
 cases h : editB k a n
 ·
  rw [editR_no h] at HC
  clear h hz
  go_enter Tryz.func64, Tryz.ntmps64
  go_wp2_with (first | (go_at_call 31; refine (HC.out _).mono ?_; rintro e w1 ⟨rfl, hb1⟩; have hs1 := H0.out.below hb1; have ⟨⟨z1, k0, k1, k2⟩, ⟨z2, j0, j1, j2, j3⟩, ⟨⟨z3, i0, i1, i2, i3⟩, g0, g1, g2, g3⟩, hbz⟩ := hs1; have HS1 := hide hs1; clear hs1))
  refine bodyPost_ret (v := .tuple #[.agg #[.int .i64 0, .int .i64 0, .int .i64 0, .int .i64 0], .bool false, .int .i64 2]) (by simp [results, Tryz.results64, go_sem, *]) rfl ⟨rfl, ?_⟩
  exact bl
 ·
  rw [editR_yes h] at HC
  have hp : rightB t l b r = false := hz.resolve_left (by rw [h]; decide)
  rw [checkR_no hp] at HP
  clear h hp hz
  go_enter Tryz.func64, Tryz.ntmps64
  go_wp2_with (first | (go_at_call 31; refine (HC.out _).mono ?_; rintro e w1 ⟨rfl, hb1⟩; have hs1 := H0.out.below hb1; have ⟨⟨z1, k0, k1, k2⟩, ⟨z2, j0, j1, j2, j3⟩, ⟨⟨z3, i0, i1, i2, i3⟩, g0, g1, g2, g3⟩, hbz⟩ := hs1; have HS1 := hide hs1; clear hs1) | (go_at_call 50; refine (HP.out _).mono ?_; rintro e w2 ⟨rfl, hb2⟩; have hs2 := HS1.out.below hb2; clear z1 k0 k1 k2 z2 j0 j1 j2 j3 z3 i0 i1 i2 i3 g0 g1 g2 g3 hbz; have ⟨⟨z1, k0, k1, k2⟩, ⟨z2, j0, j1, j2, j3⟩, ⟨⟨z3, i0, i1, i2, i3⟩, g0, g1, g2, g3⟩, hbz⟩ := hs2; have HS2 := hide hs2; clear hs2))
  refine bodyPost_ret (v := .tuple #[.agg #[.int .i64 0, .int .i64 0, .int .i64 0, .int .i64 0], .bool false, .int .i64 2]) (by simp [results, Tryz.results64, go_sem, *]) rfl ⟨rfl, ?_⟩
  exact bl
end
section
open Go.RowKit
theorem rect_ok1 {k a n t l b r : Int} (h : editB k a n = true) (hp : rightB t l b r = true) (hr : rowsB k = false) (hq : leftF k a n l ≤ leftL k a n r) (w : World) :
  Calls Tryz.prog 64 #[.agg #[.int .i64 k, .int .i64 a, .int .i64 n], .agg #[.int .i64 t, .int .i64 l, .int .i64 b, .int .i64 r]] w fun e w' => e = .returned (.tuple #[.agg #[.int .i64 (rectR k a n t l b r).1, .int .i64 (rectR k a n t l b r).2.1, .int .i64 (rectR k a n t l b r).2.2.1, .int .i64 (rectR k a n t l b r).2.2.2.1], .bool (rectR k a n t l b r).2.2.2.2.1, .int .i64 (rectR k a n t l b r).2.2.2.2.2]) ∧ Below w.heap.size w w' := by
 have HC : Hid (∀ W : World, Calls Tryz.prog 31 #[.agg #[.int .i64 k, .int .i64 a, .int .i64 n]] W fun e w' => e = .returned (.int .i64 (editR k a n)) ∧ Below W.heap.size W w') := fun W => edit_any k a n W
 have HP : Hid (∀ W : World, Calls Tryz.prog 50 #[.agg #[.int .i64 t, .int .i64 l, .int .i64 b, .int .i64 r]] W fun e w' => e = .returned (.int .i64 (checkR t l b r)) ∧ Below W.heap.size W w') := fun W => check_any t l b r W
 have HN : Hid (∀ W : World, Calls Tryz.prog 51 #[.agg #[.int .i64 t, .int .i64 l, .int .i64 b, .int .i64 r]] W fun e w' => e = .returned (.tuple #[.agg #[.int .i64 t, .int .i64 l], .agg #[.int .i64 b, .int .i64 r]]) ∧ Below W.heap.size W w') := fun W => corners_any t l b r W
 have H0 := hide (RcS.start w k a n t l b r 36 62 62)
 rw [editR_yes h] at HC
 rw [checkR_yes hp] at HP
 have hg := rightB_iff.1 hp
 have HL : Hid (∀ W : World, Calls Tryz.prog 42 #[.agg #[.int .i64 k, .int .i64 a, .int .i64 n]] W fun e w' => e = .returned (.agg #[.int .i64 (lostF k a n), .int .i64 (lostL k a n)]) ∧ Below W.heap.size W w') := fun W => lost_any h W
 rw [rectR_col h hp hr]
 have ht : topE k = 16384 := top_cols hr
 have HA : Hid (∀ (q : Nat) (W : World), Calls Tryz.prog 41 #[.int .i64 k, .pointer (some ⟨q, 0, none⟩)] W fun e w' => e = .returned (.pointer (some ⟨q, 1, none⟩)) ∧ w' = W) := fun q W => by have := along_any k q W; rw [hr] at this; exact this
 have HF : Hid (∀ W : World, Calls Tryz.prog 93 #[.agg #[.int .i64 l, .int .i64 r], .agg #[.int .i64 (lostF k a n), .int .i64 (lostL k a n)]] W fun e w' => e = .returned (.agg #[.int .i64 (ordF (leftF k a n l) (leftL k a n r)), .int .i64 (ordL (leftF k a n l) (leftL k a n r))]) ∧ Below W.heap.size W w') := fun W => left_any h l r W
 rw [linesR_yes hq]
 obtain ⟨v1, v2, v3, v4, v5⟩ := lines_ok h (by omega) (by omega) hq
 have hq' : ¬ leftF k a n l > leftL k a n r := by omega
 rw [show ordF (leftF k a n l) (leftL k a n r) = leftF k a n l by simp [ordF, hq'], show ordL (leftF k a n l) (leftL k a n r) = leftL k a n r by simp [ordL, hq']] at HF
 have g := editB_iff.1 h
 have hR : rightB t (carryR k a n (leftF k a n l)) b (carryR k a n (leftL k a n r)) = true := rightB_iff.2 (by omega)
 have HK1 : Hid (∀ (q : Nat) (W : World), RdS w q k a n t l b r t (leftF k a n l) b (leftL k a n r) W → Calls Tryz.prog 45 #[.agg #[.int .i64 k, .int .i64 a, .int .i64 n], .pointer (some ⟨q, 1, none⟩)] W fun e w' => e = .returned (.tuple #[]) ∧ RdS w q k a n t l b r t (carryR k a n (leftF k a n l)) b (leftL k a n r) w') := fun q W hs =>
  (carry_any (by omega) _ _ W hs.2.1.1.1 hs.2.1.1.2.2 hs.2.1.2.2).mono fun e w' ⟨h1, h2⟩ => ⟨h1, hs.a1 h2⟩
 have HK2 : Hid (∀ (q : Nat) (W : World), RdS w q k a n t l b r t (carryR k a n (leftF k a n l)) b (leftL k a n r) W → Calls Tryz.prog 45 #[.agg #[.int .i64 k, .int .i64 a, .int .i64 n], .pointer (some ⟨q + 1, 1, none⟩)] W fun e w' => e = .returned (.tuple #[]) ∧ RdS w q k a n t l b r t (carryR k a n (leftF k a n l)) b (carryR k a n (leftL k a n r)) w') := fun q W hs =>
  (carry_any (by omega) _ _ W hs.2.2.1.1.1 hs.2.2.1.1.2.2 hs.2.2.1.2.2).mono fun e w' ⟨h1, h2⟩ => ⟨h1, hs.b1 h2⟩
 generalize carryR k a n (leftF k a n l) = X at *
 generalize carryR k a n (leftL k a n r) = Y at *
 generalize leftF k a n l = F at *
 generalize leftL k a n r = L at *
 have HOf : Hid (∀ W : World, Calls Tryz.prog 40 #[.agg #[.int .i64 t, .int .i64 X], .agg #[.int .i64 b, .int .i64 Y]] W fun e w' => e = .returned (.tuple #[.agg #[.int .i64 t, .int .i64 X, .int .i64 b, .int .i64 Y], .int .i64 0]) ∧ Below W.heap.size W w') := fun W => by have := of_any t X b Y W; rw [ofR_right hR] at this; exact this
 have eF : (F == 0) = false := by rw [beq_eq_false_iff_ne]; omega
 have eL : (L == 0) = false := by rw [beq_eq_false_iff_ne]; omega
 generalize lostF k a n = A at *
 generalize lostL k a n = B at *
 clear h hp hr ht hq hq' hg g hR v1 v2 v3 v4 v5
 go_enter Tryz.func64, Tryz.ntmps64
 go_wp2_with (first | (go_at_call 31; refine (HC.out _).mono ?_; rintro e w1 ⟨rfl, hb1⟩; have hs1 := H0.out.below hb1; have ⟨⟨z1, k0, k1, k2⟩, ⟨z2, j0, j1, j2, j3⟩, ⟨⟨z3, i0, i1, i2, i3⟩, g0, g1, g2, g3⟩, hbz⟩ := hs1; have HS1 := hide hs1; clear hs1) | (go_at_call 50; refine (HP.out _).mono ?_; rintro e w2 ⟨rfl, hb2⟩; have hs2 := HS1.out.below hb2; clear z1 k0 k1 k2 z2 j0 j1 j2 j3 z3 i0 i1 i2 i3 g0 g1 g2 g3 hbz; have ⟨⟨z1, k0, k1, k2⟩, ⟨z2, j0, j1, j2, j3⟩, ⟨⟨z3, i0, i1, i2, i3⟩, g0, g1, g2, g3⟩, hbz⟩ := hs2; have HS2 := hide hs2; clear hs2) | (go_at_call 51; refine (HN.out _).mono ?_; rintro e w3 ⟨rfl, hb3⟩; have hs3 := RdS.start (HS2.out.below hb3) t l b r 28 28; clear z1 k0 k1 k2 z2 j0 j1 j2 j3 z3 i0 i1 i2 i3 g0 g1 g2 g3 hbz; have ⟨⟨z1, k0, k1, k2⟩, ⟨z2, j0, j1, j2, j3⟩, ⟨⟨z3, i0, i1, i2, i3⟩, g0, g1, g2, g3⟩, hbz⟩ := HS2.out.below hb3; have HS3 := hide hs3; clear hs3))
 generalize ((w3.alloc (.cells #[.int .i64 t, .int .i64 l] 28)).alloc (.cells #[.int .i64 b, .int .i64 r] 28)) = w4 at *
 clear z1 k0 k1 k2 z2 j0 j1 j2 j3 z3 i0 i1 i2 i3 g0 g1 g2 g3 hbz
 have hs8 := RdA.of HS3.out
 go_region_held3 (fun w' => w'.cell? ⟨w.heap.size, 0, none⟩ = some (.int .i64 k) ∧ w'.cell? ⟨w.heap.size, 1, none⟩ = some (.int .i64 a) ∧ w'.cell? ⟨w.heap.size, 2, none⟩ = some (.int .i64 n) ∧ w'.cell? ⟨w3.heap.size, 0, none⟩ = some (.int .i64 t) ∧ w'.cell? ⟨w3.heap.size, 1, none⟩ = some (.int .i64 l) ∧ w'.cell? ⟨w3.heap.size + 1, 0, none⟩ = some (.int .i64 b) ∧ w'.cell? ⟨w3.heap.size + 1, 1, none⟩ = some (.int .i64 r) ∧ RdS w (w3.heap.size) k a n t l b r t l b r w') (first | exact hs8 | assumption | exact RdA.drew (by assumption) | exact RdA.alloc (by assumption) _) ((go_at_call 41; refine (HA.out _ _).mono ?_; rintro e wz ⟨rfl, hz⟩; subst wz))
 have hs9 := RdA.out (w' := w4.drew) (by assumption)
 clear hs8 HS3
 generalize w4.drew = w5 at *
 go_wp2_with fail
 have HS5 : Hid (∀ w', Below w5.heap.size w5 w' → w'.cell? ⟨w.heap.size, 0, none⟩ = some (.int .i64 k) ∧ w'.cell? ⟨w.heap.size, 1, none⟩ = some (.int .i64 a) ∧ w'.cell? ⟨w.heap.size, 2, none⟩ = some (.int .i64 n) ∧ w'.cell? ⟨w3.heap.size, 1, none⟩ = some (.int .i64 l) ∧ w'.cell? ⟨w3.heap.size + 1, 1, none⟩ = some (.int .i64 r) ∧ Below w5.heap.size w5 w') := fun w' hb => ⟨(hs9.below hb).2.2.2.1.2.1, (hs9.below hb).2.2.2.1.2.2.1, (hs9.below hb).2.2.2.1.2.2.2, (hs9.below hb).2.1.1.2.2, (hs9.below hb).2.2.1.1.2.2, hb⟩
 have hs5 := HS5.out w5 (Below.refl _ _)
 have zq5 := hs9.2.2.1.1.1
 apply wp_cutT (F := fun c w' => RdS w w3.heap.size k a n t l b r t l b r w' ∧ Has2 w' c F L ∧ w3.heap.size + 1 < c)
 case hr =>
  go_region_held3 (fun w' => w'.cell? ⟨w.heap.size, 0, none⟩ = some (.int .i64 k) ∧ w'.cell? ⟨w.heap.size, 1, none⟩ = some (.int .i64 a) ∧ w'.cell? ⟨w.heap.size, 2, none⟩ = some (.int .i64 n) ∧ w'.cell? ⟨w3.heap.size, 1, none⟩ = some (.int .i64 l) ∧ w'.cell? ⟨w3.heap.size + 1, 1, none⟩ = some (.int .i64 r) ∧ Below w5.heap.size w5 w') (first | assumption | (refine HS5.out _ ?_; repeat' (first | with_reducible exact And.right (And.right (And.right (And.right (And.right (by assumption))))) | with_reducible refine Below.setCell ?_ ?_ _ | with_reducible refine Below.alloc ?_ ?_ _ | with_reducible refine Below.drew ?_ | exact Nat.le_refl _ | assumption | exact Below.size (And.right (And.right (And.right (And.right (And.right (by assumption)))))) | (simp; omega)))) (first | (go_at_call 42; refine (HL.out _).mono ?_; rintro e wa ⟨rfl, hba⟩; have hsa := HS5.out wa (Below.trans (And.right (And.right (And.right (And.right (And.right (by assumption)))))) (hba.mono (Below.size (And.right (And.right (And.right (And.right (And.right (by assumption))))))))); have sza := Below.size (And.right (And.right (And.right (And.right (And.right (hsa)))))); have sza' := Below.size hba; (try simp at sza'); have N1 : Has2 wa w5.heap.size 0 0 := Has2.below (by (first | exact Has2.new w5 0 0 _ | exact Has2.new w5.drew 0 0 _)) hba; obtain ⟨⟨Nl, Nx, Ny⟩, Nf, Ng⟩ := id N1) | (go_at_call 42; refine (HL.out _).mono ?_; rintro e wa ⟨rfl, hba⟩; have hsa := HS5.out wa (Below.trans (And.right (And.right (And.right (And.right (And.right (by assumption)))))) (hba.mono (Below.size (And.right (And.right (And.right (And.right (And.right (by assumption))))))))); have sza := Below.size (And.right (And.right (And.right (And.right (And.right (hsa)))))); have sza' := Below.size hba; (try simp at sza')) | (go_at_call 93; refine (HF.out _).mono ?_; rintro e wb ⟨rfl, hbb⟩; have hsb := HS5.out wb (Below.trans (And.right (And.right (And.right (And.right (And.right (by assumption)))))) (hbb.mono (Below.size (And.right (And.right (And.right (And.right (And.right (by assumption))))))))); have szb := Below.size (And.right (And.right (And.right (And.right (And.right (hsb)))))); have szb' := Below.size hbb; (try simp at szb'); have N2 : Has2 wb w5.heap.size 0 0 := Has2.below N1 hbb; obtain ⟨⟨Ml, Mx, My⟩, Mf, Mg⟩ := id N2) | (go_at_call 93; refine (HF.out _).mono ?_; rintro e wb ⟨rfl, hbb⟩; have hsb := HS5.out wb (Below.trans (And.right (And.right (And.right (And.right (And.right (by assumption)))))) (hbb.mono (Below.size (And.right (And.right (And.right (And.right (And.right (by assumption))))))))); have szb := Below.size (And.right (And.right (And.right (And.right (And.right (hsb)))))); have szb' := Below.size hbb; (try simp at szb'); have N2 : Has2 wb wa.heap.size 0 0 := Has2.below (Has2.new wa 0 0 _) hbb; obtain ⟨⟨Ml, Mx, My⟩, Mf, Mg⟩ := id N2) | (go_at_call 93; refine (HF.out _).mono ?_; rintro e wb ⟨rfl, hbb⟩; have hsb := HS5.out wb (Below.trans (And.right (And.right (And.right (And.right (And.right (by assumption)))))) (hbb.mono (Below.size (And.right (And.right (And.right (And.right (And.right (by assumption))))))))); have szb := Below.size (And.right (And.right (And.right (And.right (And.right (hsb)))))); have szb' := Below.size hbb; (try simp at szb')))
  all_goals
   first | (refine ⟨wb.heap.size, ?_, hs9.below (And.right (And.right (And.right (And.right (And.right (by assumption)))))), Has2.new wb F L _, by omega⟩; generalize wb.heap.size = cc; rfl) | (refine ⟨w5.heap.size, ?_, hs9.below (And.right (And.right (And.right (And.right (And.right (by assumption)))))), N2.set F L, by omega⟩; generalize w5.heap.size = cc; rfl) | (refine ⟨wa.heap.size, ?_, hs9.below (And.right (And.right (And.right (And.right (And.right (by assumption)))))), N2.set F L, by omega⟩; generalize wa.heap.size = cc; rfl)
 intro c w6 ⟨hs6, hN6, hc6⟩
 clear HS5 hs5 zq5 hs9
 have ⟨zq, ⟨⟨z4, m0, m1⟩, p0, p1⟩, ⟨⟨z5, m2, m3⟩, p2, p3⟩, ⟨⟨z1, k0, k1, k2⟩, ⟨z2, j0, j1, j2, j3⟩, ⟨⟨z3, i0, i1, i2, i3⟩, g0, g1, g2, g3⟩, hbz⟩⟩ := hs6
 have ⟨⟨zc, c0, c1⟩, _, _⟩ := hN6
 have HS6 := hide hs6
 have HN6 := hide hN6
 clear hs6 hN6
 go_wp2_with fail
 have hn1 : w3.heap.size ≠ c := by omega
 have hn2 : w3.heap.size + 1 ≠ c := by omega
 have hcc : w6.cell? ⟨c, 0, none⟩ = some (.int .i64 F) ∧ w6.cell? ⟨c, 1, none⟩ = some (.int .i64 L) := ⟨c0, c1⟩
 go_region_held3 (fun w' => w'.cell? ⟨c, 0, none⟩ = some (.int .i64 F) ∧ w'.cell? ⟨c, 1, none⟩ = some (.int .i64 L)) (first | assumption | exact CC.drew (by assumption) | exact CC.set hn1 (by assumption) _ | exact CC.set hn2 (by assumption) _) (fail)
 have hs7 : RdS w w3.heap.size k a n t l b r t F b L (((w6.setCell ⟨w3.heap.size, 1, none⟩ (.int .i64 F)).setCell ⟨w3.heap.size + 1, 1, none⟩ (.int .i64 L)).drew) := by
  have s1 := HS6.out.a1 (Put.high HS6.out.2.1.1.2.2 HS6.out.2.1.1.1 (Below.refl _ _) (.int .i64 F))
  exact (s1.b1 (Put.high s1.2.2.1.1.2.2 s1.2.2.1.1.1 (Below.refl _ _) (.int .i64 L))).below ((Below.refl _ _).drew)
 generalize (((w6.setCell ⟨w3.heap.size, 1, none⟩ (.int .i64 F)).setCell ⟨w3.heap.size + 1, 1, none⟩ (.int .i64 L)).drew) = w7 at *
 clear z4 m0 m1 p0 p1 z5 m2 m3 p2 p3 zq z1 k0 k1 k2 z2 j0 j1 j2 j3 z3 i0 i1 i2 i3 g0 g1 g2 g3 hbz zc c0 c1 hcc hn1 hn2 HN6 HS6
 have ⟨zq, ⟨⟨z4, m0, m1⟩, p0, p1⟩, ⟨⟨z5, m2, m3⟩, p2, p3⟩, ⟨⟨z1, k0, k1, k2⟩, ⟨z2, j0, j1, j2, j3⟩, ⟨⟨z3, i0, i1, i2, i3⟩, g0, g1, g2, g3⟩, hbz⟩⟩ := hs7
 have HS7 := hide hs7
 have HQ1 := hide (HK1.out w3.heap.size)
 have HQ2 := hide (HK2.out w3.heap.size)
 clear hs7 HK1 HK2
 go_wp2_with fail
 refine (HQ1.out _ HS7.out).mono ?_
 rintro e w8 ⟨rfl, hs8⟩
 clear z4 m0 m1 p0 p1 z5 m2 m3 p2 p3 zq z1 k0 k1 k2 z2 j0 j1 j2 j3 z3 i0 i1 i2 i3 g0 g1 g2 g3 hbz HQ1 HS7
 have ⟨zq, ⟨⟨z4, m0, m1⟩, p0, p1⟩, ⟨⟨z5, m2, m3⟩, p2, p3⟩, ⟨⟨z1, k0, k1, k2⟩, ⟨z2, j0, j1, j2, j3⟩, ⟨⟨z3, i0, i1, i2, i3⟩, g0, g1, g2, g3⟩, hbz⟩⟩ := hs8
 have HS8 := hide hs8
 clear hs8
 go_wp2_with fail
 refine (HQ2.out _ HS8.out).mono ?_
 rintro e w9 ⟨rfl, hs9⟩
 clear z4 m0 m1 p0 p1 z5 m2 m3 p2 p3 zq z1 k0 k1 k2 z2 j0 j1 j2 j3 z3 i0 i1 i2 i3 g0 g1 g2 g3 hbz HQ2 HS8
 have ⟨zq, ⟨⟨z4, m0, m1⟩, p0, p1⟩, ⟨⟨z5, m2, m3⟩, p2, p3⟩, ⟨⟨z1, k0, k1, k2⟩, ⟨z2, j0, j1, j2, j3⟩, ⟨⟨z3, i0, i1, i2, i3⟩, g0, g1, g2, g3⟩, hbz⟩⟩ := hs9
 have HS9 := hide hs9
 clear hs9
 go_wp2_with (go_at_call 40; refine (HOf.out _).mono ?_; rintro e wa ⟨rfl, hba⟩; have hsa := HS9.out.below hba; clear z4 m0 m1 p0 p1 z5 m2 m3 p2 p3 zq z1 k0 k1 k2 z2 j0 j1 j2 j3 z3 i0 i1 i2 i3 g0 g1 g2 g3 hbz; have ⟨zq, ⟨⟨z4, m0, m1⟩, p0, p1⟩, ⟨⟨z5, m2, m3⟩, p2, p3⟩, ⟨⟨z1, k0, k1, k2⟩, ⟨z2, j0, j1, j2, j3⟩, ⟨⟨z3, i0, i1, i2, i3⟩, g0, g1, g2, g3⟩, hbz⟩⟩ := hsa)
 refine bodyPost_ret (v := .tuple #[.agg #[.int .i64 t, .int .i64 X, .int .i64 b, .int .i64 Y], .bool true, .int .i64 0]) (by simp [results, Tryz.results64, go_sem, *]) rfl ⟨rfl, ?_⟩
 exact bl
end
section
open Go.RowKit
theorem rect_ok0 {k a n t l b r : Int} (h : editB k a n = true) (hp : rightB t l b r = true) (hr : rowsB k = true) (hq : leftF k a n t ≤ leftL k a n b) (w : World) :
  Calls Tryz.prog 64 #[.agg #[.int .i64 k, .int .i64 a, .int .i64 n], .agg #[.int .i64 t, .int .i64 l, .int .i64 b, .int .i64 r]] w fun e w' => e = .returned (.tuple #[.agg #[.int .i64 (rectR k a n t l b r).1, .int .i64 (rectR k a n t l b r).2.1, .int .i64 (rectR k a n t l b r).2.2.1, .int .i64 (rectR k a n t l b r).2.2.2.1], .bool (rectR k a n t l b r).2.2.2.2.1, .int .i64 (rectR k a n t l b r).2.2.2.2.2]) ∧ Below w.heap.size w w' := by
 have HC : Hid (∀ W : World, Calls Tryz.prog 31 #[.agg #[.int .i64 k, .int .i64 a, .int .i64 n]] W fun e w' => e = .returned (.int .i64 (editR k a n)) ∧ Below W.heap.size W w') := fun W => edit_any k a n W
 have HP : Hid (∀ W : World, Calls Tryz.prog 50 #[.agg #[.int .i64 t, .int .i64 l, .int .i64 b, .int .i64 r]] W fun e w' => e = .returned (.int .i64 (checkR t l b r)) ∧ Below W.heap.size W w') := fun W => check_any t l b r W
 have HN : Hid (∀ W : World, Calls Tryz.prog 51 #[.agg #[.int .i64 t, .int .i64 l, .int .i64 b, .int .i64 r]] W fun e w' => e = .returned (.tuple #[.agg #[.int .i64 t, .int .i64 l], .agg #[.int .i64 b, .int .i64 r]]) ∧ Below W.heap.size W w') := fun W => corners_any t l b r W
 have H0 := hide (RcS.start w k a n t l b r 36 62 62)
 rw [editR_yes h] at HC
 rw [checkR_yes hp] at HP
 have hg := rightB_iff.1 hp
 have HL : Hid (∀ W : World, Calls Tryz.prog 42 #[.agg #[.int .i64 k, .int .i64 a, .int .i64 n]] W fun e w' => e = .returned (.agg #[.int .i64 (lostF k a n), .int .i64 (lostL k a n)]) ∧ Below W.heap.size W w') := fun W => lost_any h W
 rw [rectR_row h hp hr]
 have ht : topE k = 1048576 := top_rows hr
 have HA : Hid (∀ (q : Nat) (W : World), Calls Tryz.prog 41 #[.int .i64 k, .pointer (some ⟨q, 0, none⟩)] W fun e w' => e = .returned (.pointer (some ⟨q, 0, none⟩)) ∧ w' = W) := fun q W => by have := along_any k q W; rw [hr] at this; exact this
 have HF : Hid (∀ W : World, Calls Tryz.prog 93 #[.agg #[.int .i64 t, .int .i64 b], .agg #[.int .i64 (lostF k a n), .int .i64 (lostL k a n)]] W fun e w' => e = .returned (.agg #[.int .i64 (ordF (leftF k a n t) (leftL k a n b)), .int .i64 (ordL (leftF k a n t) (leftL k a n b))]) ∧ Below W.heap.size W w') := fun W => left_any h t b W
 rw [linesR_yes hq]
 obtain ⟨v1, v2, v3, v4, v5⟩ := lines_ok h (by omega) (by omega) hq
 have hq' : ¬ leftF k a n t > leftL k a n b := by omega
 rw [show ordF (leftF k a n t) (leftL k a n b) = leftF k a n t by simp [ordF, hq'], show ordL (leftF k a n t) (leftL k a n b) = leftL k a n b by simp [ordL, hq']] at HF
 have g := editB_iff.1 h
 have hR : rightB (carryR k a n (leftF k a n t)) l (carryR k a n (leftL k a n b)) r = true := rightB_iff.2 (by omega)
 have HK1 : Hid (∀ (q : Nat) (W : World), RdS w q k a n t l b r (leftF k a n t) l (leftL k a n b) r W → Calls Tryz.prog 45 #[.agg #[.int .i64 k, .int .i64 a, .int .i64 n], .pointer (some ⟨q, 0, none⟩)] W fun e w' => e = .returned (.tuple #[]) ∧ RdS w q k a n t l b r (carryR k a n (leftF k a n t)) l (leftL k a n b) r w') := fun q W hs =>
  (carry_any (by omega) _ _ W hs.2.1.1.1 hs.2.1.1.2.1 hs.2.1.2.1).mono fun e w' ⟨h1, h2⟩ => ⟨h1, hs.a0 h2⟩
 have HK2 : Hid (∀ (q : Nat) (W : World), RdS w q k a n t l b r (carryR k a n (leftF k a n t)) l (leftL k a n b) r W → Calls Tryz.prog 45 #[.agg #[.int .i64 k, .int .i64 a, .int .i64 n], .pointer (some ⟨q + 1, 0, none⟩)] W fun e w' => e = .returned (.tuple #[]) ∧ RdS w q k a n t l b r (carryR k a n (leftF k a n t)) l (carryR k a n (leftL k a n b)) r w') := fun q W hs =>
  (carry_any (by omega) _ _ W hs.2.2.1.1.1 hs.2.2.1.1.2.1 hs.2.2.1.2.1).mono fun e w' ⟨h1, h2⟩ => ⟨h1, hs.b0 h2⟩
 generalize carryR k a n (leftF k a n t) = X at *
 generalize carryR k a n (leftL k a n b) = Y at *
 generalize leftF k a n t = F at *
 generalize leftL k a n b = L at *
 have HOf : Hid (∀ W : World, Calls Tryz.prog 40 #[.agg #[.int .i64 X, .int .i64 l], .agg #[.int .i64 Y, .int .i64 r]] W fun e w' => e = .returned (.tuple #[.agg #[.int .i64 X, .int .i64 l, .int .i64 Y, .int .i64 r], .int .i64 0]) ∧ Below W.heap.size W w') := fun W => by have := of_any X l Y r W; rw [ofR_right hR] at this; exact this
 have eF : (F == 0) = false := by rw [beq_eq_false_iff_ne]; omega
 have eL : (L == 0) = false := by rw [beq_eq_false_iff_ne]; omega
 generalize lostF k a n = A at *
 generalize lostL k a n = B at *
 clear h hp hr ht hq hq' hg g hR v1 v2 v3 v4 v5
 go_enter Tryz.func64, Tryz.ntmps64
 go_wp2_with (first | (go_at_call 31; refine (HC.out _).mono ?_; rintro e w1 ⟨rfl, hb1⟩; have hs1 := H0.out.below hb1; have ⟨⟨z1, k0, k1, k2⟩, ⟨z2, j0, j1, j2, j3⟩, ⟨⟨z3, i0, i1, i2, i3⟩, g0, g1, g2, g3⟩, hbz⟩ := hs1; have HS1 := hide hs1; clear hs1) | (go_at_call 50; refine (HP.out _).mono ?_; rintro e w2 ⟨rfl, hb2⟩; have hs2 := HS1.out.below hb2; clear z1 k0 k1 k2 z2 j0 j1 j2 j3 z3 i0 i1 i2 i3 g0 g1 g2 g3 hbz; have ⟨⟨z1, k0, k1, k2⟩, ⟨z2, j0, j1, j2, j3⟩, ⟨⟨z3, i0, i1, i2, i3⟩, g0, g1, g2, g3⟩, hbz⟩ := hs2; have HS2 := hide hs2; clear hs2) | (go_at_call 51; refine (HN.out _).mono ?_; rintro e w3 ⟨rfl, hb3⟩; have hs3 := RdS.start (HS2.out.below hb3) t l b r 28 28; clear z1 k0 k1 k2 z2 j0 j1 j2 j3 z3 i0 i1 i2 i3 g0 g1 g2 g3 hbz; have ⟨⟨z1, k0, k1, k2⟩, ⟨z2, j0, j1, j2, j3⟩, ⟨⟨z3, i0, i1, i2, i3⟩, g0, g1, g2, g3⟩, hbz⟩ := HS2.out.below hb3; have HS3 := hide hs3; clear hs3))
 generalize ((w3.alloc (.cells #[.int .i64 t, .int .i64 l] 28)).alloc (.cells #[.int .i64 b, .int .i64 r] 28)) = w4 at *
 clear z1 k0 k1 k2 z2 j0 j1 j2 j3 z3 i0 i1 i2 i3 g0 g1 g2 g3 hbz
 have hs8 := RdA.of HS3.out
 go_region_held3 (fun w' => w'.cell? ⟨w.heap.size, 0, none⟩ = some (.int .i64 k) ∧ w'.cell? ⟨w.heap.size, 1, none⟩ = some (.int .i64 a) ∧ w'.cell? ⟨w.heap.size, 2, none⟩ = some (.int .i64 n) ∧ w'.cell? ⟨w3.heap.size, 0, none⟩ = some (.int .i64 t) ∧ w'.cell? ⟨w3.heap.size, 1, none⟩ = some (.int .i64 l) ∧ w'.cell? ⟨w3.heap.size + 1, 0, none⟩ = some (.int .i64 b) ∧ w'.cell? ⟨w3.heap.size + 1, 1, none⟩ = some (.int .i64 r) ∧ RdS w (w3.heap.size) k a n t l b r t l b r w') (first | exact hs8 | assumption | exact RdA.drew (by assumption) | exact RdA.alloc (by assumption) _) ((go_at_call 41; refine (HA.out _ _).mono ?_; rintro e wz ⟨rfl, hz⟩; subst wz))
 have hs9 := RdA.out (w' := w4.drew) (by assumption)
 clear hs8 HS3
 generalize w4.drew = w5 at *
 go_wp2_with fail
 have HS5 : Hid (∀ w', Below w5.heap.size w5 w' → w'.cell? ⟨w.heap.size, 0, none⟩ = some (.int .i64 k) ∧ w'.cell? ⟨w.heap.size, 1, none⟩ = some (.int .i64 a) ∧ w'.cell? ⟨w.heap.size, 2, none⟩ = some (.int .i64 n) ∧ w'.cell? ⟨w3.heap.size, 0, none⟩ = some (.int .i64 t) ∧ w'.cell? ⟨w3.heap.size + 1, 0, none⟩ = some (.int .i64 b) ∧ Below w5.heap.size w5 w') := fun w' hb => ⟨(hs9.below hb).2.2.2.1.2.1, (hs9.below hb).2.2.2.1.2.2.1, (hs9.below hb).2.2.2.1.2.2.2, (hs9.below hb).2.1.1.2.1, (hs9.below hb).2.2.1.1.2.1, hb⟩
 have hs5 := HS5.out w5 (Below.refl _ _)
 have zq5 := hs9.2.2.1.1.1
 apply wp_cutT (F := fun c w' => RdS w w3.heap.size k a n t l b r t l b r w' ∧ Has2 w' c F L ∧ w3.heap.size + 1 < c)
 case hr =>
  go_region_held3 (fun w' => w'.cell? ⟨w.heap.size, 0, none⟩ = some (.int .i64 k) ∧ w'.cell? ⟨w.heap.size, 1, none⟩ = some (.int .i64 a) ∧ w'.cell? ⟨w.heap.size, 2, none⟩ = some (.int .i64 n) ∧ w'.cell? ⟨w3.heap.size, 0, none⟩ = some (.int .i64 t) ∧ w'.cell? ⟨w3.heap.size + 1, 0, none⟩ = some (.int .i64 b) ∧ Below w5.heap.size w5 w') (first | assumption | (refine HS5.out _ ?_; repeat' (first | with_reducible exact And.right (And.right (And.right (And.right (And.right (by assumption))))) | with_reducible refine Below.setCell ?_ ?_ _ | with_reducible refine Below.alloc ?_ ?_ _ | with_reducible refine Below.drew ?_ | exact Nat.le_refl _ | assumption | exact Below.size (And.right (And.right (And.right (And.right (And.right (by assumption)))))) | (simp; omega)))) (first | (go_at_call 42; refine (HL.out _).mono ?_; rintro e wa ⟨rfl, hba⟩; have hsa := HS5.out wa (Below.trans (And.right (And.right (And.right (And.right (And.right (by assumption)))))) (hba.mono (Below.size (And.right (And.right (And.right (And.right (And.right (by assumption))))))))); have sza := Below.size (And.right (And.right (And.right (And.right (And.right (hsa)))))); have sza' := Below.size hba; (try simp at sza'); have N1 : Has2 wa w5.heap.size 0 0 := Has2.below (by (first | exact Has2.new w5 0 0 _ | exact Has2.new w5.drew 0 0 _)) hba; obtain ⟨⟨Nl, Nx, Ny⟩, Nf, Ng⟩ := id N1) | (go_at_call 42; refine (HL.out _).mono ?_; rintro e wa ⟨rfl, hba⟩; have hsa := HS5.out wa (Below.trans (And.right (And.right (And.right (And.right (And.right (by assumption)))))) (hba.mono (Below.size (And.right (And.right (And.right (And.right (And.right (by assumption))))))))); have sza := Below.size (And.right (And.right (And.right (And.right (And.right (hsa)))))); have sza' := Below.size hba; (try simp at sza')) | (go_at_call 93; refine (HF.out _).mono ?_; rintro e wb ⟨rfl, hbb⟩; have hsb := HS5.out wb (Below.trans (And.right (And.right (And.right (And.right (And.right (by assumption)))))) (hbb.mono (Below.size (And.right (And.right (And.right (And.right (And.right (by assumption))))))))); have szb := Below.size (And.right (And.right (And.right (And.right (And.right (hsb)))))); have szb' := Below.size hbb; (try simp at szb'); have N2 : Has2 wb w5.heap.size 0 0 := Has2.below N1 hbb; obtain ⟨⟨Ml, Mx, My⟩, Mf, Mg⟩ := id N2) | (go_at_call 93; refine (HF.out _).mono ?_; rintro e wb ⟨rfl, hbb⟩; have hsb := HS5.out wb (Below.trans (And.right (And.right (And.right (And.right (And.right (by assumption)))))) (hbb.mono (Below.size (And.right (And.right (And.right (And.right (And.right (by assumption))))))))); have szb := Below.size (And.right (And.right (And.right (And.right (And.right (hsb)))))); have szb' := Below.size hbb; (try simp at szb'); have N2 : Has2 wb wa.heap.size 0 0 := Has2.below (Has2.new wa 0 0 _) hbb; obtain ⟨⟨Ml, Mx, My⟩, Mf, Mg⟩ := id N2) | (go_at_call 93; refine (HF.out _).mono ?_; rintro e wb ⟨rfl, hbb⟩; have hsb := HS5.out wb (Below.trans (And.right (And.right (And.right (And.right (And.right (by assumption)))))) (hbb.mono (Below.size (And.right (And.right (And.right (And.right (And.right (by assumption))))))))); have szb := Below.size (And.right (And.right (And.right (And.right (And.right (hsb)))))); have szb' := Below.size hbb; (try simp at szb')))
  all_goals
   first | (refine ⟨wb.heap.size, ?_, hs9.below (And.right (And.right (And.right (And.right (And.right (by assumption)))))), Has2.new wb F L _, by omega⟩; generalize wb.heap.size = cc; rfl) | (refine ⟨w5.heap.size, ?_, hs9.below (And.right (And.right (And.right (And.right (And.right (by assumption)))))), N2.set F L, by omega⟩; generalize w5.heap.size = cc; rfl) | (refine ⟨wa.heap.size, ?_, hs9.below (And.right (And.right (And.right (And.right (And.right (by assumption)))))), N2.set F L, by omega⟩; generalize wa.heap.size = cc; rfl)
 intro c w6 ⟨hs6, hN6, hc6⟩
 clear HS5 hs5 zq5 hs9
 have ⟨zq, ⟨⟨z4, m0, m1⟩, p0, p1⟩, ⟨⟨z5, m2, m3⟩, p2, p3⟩, ⟨⟨z1, k0, k1, k2⟩, ⟨z2, j0, j1, j2, j3⟩, ⟨⟨z3, i0, i1, i2, i3⟩, g0, g1, g2, g3⟩, hbz⟩⟩ := hs6
 have ⟨⟨zc, c0, c1⟩, _, _⟩ := hN6
 have HS6 := hide hs6
 have HN6 := hide hN6
 clear hs6 hN6
 go_wp2_with fail
 have hn1 : w3.heap.size ≠ c := by omega
 have hn2 : w3.heap.size + 1 ≠ c := by omega
 have hcc : w6.cell? ⟨c, 0, none⟩ = some (.int .i64 F) ∧ w6.cell? ⟨c, 1, none⟩ = some (.int .i64 L) := ⟨c0, c1⟩
 go_region_held3 (fun w' => w'.cell? ⟨c, 0, none⟩ = some (.int .i64 F) ∧ w'.cell? ⟨c, 1, none⟩ = some (.int .i64 L)) (first | assumption | exact CC.drew (by assumption) | exact CC.set hn1 (by assumption) _ | exact CC.set hn2 (by assumption) _) (fail)
 have hs7 : RdS w w3.heap.size k a n t l b r F l L r (((w6.setCell ⟨w3.heap.size, 0, none⟩ (.int .i64 F)).setCell ⟨w3.heap.size + 1, 0, none⟩ (.int .i64 L)).drew) := by
  have s1 := HS6.out.a0 (Put.high HS6.out.2.1.1.2.1 HS6.out.2.1.1.1 (Below.refl _ _) (.int .i64 F))
  exact (s1.b0 (Put.high s1.2.2.1.1.2.1 s1.2.2.1.1.1 (Below.refl _ _) (.int .i64 L))).below ((Below.refl _ _).drew)
 generalize (((w6.setCell ⟨w3.heap.size, 0, none⟩ (.int .i64 F)).setCell ⟨w3.heap.size + 1, 0, none⟩ (.int .i64 L)).drew) = w7 at *
 clear z4 m0 m1 p0 p1 z5 m2 m3 p2 p3 zq z1 k0 k1 k2 z2 j0 j1 j2 j3 z3 i0 i1 i2 i3 g0 g1 g2 g3 hbz zc c0 c1 hcc hn1 hn2 HN6 HS6
 have ⟨zq, ⟨⟨z4, m0, m1⟩, p0, p1⟩, ⟨⟨z5, m2, m3⟩, p2, p3⟩, ⟨⟨z1, k0, k1, k2⟩, ⟨z2, j0, j1, j2, j3⟩, ⟨⟨z3, i0, i1, i2, i3⟩, g0, g1, g2, g3⟩, hbz⟩⟩ := hs7
 have HS7 := hide hs7
 have HQ1 := hide (HK1.out w3.heap.size)
 have HQ2 := hide (HK2.out w3.heap.size)
 clear hs7 HK1 HK2
 go_wp2_with fail
 refine (HQ1.out _ HS7.out).mono ?_
 rintro e w8 ⟨rfl, hs8⟩
 clear z4 m0 m1 p0 p1 z5 m2 m3 p2 p3 zq z1 k0 k1 k2 z2 j0 j1 j2 j3 z3 i0 i1 i2 i3 g0 g1 g2 g3 hbz HQ1 HS7
 have ⟨zq, ⟨⟨z4, m0, m1⟩, p0, p1⟩, ⟨⟨z5, m2, m3⟩, p2, p3⟩, ⟨⟨z1, k0, k1, k2⟩, ⟨z2, j0, j1, j2, j3⟩, ⟨⟨z3, i0, i1, i2, i3⟩, g0, g1, g2, g3⟩, hbz⟩⟩ := hs8
 have HS8 := hide hs8
 clear hs8
 go_wp2_with fail
 refine (HQ2.out _ HS8.out).mono ?_
 rintro e w9 ⟨rfl, hs9⟩
 clear z4 m0 m1 p0 p1 z5 m2 m3 p2 p3 zq z1 k0 k1 k2 z2 j0 j1 j2 j3 z3 i0 i1 i2 i3 g0 g1 g2 g3 hbz HQ2 HS8
 have ⟨zq, ⟨⟨z4, m0, m1⟩, p0, p1⟩, ⟨⟨z5, m2, m3⟩, p2, p3⟩, ⟨⟨z1, k0, k1, k2⟩, ⟨z2, j0, j1, j2, j3⟩, ⟨⟨z3, i0, i1, i2, i3⟩, g0, g1, g2, g3⟩, hbz⟩⟩ := hs9
 have HS9 := hide hs9
 clear hs9
 go_wp2_with (go_at_call 40; refine (HOf.out _).mono ?_; rintro e wa ⟨rfl, hba⟩; have hsa := HS9.out.below hba; clear z4 m0 m1 p0 p1 z5 m2 m3 p2 p3 zq z1 k0 k1 k2 z2 j0 j1 j2 j3 z3 i0 i1 i2 i3 g0 g1 g2 g3 hbz; have ⟨zq, ⟨⟨z4, m0, m1⟩, p0, p1⟩, ⟨⟨z5, m2, m3⟩, p2, p3⟩, ⟨⟨z1, k0, k1, k2⟩, ⟨z2, j0, j1, j2, j3⟩, ⟨⟨z3, i0, i1, i2, i3⟩, g0, g1, g2, g3⟩, hbz⟩⟩ := hsa)
 refine bodyPost_ret (v := .tuple #[.agg #[.int .i64 X, .int .i64 l, .int .i64 Y, .int .i64 r], .bool true, .int .i64 0]) (by simp [results, Tryz.results64, go_sem, *]) rfl ⟨rfl, ?_⟩
 exact bl
end
section
open Go.RowKit
theorem rect_none1 {k a n t l b r : Int} (h : editB k a n = true) (hp : rightB t l b r = true) (hr : rowsB k = false) (hq : ¬ leftF k a n l ≤ leftL k a n r) (w : World) :
  Calls Tryz.prog 64 #[.agg #[.int .i64 k, .int .i64 a, .int .i64 n], .agg #[.int .i64 t, .int .i64 l, .int .i64 b, .int .i64 r]] w fun e w' => e = .returned (.tuple #[.agg #[.int .i64 (rectR k a n t l b r).1, .int .i64 (rectR k a n t l b r).2.1, .int .i64 (rectR k a n t l b r).2.2.1, .int .i64 (rectR k a n t l b r).2.2.2.1], .bool (rectR k a n t l b r).2.2.2.2.1, .int .i64 (rectR k a n t l b r).2.2.2.2.2]) ∧ Below w.heap.size w w' := by
 have HC : Hid (∀ W : World, Calls Tryz.prog 31 #[.agg #[.int .i64 k, .int .i64 a, .int .i64 n]] W fun e w' => e = .returned (.int .i64 (editR k a n)) ∧ Below W.heap.size W w') := fun W => edit_any k a n W
 have HP : Hid (∀ W : World, Calls Tryz.prog 50 #[.agg #[.int .i64 t, .int .i64 l, .int .i64 b, .int .i64 r]] W fun e w' => e = .returned (.int .i64 (checkR t l b r)) ∧ Below W.heap.size W w') := fun W => check_any t l b r W
 have HN : Hid (∀ W : World, Calls Tryz.prog 51 #[.agg #[.int .i64 t, .int .i64 l, .int .i64 b, .int .i64 r]] W fun e w' => e = .returned (.tuple #[.agg #[.int .i64 t, .int .i64 l], .agg #[.int .i64 b, .int .i64 r]]) ∧ Below W.heap.size W w') := fun W => corners_any t l b r W
 have H0 := hide (RcS.start w k a n t l b r 36 62 62)
 rw [editR_yes h] at HC
 rw [checkR_yes hp] at HP
 have hg := rightB_iff.1 hp
 have HL : Hid (∀ W : World, Calls Tryz.prog 42 #[.agg #[.int .i64 k, .int .i64 a, .int .i64 n]] W fun e w' => e = .returned (.agg #[.int .i64 (lostF k a n), .int .i64 (lostL k a n)]) ∧ Below W.heap.size W w') := fun W => lost_any h W
 rw [rectR_col h hp hr]
 have ht : topE k = 16384 := top_cols hr
 have HA : Hid (∀ (q : Nat) (W : World), Calls Tryz.prog 41 #[.int .i64 k, .pointer (some ⟨q, 0, none⟩)] W fun e w' => e = .returned (.pointer (some ⟨q, 1, none⟩)) ∧ w' = W) := fun q W => by have := along_any k q W; rw [hr] at this; exact this
 have HF : Hid (∀ W : World, Calls Tryz.prog 93 #[.agg #[.int .i64 l, .int .i64 r], .agg #[.int .i64 (lostF k a n), .int .i64 (lostL k a n)]] W fun e w' => e = .returned (.agg #[.int .i64 (ordF (leftF k a n l) (leftL k a n r)), .int .i64 (ordL (leftF k a n l) (leftL k a n r))]) ∧ Below W.heap.size W w') := fun W => left_any h l r W
 rw [linesR_no hq]
 have hq' : leftF k a n l > leftL k a n r := by omega
 rw [show ordF (leftF k a n l) (leftL k a n r) = 0 by simp [ordF, hq'], show ordL (leftF k a n l) (leftL k a n r) = 0 by simp [ordL, hq']] at HF
 generalize lostF k a n = A at *
 generalize lostL k a n = B at *
 clear h hp hr ht hq hq' hg
 go_enter Tryz.func64, Tryz.ntmps64
 go_wp2_with (first | (go_at_call 31; refine (HC.out _).mono ?_; rintro e w1 ⟨rfl, hb1⟩; have hs1 := H0.out.below hb1; have ⟨⟨z1, k0, k1, k2⟩, ⟨z2, j0, j1, j2, j3⟩, ⟨⟨z3, i0, i1, i2, i3⟩, g0, g1, g2, g3⟩, hbz⟩ := hs1; have HS1 := hide hs1; clear hs1) | (go_at_call 50; refine (HP.out _).mono ?_; rintro e w2 ⟨rfl, hb2⟩; have hs2 := HS1.out.below hb2; clear z1 k0 k1 k2 z2 j0 j1 j2 j3 z3 i0 i1 i2 i3 g0 g1 g2 g3 hbz; have ⟨⟨z1, k0, k1, k2⟩, ⟨z2, j0, j1, j2, j3⟩, ⟨⟨z3, i0, i1, i2, i3⟩, g0, g1, g2, g3⟩, hbz⟩ := hs2; have HS2 := hide hs2; clear hs2) | (go_at_call 51; refine (HN.out _).mono ?_; rintro e w3 ⟨rfl, hb3⟩; have hs3 := RdS.start (HS2.out.below hb3) t l b r 28 28; clear z1 k0 k1 k2 z2 j0 j1 j2 j3 z3 i0 i1 i2 i3 g0 g1 g2 g3 hbz; have ⟨⟨z1, k0, k1, k2⟩, ⟨z2, j0, j1, j2, j3⟩, ⟨⟨z3, i0, i1, i2, i3⟩, g0, g1, g2, g3⟩, hbz⟩ := HS2.out.below hb3; have HS3 := hide hs3; clear hs3))
 generalize ((w3.alloc (.cells #[.int .i64 t, .int .i64 l] 28)).alloc (.cells #[.int .i64 b, .int .i64 r] 28)) = w4 at *
 clear z1 k0 k1 k2 z2 j0 j1 j2 j3 z3 i0 i1 i2 i3 g0 g1 g2 g3 hbz
 have hs8 := RdA.of HS3.out
 go_region_held3 (fun w' => w'.cell? ⟨w.heap.size, 0, none⟩ = some (.int .i64 k) ∧ w'.cell? ⟨w.heap.size, 1, none⟩ = some (.int .i64 a) ∧ w'.cell? ⟨w.heap.size, 2, none⟩ = some (.int .i64 n) ∧ w'.cell? ⟨w3.heap.size, 0, none⟩ = some (.int .i64 t) ∧ w'.cell? ⟨w3.heap.size, 1, none⟩ = some (.int .i64 l) ∧ w'.cell? ⟨w3.heap.size + 1, 0, none⟩ = some (.int .i64 b) ∧ w'.cell? ⟨w3.heap.size + 1, 1, none⟩ = some (.int .i64 r) ∧ RdS w (w3.heap.size) k a n t l b r t l b r w') (first | exact hs8 | assumption | exact RdA.drew (by assumption) | exact RdA.alloc (by assumption) _) ((go_at_call 41; refine (HA.out _ _).mono ?_; rintro e wz ⟨rfl, hz⟩; subst wz))
 have hs9 := RdA.out (w' := w4.drew) (by assumption)
 clear hs8 HS3
 generalize w4.drew = w5 at *
 go_wp2_with fail
 have HS5 : Hid (∀ w', Below w5.heap.size w5 w' → w'.cell? ⟨w.heap.size, 0, none⟩ = some (.int .i64 k) ∧ w'.cell? ⟨w.heap.size, 1, none⟩ = some (.int .i64 a) ∧ w'.cell? ⟨w.heap.size, 2, none⟩ = some (.int .i64 n) ∧ w'.cell? ⟨w3.heap.size, 1, none⟩ = some (.int .i64 l) ∧ w'.cell? ⟨w3.heap.size + 1, 1, none⟩ = some (.int .i64 r) ∧ Below w5.heap.size w5 w') := fun w' hb => ⟨(hs9.below hb).2.2.2.1.2.1, (hs9.below hb).2.2.2.1.2.2.1, (hs9.below hb).2.2.2.1.2.2.2, (hs9.below hb).2.1.1.2.2, (hs9.below hb).2.2.1.1.2.2, hb⟩
 have hs5 := HS5.out w5 (Below.refl _ _)
 have zq5 := hs9.2.2.1.1.1
 apply wp_cutT (F := fun c w' => RdS w w3.heap.size k a n t l b r t l b r w' ∧ Has2 w' c 0 0 ∧ w3.heap.size + 1 < c)
 case hr =>
  go_region_held3 (fun w' => w'.cell? ⟨w.heap.size, 0, none⟩ = some (.int .i64 k) ∧ w'.cell? ⟨w.heap.size, 1, none⟩ = some (.int .i64 a) ∧ w'.cell? ⟨w.heap.size, 2, none⟩ = some (.int .i64 n) ∧ w'.cell? ⟨w3.heap.size, 1, none⟩ = some (.int .i64 l) ∧ w'.cell? ⟨w3.heap.size + 1, 1, none⟩ = some (.int .i64 r) ∧ Below w5.heap.size w5 w') (first | assumption | (refine HS5.out _ ?_; repeat' (first | with_reducible exact And.right (And.right (And.right (And.right (And.right (by assumption))))) | with_reducible refine Below.setCell ?_ ?_ _ | with_reducible refine Below.alloc ?_ ?_ _ | with_reducible refine Below.drew ?_ | exact Nat.le_refl _ | assumption | exact Below.size (And.right (And.right (And.right (And.right (And.right (by assumption)))))) | (simp; omega)))) (first | (go_at_call 42; refine (HL.out _).mono ?_; rintro e wa ⟨rfl, hba⟩; have hsa := HS5.out wa (Below.trans (And.right (And.right (And.right (And.right (And.right (by assumption)))))) (hba.mono (Below.size (And.right (And.right (And.right (And.right (And.right (by assumption))))))))); have sza := Below.size (And.right (And.right (And.right (And.right (And.right (hsa)))))); have sza' := Below.size hba; (try simp at sza'); have N1 : Has2 wa w5.heap.size 0 0 := Has2.below (by (first | exact Has2.new w5 0 0 _ | exact Has2.new w5.drew 0 0 _)) hba; obtain ⟨⟨Nl, Nx, Ny⟩, Nf, Ng⟩ := id N1) | (go_at_call 42; refine (HL.out _).mono ?_; rintro e wa ⟨rfl, hba⟩; have hsa := HS5.out wa (Below.trans (And.right (And.right (And.right (And.right (And.right (by assumption)))))) (hba.mono (Below.size (And.right (And.right (And.right (And.right (And.right (by assumption))))))))); have sza := Below.size (And.right (And.right (And.right (And.right (And.right (hsa)))))); have sza' := Below.size hba; (try simp at sza')) | (go_at_call 93; refine (HF.out _).mono ?_; rintro e wb ⟨rfl, hbb⟩; have hsb := HS5.out wb (Below.trans (And.right (And.right (And.right (And.right (And.right (by assumption)))))) (hbb.mono (Below.size (And.right (And.right (And.right (And.right (And.right (by assumption))))))))); have szb := Below.size (And.right (And.right (And.right (And.right (And.right (hsb)))))); have szb' := Below.size hbb; (try simp at szb'); have N2 : Has2 wb w5.heap.size 0 0 := Has2.below N1 hbb; obtain ⟨⟨Ml, Mx, My⟩, Mf, Mg⟩ := id N2) | (go_at_call 93; refine (HF.out _).mono ?_; rintro e wb ⟨rfl, hbb⟩; have hsb := HS5.out wb (Below.trans (And.right (And.right (And.right (And.right (And.right (by assumption)))))) (hbb.mono (Below.size (And.right (And.right (And.right (And.right (And.right (by assumption))))))))); have szb := Below.size (And.right (And.right (And.right (And.right (And.right (hsb)))))); have szb' := Below.size hbb; (try simp at szb'); have N2 : Has2 wb wa.heap.size 0 0 := Has2.below (Has2.new wa 0 0 _) hbb; obtain ⟨⟨Ml, Mx, My⟩, Mf, Mg⟩ := id N2) | (go_at_call 93; refine (HF.out _).mono ?_; rintro e wb ⟨rfl, hbb⟩; have hsb := HS5.out wb (Below.trans (And.right (And.right (And.right (And.right (And.right (by assumption)))))) (hbb.mono (Below.size (And.right (And.right (And.right (And.right (And.right (by assumption))))))))); have szb := Below.size (And.right (And.right (And.right (And.right (And.right (hsb)))))); have szb' := Below.size hbb; (try simp at szb')))
  all_goals
   first | (refine ⟨wb.heap.size, ?_, hs9.below (And.right (And.right (And.right (And.right (And.right (by assumption)))))), Has2.new wb 0 0 _, by omega⟩; generalize wb.heap.size = cc; rfl) | (refine ⟨w5.heap.size, ?_, hs9.below (And.right (And.right (And.right (And.right (And.right (by assumption)))))), N2.set 0 0, by omega⟩; generalize w5.heap.size = cc; rfl) | (refine ⟨wa.heap.size, ?_, hs9.below (And.right (And.right (And.right (And.right (And.right (by assumption)))))), N2.set 0 0, by omega⟩; generalize wa.heap.size = cc; rfl)
 intro c w6 ⟨hs6, hN6, hc6⟩
 clear HS5 hs5 zq5 hs9
 have ⟨zq, ⟨⟨z4, m0, m1⟩, p0, p1⟩, ⟨⟨z5, m2, m3⟩, p2, p3⟩, ⟨⟨z1, k0, k1, k2⟩, ⟨z2, j0, j1, j2, j3⟩, ⟨⟨z3, i0, i1, i2, i3⟩, g0, g1, g2, g3⟩, hbz⟩⟩ := hs6
 have ⟨⟨zc, c0, c1⟩, _, _⟩ := hN6
 have HS6 := hide hs6
 have HN6 := hide hN6
 clear hs6 hN6
 go_wp2_with fail
 refine bodyPost_ret (v := .tuple #[.agg #[.int .i64 0, .int .i64 0, .int .i64 0, .int .i64 0], .bool false, .int .i64 0]) (by simp [results, Tryz.results64, go_sem, *]) rfl ⟨rfl, ?_⟩
 exact bl
theorem rect_none0 {k a n t l b r : Int} (h : editB k a n = true) (hp : rightB t l b r = true) (hr : rowsB k = true) (hq : ¬ leftF k a n t ≤ leftL k a n b) (w : World) :
  Calls Tryz.prog 64 #[.agg #[.int .i64 k, .int .i64 a, .int .i64 n], .agg #[.int .i64 t, .int .i64 l, .int .i64 b, .int .i64 r]] w fun e w' => e = .returned (.tuple #[.agg #[.int .i64 (rectR k a n t l b r).1, .int .i64 (rectR k a n t l b r).2.1, .int .i64 (rectR k a n t l b r).2.2.1, .int .i64 (rectR k a n t l b r).2.2.2.1], .bool (rectR k a n t l b r).2.2.2.2.1, .int .i64 (rectR k a n t l b r).2.2.2.2.2]) ∧ Below w.heap.size w w' := by
 have HC : Hid (∀ W : World, Calls Tryz.prog 31 #[.agg #[.int .i64 k, .int .i64 a, .int .i64 n]] W fun e w' => e = .returned (.int .i64 (editR k a n)) ∧ Below W.heap.size W w') := fun W => edit_any k a n W
 have HP : Hid (∀ W : World, Calls Tryz.prog 50 #[.agg #[.int .i64 t, .int .i64 l, .int .i64 b, .int .i64 r]] W fun e w' => e = .returned (.int .i64 (checkR t l b r)) ∧ Below W.heap.size W w') := fun W => check_any t l b r W
 have HN : Hid (∀ W : World, Calls Tryz.prog 51 #[.agg #[.int .i64 t, .int .i64 l, .int .i64 b, .int .i64 r]] W fun e w' => e = .returned (.tuple #[.agg #[.int .i64 t, .int .i64 l], .agg #[.int .i64 b, .int .i64 r]]) ∧ Below W.heap.size W w') := fun W => corners_any t l b r W
 have H0 := hide (RcS.start w k a n t l b r 36 62 62)
 rw [editR_yes h] at HC
 rw [checkR_yes hp] at HP
 have hg := rightB_iff.1 hp
 have HL : Hid (∀ W : World, Calls Tryz.prog 42 #[.agg #[.int .i64 k, .int .i64 a, .int .i64 n]] W fun e w' => e = .returned (.agg #[.int .i64 (lostF k a n), .int .i64 (lostL k a n)]) ∧ Below W.heap.size W w') := fun W => lost_any h W
 rw [rectR_row h hp hr]
 have ht : topE k = 1048576 := top_rows hr
 have HA : Hid (∀ (q : Nat) (W : World), Calls Tryz.prog 41 #[.int .i64 k, .pointer (some ⟨q, 0, none⟩)] W fun e w' => e = .returned (.pointer (some ⟨q, 0, none⟩)) ∧ w' = W) := fun q W => by have := along_any k q W; rw [hr] at this; exact this
 have HF : Hid (∀ W : World, Calls Tryz.prog 93 #[.agg #[.int .i64 t, .int .i64 b], .agg #[.int .i64 (lostF k a n), .int .i64 (lostL k a n)]] W fun e w' => e = .returned (.agg #[.int .i64 (ordF (leftF k a n t) (leftL k a n b)), .int .i64 (ordL (leftF k a n t) (leftL k a n b))]) ∧ Below W.heap.size W w') := fun W => left_any h t b W
 rw [linesR_no hq]
 have hq' : leftF k a n t > leftL k a n b := by omega
 rw [show ordF (leftF k a n t) (leftL k a n b) = 0 by simp [ordF, hq'], show ordL (leftF k a n t) (leftL k a n b) = 0 by simp [ordL, hq']] at HF
 generalize lostF k a n = A at *
 generalize lostL k a n = B at *
 clear h hp hr ht hq hq' hg
 go_enter Tryz.func64, Tryz.ntmps64
 go_wp2_with (first | (go_at_call 31; refine (HC.out _).mono ?_; rintro e w1 ⟨rfl, hb1⟩; have hs1 := H0.out.below hb1; have ⟨⟨z1, k0, k1, k2⟩, ⟨z2, j0, j1, j2, j3⟩, ⟨⟨z3, i0, i1, i2, i3⟩, g0, g1, g2, g3⟩, hbz⟩ := hs1; have HS1 := hide hs1; clear hs1) | (go_at_call 50; refine (HP.out _).mono ?_; rintro e w2 ⟨rfl, hb2⟩; have hs2 := HS1.out.below hb2; clear z1 k0 k1 k2 z2 j0 j1 j2 j3 z3 i0 i1 i2 i3 g0 g1 g2 g3 hbz; have ⟨⟨z1, k0, k1, k2⟩, ⟨z2, j0, j1, j2, j3⟩, ⟨⟨z3, i0, i1, i2, i3⟩, g0, g1, g2, g3⟩, hbz⟩ := hs2; have HS2 := hide hs2; clear hs2) | (go_at_call 51; refine (HN.out _).mono ?_; rintro e w3 ⟨rfl, hb3⟩; have hs3 := RdS.start (HS2.out.below hb3) t l b r 28 28; clear z1 k0 k1 k2 z2 j0 j1 j2 j3 z3 i0 i1 i2 i3 g0 g1 g2 g3 hbz; have ⟨⟨z1, k0, k1, k2⟩, ⟨z2, j0, j1, j2, j3⟩, ⟨⟨z3, i0, i1, i2, i3⟩, g0, g1, g2, g3⟩, hbz⟩ := HS2.out.below hb3; have HS3 := hide hs3; clear hs3))
 generalize ((w3.alloc (.cells #[.int .i64 t, .int .i64 l] 28)).alloc (.cells #[.int .i64 b, .int .i64 r] 28)) = w4 at *
 clear z1 k0 k1 k2 z2 j0 j1 j2 j3 z3 i0 i1 i2 i3 g0 g1 g2 g3 hbz
 have hs8 := RdA.of HS3.out
 go_region_held3 (fun w' => w'.cell? ⟨w.heap.size, 0, none⟩ = some (.int .i64 k) ∧ w'.cell? ⟨w.heap.size, 1, none⟩ = some (.int .i64 a) ∧ w'.cell? ⟨w.heap.size, 2, none⟩ = some (.int .i64 n) ∧ w'.cell? ⟨w3.heap.size, 0, none⟩ = some (.int .i64 t) ∧ w'.cell? ⟨w3.heap.size, 1, none⟩ = some (.int .i64 l) ∧ w'.cell? ⟨w3.heap.size + 1, 0, none⟩ = some (.int .i64 b) ∧ w'.cell? ⟨w3.heap.size + 1, 1, none⟩ = some (.int .i64 r) ∧ RdS w (w3.heap.size) k a n t l b r t l b r w') (first | exact hs8 | assumption | exact RdA.drew (by assumption) | exact RdA.alloc (by assumption) _) ((go_at_call 41; refine (HA.out _ _).mono ?_; rintro e wz ⟨rfl, hz⟩; subst wz))
 have hs9 := RdA.out (w' := w4.drew) (by assumption)
 clear hs8 HS3
 generalize w4.drew = w5 at *
 go_wp2_with fail
 have HS5 : Hid (∀ w', Below w5.heap.size w5 w' → w'.cell? ⟨w.heap.size, 0, none⟩ = some (.int .i64 k) ∧ w'.cell? ⟨w.heap.size, 1, none⟩ = some (.int .i64 a) ∧ w'.cell? ⟨w.heap.size, 2, none⟩ = some (.int .i64 n) ∧ w'.cell? ⟨w3.heap.size, 0, none⟩ = some (.int .i64 t) ∧ w'.cell? ⟨w3.heap.size + 1, 0, none⟩ = some (.int .i64 b) ∧ Below w5.heap.size w5 w') := fun w' hb => ⟨(hs9.below hb).2.2.2.1.2.1, (hs9.below hb).2.2.2.1.2.2.1, (hs9.below hb).2.2.2.1.2.2.2, (hs9.below hb).2.1.1.2.1, (hs9.below hb).2.2.1.1.2.1, hb⟩
 have hs5 := HS5.out w5 (Below.refl _ _)
 have zq5 := hs9.2.2.1.1.1
 apply wp_cutT (F := fun c w' => RdS w w3.heap.size k a n t l b r t l b r w' ∧ Has2 w' c 0 0 ∧ w3.heap.size + 1 < c)
 case hr =>
  go_region_held3 (fun w' => w'.cell? ⟨w.heap.size, 0, none⟩ = some (.int .i64 k) ∧ w'.cell? ⟨w.heap.size, 1, none⟩ = some (.int .i64 a) ∧ w'.cell? ⟨w.heap.size, 2, none⟩ = some (.int .i64 n) ∧ w'.cell? ⟨w3.heap.size, 0, none⟩ = some (.int .i64 t) ∧ w'.cell? ⟨w3.heap.size + 1, 0, none⟩ = some (.int .i64 b) ∧ Below w5.heap.size w5 w') (first | assumption | (refine HS5.out _ ?_; repeat' (first | with_reducible exact And.right (And.right (And.right (And.right (And.right (by assumption))))) | with_reducible refine Below.setCell ?_ ?_ _ | with_reducible refine Below.alloc ?_ ?_ _ | with_reducible refine Below.drew ?_ | exact Nat.le_refl _ | assumption | exact Below.size (And.right (And.right (And.right (And.right (And.right (by assumption)))))) | (simp; omega)))) (first | (go_at_call 42; refine (HL.out _).mono ?_; rintro e wa ⟨rfl, hba⟩; have hsa := HS5.out wa (Below.trans (And.right (And.right (And.right (And.right (And.right (by assumption)))))) (hba.mono (Below.size (And.right (And.right (And.right (And.right (And.right (by assumption))))))))); have sza := Below.size (And.right (And.right (And.right (And.right (And.right (hsa)))))); have sza' := Below.size hba; (try simp at sza'); have N1 : Has2 wa w5.heap.size 0 0 := Has2.below (by (first | exact Has2.new w5 0 0 _ | exact Has2.new w5.drew 0 0 _)) hba; obtain ⟨⟨Nl, Nx, Ny⟩, Nf, Ng⟩ := id N1) | (go_at_call 42; refine (HL.out _).mono ?_; rintro e wa ⟨rfl, hba⟩; have hsa := HS5.out wa (Below.trans (And.right (And.right (And.right (And.right (And.right (by assumption)))))) (hba.mono (Below.size (And.right (And.right (And.right (And.right (And.right (by assumption))))))))); have sza := Below.size (And.right (And.right (And.right (And.right (And.right (hsa)))))); have sza' := Below.size hba; (try simp at sza')) | (go_at_call 93; refine (HF.out _).mono ?_; rintro e wb ⟨rfl, hbb⟩; have hsb := HS5.out wb (Below.trans (And.right (And.right (And.right (And.right (And.right (by assumption)))))) (hbb.mono (Below.size (And.right (And.right (And.right (And.right (And.right (by assumption))))))))); have szb := Below.size (And.right (And.right (And.right (And.right (And.right (hsb)))))); have szb' := Below.size hbb; (try simp at szb'); have N2 : Has2 wb w5.heap.size 0 0 := Has2.below N1 hbb; obtain ⟨⟨Ml, Mx, My⟩, Mf, Mg⟩ := id N2) | (go_at_call 93; refine (HF.out _).mono ?_; rintro e wb ⟨rfl, hbb⟩; have hsb := HS5.out wb (Below.trans (And.right (And.right (And.right (And.right (And.right (by assumption)))))) (hbb.mono (Below.size (And.right (And.right (And.right (And.right (And.right (by assumption))))))))); have szb := Below.size (And.right (And.right (And.right (And.right (And.right (hsb)))))); have szb' := Below.size hbb; (try simp at szb'); have N2 : Has2 wb wa.heap.size 0 0 := Has2.below (Has2.new wa 0 0 _) hbb; obtain ⟨⟨Ml, Mx, My⟩, Mf, Mg⟩ := id N2) | (go_at_call 93; refine (HF.out _).mono ?_; rintro e wb ⟨rfl, hbb⟩; have hsb := HS5.out wb (Below.trans (And.right (And.right (And.right (And.right (And.right (by assumption)))))) (hbb.mono (Below.size (And.right (And.right (And.right (And.right (And.right (by assumption))))))))); have szb := Below.size (And.right (And.right (And.right (And.right (And.right (hsb)))))); have szb' := Below.size hbb; (try simp at szb')))
  all_goals
   first | (refine ⟨wb.heap.size, ?_, hs9.below (And.right (And.right (And.right (And.right (And.right (by assumption)))))), Has2.new wb 0 0 _, by omega⟩; generalize wb.heap.size = cc; rfl) | (refine ⟨w5.heap.size, ?_, hs9.below (And.right (And.right (And.right (And.right (And.right (by assumption)))))), N2.set 0 0, by omega⟩; generalize w5.heap.size = cc; rfl) | (refine ⟨wa.heap.size, ?_, hs9.below (And.right (And.right (And.right (And.right (And.right (by assumption)))))), N2.set 0 0, by omega⟩; generalize wa.heap.size = cc; rfl)
 intro c w6 ⟨hs6, hN6, hc6⟩
 clear HS5 hs5 zq5 hs9
 have ⟨zq, ⟨⟨z4, m0, m1⟩, p0, p1⟩, ⟨⟨z5, m2, m3⟩, p2, p3⟩, ⟨⟨z1, k0, k1, k2⟩, ⟨z2, j0, j1, j2, j3⟩, ⟨⟨z3, i0, i1, i2, i3⟩, g0, g1, g2, g3⟩, hbz⟩⟩ := hs6
 have ⟨⟨zc, c0, c1⟩, _, _⟩ := hN6
 have HS6 := hide hs6
 have HN6 := hide hN6
 clear hs6 hN6
 go_wp2_with fail
 refine bodyPost_ret (v := .tuple #[.agg #[.int .i64 0, .int .i64 0, .int .i64 0, .int .i64 0], .bool false, .int .i64 0]) (by simp [results, Tryz.results64, go_sem, *]) rfl ⟨rfl, ?_⟩
 exact bl
theorem rect_any (k a n t l b r : Int) (w : World) :
  Calls Tryz.prog 64 #[.agg #[.int .i64 k, .int .i64 a, .int .i64 n], .agg #[.int .i64 t, .int .i64 l, .int .i64 b, .int .i64 r]] w fun e w' => e = .returned (.tuple #[.agg #[.int .i64 (rectR k a n t l b r).1, .int .i64 (rectR k a n t l b r).2.1, .int .i64 (rectR k a n t l b r).2.2.1, .int .i64 (rectR k a n t l b r).2.2.2.1], .bool (rectR k a n t l b r).2.2.2.2.1, .int .i64 (rectR k a n t l b r).2.2.2.2.2]) ∧ Below w.heap.size w w' := by
 cases h : editB k a n
 ·
  exact rect_bad k a n t l b r (Or.inl h) w
 ·
  cases hp : rightB t l b r
  ·
   exact rect_bad k a n t l b r (Or.inr hp) w
  ·
   cases hr : rowsB k
   ·
    by_cases hq : leftF k a n l ≤ leftL k a n r
    ·
     exact rect_ok1 h hp hr hq w
    ·
     exact rect_none1 h hp hr hq w
   ·
    by_cases hq : leftF k a n t ≤ leftL k a n b
    ·
     exact rect_ok0 h hp hr hq w
    ·
     exact rect_none0 h hp hr hq w
end
end Go.Proofs.YtfpmmckpobpokaaGreat.Pla
