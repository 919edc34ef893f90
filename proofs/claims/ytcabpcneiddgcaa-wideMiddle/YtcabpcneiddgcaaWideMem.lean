/-
  Sums in blocks of the call's own, which may be written.
-/
import Derived.Test.YtcabpcneiddgcaaWideLaws2
namespace Go.Proofs.Ytcabpcneiddgcaa
open Go.RowKit

/-- A sum lies in a block that may be written. -/
def Has (w : World) (b : Nat) (x y : Int) : Prop := At w b x y ∧ w.frozen? ⟨b, 0, none⟩ = false ∧ w.frozen? ⟨b, 1, none⟩ = false
theorem Has.at (w : World) (b : Nat) (x y : Int) (t : TypeId) (hb : b = w.heap.size) : Has (w.alloc (.cells #[.int .i64 x, .int .i64 y] t)) b x y := by
  subst hb; exact ⟨At.new w x y t, by simp, by simp⟩
theorem Has.alloc {w : World} {b : Nat} {x y : Int} (h : Has w b x y) (o : Obj) : Has (w.alloc o) b x y :=
  ⟨h.1.alloc o, by rw [World.frozen?_alloc_past _ _ _ h.1.1]; exact h.2.1, by rw [World.frozen?_alloc_past _ _ _ h.1.1]; exact h.2.2⟩
theorem Has.below {w w' : World} {b : Nat} {x y : Int} (h : Has w b x y) (k : Below w.heap.size w w') : Has w' b x y :=
  ⟨h.1.below k, by rw [k.frozen (p := ⟨b, 0, none⟩) h.1.1]; exact h.2.1, by rw [k.frozen (p := ⟨b, 1, none⟩) h.1.1]; exact h.2.2⟩
theorem At.other {w : World} {b : Nat} {x y : Int} (h : At w b x y) {c : Nat} (n : c ≠ b) (o : Nat) (v : Value) : At (w.setCell ⟨c, o, none⟩ v) b x y :=
  ⟨by have := h.1; simpa using this,
   by rw [World.cell?_setCell_other (h := show (⟨c, o, none⟩ : Addr) ≠ ⟨b, 0, none⟩ from fun e => n (congrArg Addr.block e))]; exact h.2.1,
   by rw [World.cell?_setCell_other (h := show (⟨c, o, none⟩ : Addr) ≠ ⟨b, 1, none⟩ from fun e => n (congrArg Addr.block e))]; exact h.2.2⟩
theorem Has.other {w : World} {b : Nat} {x y : Int} (h : Has w b x y) {c : Nat} (n : c ≠ b) (o : Nat) (v : Value) : Has (w.setCell ⟨c, o, none⟩ v) b x y :=
  ⟨h.1.other n o v, by rw [World.frozen?_setCell]; exact h.2.1, by rw [World.frozen?_setCell]; exact h.2.2⟩
theorem Has.set {w : World} {b : Nat} {x y : Int} (h : Has w b x y) (u v : Int) : Has ((w.setCell ⟨b, 0, none⟩ (.int .i64 u)).setCell ⟨b, 1, none⟩ (.int .i64 v)) b u v := by
  obtain ⟨⟨l, c, d⟩, f, g⟩ := h
  have e1 : (w.setCell ⟨b, 0, none⟩ (.int .i64 u)).cell? ⟨b, 0, none⟩ = some (.int .i64 u) := World.cell?_setCell_same _ _ _ c
  have e2 : (w.setCell ⟨b, 0, none⟩ (.int .i64 u)).cell? ⟨b, 1, none⟩ = some (.int .i64 y) := by
    rw [World.cell?_setCell_other (h := show (⟨b, 0, none⟩ : Addr) ≠ ⟨b, 1, none⟩ from fun e => absurd (congrArg Addr.off e) (by decide : (0 : Nat) ≠ 1))]; exact d
  refine ⟨⟨by simpa using l, ?_, World.cell?_setCell_same _ _ _ e2⟩, by simpa using f, by simpa using g⟩
  rw [World.cell?_setCell_other (h := show (⟨b, 1, none⟩ : Addr) ≠ ⟨b, 0, none⟩ from fun e => absurd (congrArg Addr.off e) (by decide : (1 : Nat) ≠ 0))]; exact e1
theorem Has.fresh (w : World) (t : TypeId) : Has (w.alloc (.cells #[.int .i64 0, .int .i64 0] t)) w.heap.size 0 0 := Has.at w _ 0 0 t rfl
theorem Has.drewN {w : World} {b : Nat} {x y : Int} (h : Has w b x y) (n : Nat) : Has (w.drewN n) b x y := h
/-- A post that holds at the code's plain end alone. -/
def Norm (R : Act → World → Prop) : Exit → Act → World → Prop
  | .normal, a, w => R a w
  | _, _, _ => False
theorem wp_cut {P : Program} {c : Code} {Q : Exit → Act → World → Prop} {R : Act → World → Prop} {a : Act} {w : World} (hr : c.wp P (Norm R) a w) (hk : ∀ a w, R a w → Q .normal a w) : c.wp P Q a w :=
  Code.wp_mono (fun e a w h => by cases e <;> first | exact hk a w h | exact (h : False).elim) hr
theorem wp_cutT {P : Program} {c : Code} {Q : Exit → Act → World → Prop} {T : Nat → Act} {F : Nat → World → Prop} {a : Act} {w : World} (hr : c.wp P (Norm fun a' w' => ∃ k, a' = T k ∧ F k w') a w) (hk : ∀ k w', F k w' → Q .normal (T k) w') : c.wp P Q a w :=
  wp_cut hr fun a w ⟨k, e, f⟩ => by rw [e]; exact hk k w f
theorem wp_cut0 {P : Program} {c : Code} {Q : Exit → Act → World → Prop} {T : Act} {F : World → Prop} {a : Act} {w : World} (hr : c.wp P (Norm fun a' w' => a' = T ∧ F w') a w) (hk : ∀ w', F w' → Q .normal T w') : c.wp P Q a w :=
  wp_cut hr fun a w ⟨e, f⟩ => by rw [e]; exact hk w f
theorem wp_cutT2 {P : Program} {c : Code} {Q : Exit → Act → World → Prop} {T : Nat → Nat → Act} {F : Nat → Nat → World → Prop} {a : Act} {w : World} (hr : c.wp P (Norm fun a' w' => ∃ i j, a' = T i j ∧ F i j w') a w) (hk : ∀ i j w', F i j w' → Q .normal (T i j) w') : c.wp P Q a w :=
  wp_cut hr fun a w ⟨i, j, e, f⟩ => by rw [e]; exact hk i j w f
theorem At.drew1 {w : World} {b : Nat} {x y : Int} (h : At w b x y) : At w.drew b x y := h
theorem two_cells {w : World} {c d : Nat} {x y u v : Int} (a : At w c x y) (b : At w d u v) : w.cell? ⟨c, 0, none⟩ = some (.int .i64 x) ∧ w.cell? ⟨c, 1, none⟩ = some (.int .i64 y) ∧ w.cell? ⟨d, 0, none⟩ = some (.int .i64 u) ∧ w.cell? ⟨d, 1, none⟩ = some (.int .i64 v) := ⟨a.2.1, a.2.2, b.2.1, b.2.2⟩
theorem one_cell {w : World} {c : Nat} {x y : Int} (a : At w c x y) : w.cell? ⟨c, 0, none⟩ = some (.int .i64 x) ∧ w.cell? ⟨c, 1, none⟩ = some (.int .i64 y) := ⟨a.2.1, a.2.2⟩
/-- A row of numbers that was there stays. -/
theorem row_below {w w' : World} {b off : Nat} {zs : List Int} (h : ∀ j, j < zs.length → w.cell? ⟨b, off + j, none⟩ = some (.int .i64 (zs.getD j 0))) (k : Below w.heap.size w w') (j : Nat) (hj : j < zs.length) :
    w'.cell? ⟨b, off + j, none⟩ = some (.int .i64 (zs.getD j 0)) := by
  have e := h j hj
  have := World.block_lt_of_cell? _ _ e
  rw [k.cell (p := ⟨b, off + j, none⟩) this]; exact e
end Go.Proofs.Ytcabpcneiddgcaa
