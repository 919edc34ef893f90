/-
  The contract of layer 3's lives: the document's examples are told.
-/
import Derived.Test.YtcabpcneiddgcaaWide3
import Derived.Test.YtcabpcneiddgcaaWideMean
namespace Go.Proofs.Ytcabpcneiddgcaa
open Go.RowKit

theorem lv_1 (w : World) : Calls Try.prog 9 #[.agg #[.int .i64 0, .int .i64 0], .int .i64 1000000000000000000] w fun e w' => e = .returned (.tuple #[.agg #[.int .i64 1, .int .i64 0], .int .i64 0]) ∧ Below w.heap.size w w' := by
  have h := addW_any 0 0 1000000000000000000 w
  rw [show addW 0 0 1000000000000000000 = (1, 0, 0) by decide] at h; exact h
theorem lv_2 (w : World) : Calls Try.prog 11 #[.agg #[.int .i64 0, .int .i64 0], .int .i64 1] w fun e w' => e = .returned (.tuple #[.agg #[.int .i64 (-1), .int .i64 999999999999999999], .int .i64 0]) ∧ Below w.heap.size w w' := by
  have h := subW_any 0 0 1 w
  rw [show subW 0 0 1 = (-1, 999999999999999999, 0) by decide] at h; exact h
theorem lv_3 (w : World) : Calls Try.prog 18 #[.agg #[.int .i64 (-1), .int .i64 999999999999999999]] w fun e w' => e = .returned (.tuple #[.int .i64 (-1), .int .i64 0]) ∧ Below w.heap.size w w' := by
  have h := totalW_any (-1) 999999999999999999 w
  rw [show totalW (-1) 999999999999999999 = (-1, 0) by decide] at h; exact h
theorem lv_4 (w : World) : Calls Try.prog 18 #[.agg #[.int .i64 1, .int .i64 1]] w fun e w' => e = .returned (.tuple #[.int .i64 0, .int .i64 3]) ∧ Below w.heap.size w w' := by
  have h := totalW_any 1 1 w
  rw [show totalW 1 1 = (0, 3) by decide] at h; exact h
theorem lv_5 (w : World) : Calls Try.prog 20 #[.agg #[.int .i64 0, .int .i64 5], .int .i64 2] w fun e w' => e = .returned (.tuple #[.int .i64 2, .int .i64 0]) ∧ Below w.heap.size w w' := by
  have h := meanW_any 0 5 2 w
  rw [show meanW 0 5 2 = (2, 0) by decide] at h; exact h

/-- A sum lies in a block of its own. -/
def At (w : World) (b : Nat) (x y : Int) : Prop := b < w.heap.size ∧ w.cell? ⟨b, 0, none⟩ = some (.int .i64 x) ∧ w.cell? ⟨b, 1, none⟩ = some (.int .i64 y)
theorem At.new (w : World) (x y : Int) (t : TypeId) : At (w.alloc (.cells #[.int .i64 x, .int .i64 y] t)) w.heap.size x y := ⟨by simp, by simp [go_sem], by simp [go_sem]⟩
theorem At.alloc {w : World} {b : Nat} {x y : Int} (h : At w b x y) (o : Obj) : At (w.alloc o) b x y :=
  ⟨by have := h.1; simp; omega, by rw [World.cell?_alloc_past _ _ _ h.1]; exact h.2.1, by rw [World.cell?_alloc_past _ _ _ h.1]; exact h.2.2⟩
theorem At.below {w w' : World} {b : Nat} {x y : Int} (h : At w b x y) (k : Below w.heap.size w w') : At w' b x y :=
  ⟨Nat.lt_of_lt_of_le h.1 k.size, by rw [k.cell (p := ⟨b, 0, none⟩) h.1]; exact h.2.1, by rw [k.cell (p := ⟨b, 1, none⟩) h.1]; exact h.2.2⟩

set_option maxHeartbeats 2000000 in
theorem lives3_any (w : World) :
    Calls Try.prog 17 #[] w fun e w' => e = .returned (.bool true) ∧ Below w.heap.size w w' := by
  go_enter Try.func17, Try.ntmps17
  go_wp2_with fail
  refine (lv_1 _).mono ?_
  rintro e w1 ⟨rfl, hb1⟩
  go_wp2_with fail
  refine (lv_2 _).mono ?_
  rintro e w2 ⟨rfl, hb2⟩
  have A2 := (At.new w1 1 0 23).below hb2
  have B2 := hb1.trans (((Below.refl w1.heap.size w1).alloc (Nat.le_refl _) _).trans (hb2.mono (by simp)) |>.mono hb1.size)
  clear hb1 hb2
  go_wp2_with fail
  refine (lv_3 _).mono ?_
  rintro e w3 ⟨rfl, hb3⟩
  have C3 := (At.new w2 (-1) 999999999999999999 23).below hb3
  have A3 := (A2.alloc _).below hb3
  have B3 := B2.trans (((Below.refl w2.heap.size w2).alloc (Nat.le_refl _) _).trans (hb3.mono (by simp)) |>.mono B2.size)
  clear A2 B2 hb3
  go_wp2_with fail
  refine (lv_4 _).mono ?_
  rintro e w4 ⟨rfl, hb4⟩
  have C4 := C3.below hb4
  have A4 := A3.below hb4
  have B4 := B3.trans (hb4.mono B3.size)
  clear A3 B3 C3 hb4
  go_wp2_with fail
  refine (lv_5 _).mono ?_
  rintro e w5 ⟨rfl, hb5⟩
  have C5 := C4.below hb5
  have A5 := A4.below hb5
  have B5 := B4.trans (hb5.mono B4.size)
  clear A4 B4 C4 hb5
  obtain ⟨la, a0, a1⟩ := A5
  obtain ⟨lc, c0, c1⟩ := C5
  go_wp2
  go_ret
  refine ⟨rfl, ?_⟩
  repeat' (first | with_reducible exact Below.refl _ _ | with_reducible refine Below.setCell ?_ ?_ _ | with_reducible refine Below.alloc ?_ ?_ _ | with_reducible refine below_drewN ?_ _ | with_reducible refine Below.drew ?_ | with_reducible refine Below.trans ?_ (Below.mono (by assumption) ?_) | with_reducible exact Nat.le_refl _ | with_reducible refine Nat.le_trans ?_ (Below.size (by assumption)) | (simp; done) | (simp; omega) | omega)
end Go.Proofs.Ytcabpcneiddgcaa
