/-
  The contract of real's millionths: the size of a float in millionths, rounded to the even neighbour, and whether it fits.
-/
import Derived.Test.YtnjnbhfpgoondaaRealWords
import Derived.Test.YtnjnbhfpgoondaaMul
namespace Go.Proofs.Ytnjnbhfpgoondaa
open Go.RowKit

set_option maxHeartbeats 1000000 in
theorem mill_whole (kd m e : Int) (neg : Bool) (w : World) (h : 0 ≤ e) :
    Calls Try.prog 25 #[.agg #[.int .i64 kd, .bool neg, .int .u64 m, .int .i64 e]] w fun e w' => e = .returned (.tuple #[.int .i64 0, .bool false]) ∧ Below w.heap.size w w' := by
  go_enter Try.func25, Try.ntmps25
  go_wp2
  go_ret2
  exact ⟨rfl, (Below.refl _ _).alloc (Nat.le_refl _) _⟩

/-- What stands while the last statement of millionths runs. -/
abbrev MillS (w0 : World) (b : Nat) (B C D : Int) (w' : World) : Prop :=
  w'.cell? ⟨b, 1, none⟩ = some (.int .u64 B) ∧ w'.cell? ⟨b + 1, 0, none⟩ = some (.int .u64 C) ∧ w'.cell? ⟨b + 1, 1, none⟩ = some (.int .u64 D) ∧ b + 2 ≤ w'.heap.size ∧ Below w0.heap.size w0 w'
theorem MillS.drew {w0 : World} {b : Nat} {B C D : Int} {w : World} (h : MillS w0 b B C D w) : MillS w0 b B C D w.drew := ⟨h.1, h.2.1, h.2.2.1, h.2.2.2.1, h.2.2.2.2.drew⟩
theorem MillS.below {w0 : World} {b : Nat} {B C D : Int} {w w' : World} (h : MillS w0 b B C D w) (k : Below w.heap.size w w') : MillS w0 b B C D w' :=
  ⟨by rw [k.cell (p := ⟨b, 1, none⟩) (by have := h.2.2.2.1; simp; omega)]; exact h.1,
   by rw [k.cell (p := ⟨b + 1, 0, none⟩) (by have := h.2.2.2.1; simp; omega)]; exact h.2.1,
   by rw [k.cell (p := ⟨b + 1, 1, none⟩) (by have := h.2.2.2.1; simp; omega)]; exact h.2.2.1,
   Nat.le_trans h.2.2.2.1 k.size, h.2.2.2.2.trans (k.mono h.2.2.2.2.size)⟩

theorem MillS.out {w0 : World} {b : Nat} {B C D : Int} {w : World} (h : MillS w0 b B C D w) : Below w0.heap.size w0 w := h.2.2.2.2
theorem below_mill {w w1 : World} {o : Obj} (hb1 : Below (w.alloc o).heap.size (w.alloc o) w1) (p q : Obj) : Below w.heap.size w ((w1.alloc p).alloc q) := by
  have h1 : Below w.heap.size w w1 := ((Below.refl _ _).alloc (Nat.le_refl _) _).trans (hb1.mono (by simp))
  exact (h1.alloc h1.size _).alloc (by have := h1.size; simp; omega) _
theorem MillS.start {w w1 : World} {o : Obj} (hb1 : Below (w.alloc o).heap.size (w.alloc o) w1) (A B C D : Int) (t u : TypeId) :
    MillS w w1.heap.size B C D ((w1.alloc (.cells #[.int .u64 A, .int .u64 B] t)).alloc (.cells #[.int .u64 C, .int .u64 D] u)) :=
  ⟨by simp [go_sem], by simp [go_sem], by simp [go_sem], by simp, below_mill hb1 _ _⟩

set_option maxHeartbeats 4000000 in
theorem mill_fit (kd m e hi lo K K1 B C D E F R : Int) (neg : Bool) (w : World) (h : e < 0) (he : -2000 ≤ e) (hK : min (-e) 100 = K) (eK : IntKind.i64.wrap (K - 1) = K1)
    (HM : Hid (∀ W : World, Calls Try.prog 34 #[.int .u64 m, .int .u64 1000000] W fun e w' => e = .returned (.tuple #[.int .u64 hi, .int .u64 lo]) ∧ w' = W))
    (HD : Hid (∀ W : World, Calls Try.prog 35 #[.agg #[.int .u64 hi, .int .u64 lo], .int .i64 K] W fun e w' => e = .returned (.tuple #[.agg #[.int .u64 0, .int .u64 B], .agg #[.int .u64 C, .int .u64 D]]) ∧ Below W.heap.size W w'))
    (HT : Hid (∀ W : World, Calls Try.prog 37 #[.int .i64 K1] W fun e w' => e = .returned (.agg #[.int .u64 E, .int .u64 F]) ∧ Below W.heap.size W w'))
    (HN : Hid (∀ W : World, Calls Try.prog 36 #[.int .u64 B, .agg #[.int .u64 C, .int .u64 D], .agg #[.int .u64 E, .int .u64 F]] W fun e w' => e = .returned (.int .u64 R) ∧ Below W.heap.size W w'))
    (b0 : 0 ≤ B) (c2 : B ≤ 1000000000000000000) (eR : IntKind.i64.wrap R = R) :
    Calls Try.prog 25 #[.agg #[.int .i64 kd, .bool neg, .int .u64 m, .int .i64 e]] w fun e w' => e = .returned (.tuple #[.int .i64 R, .bool true]) ∧ Below w.heap.size w w' := by
  go_enter Try.func25, Try.ntmps25
  go_wp2_with (first | (go_at_call 34; refine (HM.out _).mono ?_; rintro e w1 ⟨rfl, rfl⟩) | (go_at_call 35; refine (HD.out _).mono ?_; rintro e w1 ⟨rfl, hb1⟩))
  have hS := MillS.start hb1 0 B C D 59 59
  go_region_held3 (fun w' => w'.cell? ⟨w1.heap.size, 1, none⟩ = some (.int .u64 B) ∧ w'.cell? ⟨w1.heap.size + 1, 0, none⟩ = some (.int .u64 C) ∧ w'.cell? ⟨w1.heap.size + 1, 1, none⟩ = some (.int .u64 D) ∧ w1.heap.size + 2 ≤ w'.heap.size ∧ Below w.heap.size w w') (first | assumption | exact MillS.drew (by assumption)) (first | (go_at_call 37; refine (HT.out _).mono ?_; rintro e w2 ⟨rfl, hb2⟩; have hs2 := MillS.below (by assumption) hb2) | (go_at_call 36; refine (HN.out _).mono ?_; rintro e w3 ⟨rfl, hb3⟩; have hs3 := MillS.below (by assumption) hb3))
  all_goals go_wp2
  all_goals go_ret2
  all_goals exact ⟨rfl, MillS.out (by assumption)⟩
set_option maxHeartbeats 4000000 in
theorem mill_over (kd m e hi lo K A B C D : Int) (neg : Bool) (w : World) (h : e < 0) (he : -2000 ≤ e) (hK : min (-e) 100 = K)
    (HM : Hid (∀ W : World, Calls Try.prog 34 #[.int .u64 m, .int .u64 1000000] W fun e w' => e = .returned (.tuple #[.int .u64 hi, .int .u64 lo]) ∧ w' = W))
    (HD : Hid (∀ W : World, Calls Try.prog 35 #[.agg #[.int .u64 hi, .int .u64 lo], .int .i64 K] W fun e w' => e = .returned (.tuple #[.agg #[.int .u64 A, .int .u64 B], .agg #[.int .u64 C, .int .u64 D]]) ∧ Below W.heap.size W w'))
    (c1 : A ≠ 0 ∨ 1000000000000000000 < B) :
    Calls Try.prog 25 #[.agg #[.int .i64 kd, .bool neg, .int .u64 m, .int .i64 e]] w fun e w' => e = .returned (.tuple #[.int .i64 0, .bool false]) ∧ Below w.heap.size w w' := by
  by_cases c : A = 0
  · subst c
    have c2 : 1000000000000000000 < B := by omega
    clear c1
    go_enter Try.func25, Try.ntmps25
    go_wp2_with (first | (go_at_call 34; refine (HM.out _).mono ?_; rintro e w1 ⟨rfl, rfl⟩) | (go_at_call 35; refine (HD.out _).mono ?_; rintro e w1 ⟨rfl, hb1⟩))
    go_ret2
    exact ⟨rfl, below_mill hb1 _ _⟩
  · have t1 : (A != 0) = true := by simpa using c
    clear c1
    go_enter Try.func25, Try.ntmps25
    go_wp2_with (first | (go_at_call 34; refine (HM.out _).mono ?_; rintro e w1 ⟨rfl, rfl⟩) | (go_at_call 35; refine (HD.out _).mono ?_; rintro e w1 ⟨rfl, hb1⟩))
    go_ret2
    exact ⟨rfl, below_mill hb1 _ _⟩
end Go.Proofs.Ytnjnbhfpgoondaa
