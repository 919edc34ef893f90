/-
  The contract of real's nearestBits: the bits of the float that is nearest to a size in millionths.
-/
import Derived.Test.YtnjnbhfpgoondaaRealMill
namespace Go.Proofs.Ytnjnbhfpgoondaa
open Go.RowKit

/-- What stands while the rounding of nearestBits runs. -/
abbrev NearS (w0 : World) (b : Nat) (C D : Int) (w' : World) : Prop :=
  w'.cell? ⟨b, 0, none⟩ = some (.int .u64 C) ∧ w'.cell? ⟨b, 1, none⟩ = some (.int .u64 D) ∧ b + 1 ≤ w'.heap.size ∧ Below w0.heap.size w0 w'
theorem NearS.drew {w0 : World} {b : Nat} {C D : Int} {w : World} (h : NearS w0 b C D w) : NearS w0 b C D w.drew := ⟨h.1, h.2.1, h.2.2.1, h.2.2.2.drew⟩
theorem NearS.below {w0 : World} {b : Nat} {C D : Int} {w w' : World} (h : NearS w0 b C D w) (k : Below w.heap.size w w') : NearS w0 b C D w' :=
  ⟨by rw [k.cell (p := ⟨b, 0, none⟩) (by have := h.2.2.1; simp; omega)]; exact h.1,
   by rw [k.cell (p := ⟨b, 1, none⟩) (by have := h.2.2.1; simp; omega)]; exact h.2.1,
   Nat.le_trans h.2.2.1 k.size, h.2.2.2.trans (k.mono h.2.2.2.size)⟩
theorem NearS.start {w w1 : World} (hb1 : Below w.heap.size w w1) (C D : Int) (t : TypeId) : NearS w w1.heap.size C D (w1.alloc (.cells #[.int .u64 C, .int .u64 D] t)) :=
  ⟨by simp [go_sem], by simp [go_sem], by simp, hb1.alloc hb1.size _⟩
theorem NearS.out {w0 : World} {b : Nat} {C D : Int} {w : World} (h : NearS w0 b C D w) : Below w0.heap.size w0 w := h.2.2.2

set_option maxHeartbeats 4000000 in
theorem nb_10 (s S H L q r R : Int) (u : Nat) (w : World) (hu : u ≤ 63)
    (HZ : Hid (∀ W : World, Calls Try.prog 38 #[.int .u64 s] W fun e w' => e = .returned (.int .i64 u) ∧ w' = W))
    (e1 : IntKind.u64.wrap (s * 2 ^ u) = S) (e2 : S / 35184372088832 = H) (e3 : IntKind.u64.wrap (S * 524288) = L)
    (HD : Hid (∀ W : World, Calls Try.prog 39 #[.int .u64 H, .int .u64 L, .int .u64 1000000] W fun e w' => e = .returned (.tuple #[.int .u64 q, .int .u64 r]) ∧ Below W.heap.size W w'))
    (HL : Hid (∀ W : World, Calls Try.prog 40 #[.int .u64 q] W fun e w' => e = .returned (.int .i64 63) ∧ w' = W))
    (q1 q2 : Int) (e4 : bits BinOp.and IntKind.u64 q 1023 = q1) (e5 : q / 1024 = q2)
    (HN : Hid (∀ W : World, Calls Try.prog 36 #[.int .u64 q2, .agg #[.int .u64 q1, .int .u64 r], .agg #[.int .u64 512, .int .u64 0]] W fun e w' => e = .returned (.int .u64 R) ∧ Below W.heap.size W w'))
    (r0 : 4503599627370496 ≤ R) (r1 : R ≤ 9007199254740992) :
    Calls Try.prog 28 #[.int .u64 s] w fun e w' => e = .returned (.int .u64 ((1066 - u) * 4503599627370496 + (R - 4503599627370496))) ∧ Below w.heap.size w w' := by
  have w9 : IntKind.i64.wrap 9 = 9 := by rw [IntKind.wrap_i64]; rfl
  have w512 : IntKind.u64.wrap 512 = 512 := by rw [IntKind.wrap_u64]; rfl
  go_enter Try.func28, Try.ntmps28
  go_wp2_with (first | (go_at_call 38; refine (HZ.out _).mono ?_; rintro e wz ⟨rfl, hz⟩; subst wz) | (go_at_call 39; refine (HD.out _).mono ?_; rintro e w1 ⟨rfl, hb1⟩) | (go_at_call 40; refine (HL.out _).mono ?_; rintro e wz ⟨rfl, hz⟩; subst wz))
  have hS := NearS.start hb1 q1 r 59
  go_region_held3 (fun w' => w'.cell? ⟨w1.heap.size, 0, none⟩ = some (.int .u64 q1) ∧ w'.cell? ⟨w1.heap.size, 1, none⟩ = some (.int .u64 r) ∧ w1.heap.size + 1 ≤ w'.heap.size ∧ Below w.heap.size w w') (first | assumption | exact NearS.drew (by assumption)) (first | (go_at_call 36; refine (HN.out _).mono ?_; rintro e w3 ⟨rfl, hb3⟩; have hs3 := NearS.below (by assumption) hb3))
  all_goals go_wp2
  all_goals go_ret
  all_goals exact ⟨by simp; omega, NearS.out (by assumption)⟩
set_option maxHeartbeats 4000000 in
theorem nb_11 (s S H L q r R : Int) (u : Nat) (w : World) (hu : u ≤ 63)
    (HZ : Hid (∀ W : World, Calls Try.prog 38 #[.int .u64 s] W fun e w' => e = .returned (.int .i64 u) ∧ w' = W))
    (e1 : IntKind.u64.wrap (s * 2 ^ u) = S) (e2 : S / 35184372088832 = H) (e3 : IntKind.u64.wrap (S * 524288) = L)
    (HD : Hid (∀ W : World, Calls Try.prog 39 #[.int .u64 H, .int .u64 L, .int .u64 1000000] W fun e w' => e = .returned (.tuple #[.int .u64 q, .int .u64 r]) ∧ Below W.heap.size W w'))
    (HL : Hid (∀ W : World, Calls Try.prog 40 #[.int .u64 q] W fun e w' => e = .returned (.int .i64 64) ∧ w' = W))
    (q1 q2 : Int) (e4 : bits BinOp.and IntKind.u64 q 2047 = q1) (e5 : q / 2048 = q2)
    (HN : Hid (∀ W : World, Calls Try.prog 36 #[.int .u64 q2, .agg #[.int .u64 q1, .int .u64 r], .agg #[.int .u64 1024, .int .u64 0]] W fun e w' => e = .returned (.int .u64 R) ∧ Below W.heap.size W w'))
    (r0 : 4503599627370496 ≤ R) (r1 : R ≤ 9007199254740992) :
    Calls Try.prog 28 #[.int .u64 s] w fun e w' => e = .returned (.int .u64 ((1067 - u) * 4503599627370496 + (R - 4503599627370496))) ∧ Below w.heap.size w w' := by
  have w9 : IntKind.i64.wrap 10 = 10 := by rw [IntKind.wrap_i64]; rfl
  have w512 : IntKind.u64.wrap 1024 = 1024 := by rw [IntKind.wrap_u64]; rfl
  go_enter Try.func28, Try.ntmps28
  go_wp2_with (first | (go_at_call 38; refine (HZ.out _).mono ?_; rintro e wz ⟨rfl, hz⟩; subst wz) | (go_at_call 39; refine (HD.out _).mono ?_; rintro e w1 ⟨rfl, hb1⟩) | (go_at_call 40; refine (HL.out _).mono ?_; rintro e wz ⟨rfl, hz⟩; subst wz))
  have hS := NearS.start hb1 q1 r 59
  go_region_held3 (fun w' => w'.cell? ⟨w1.heap.size, 0, none⟩ = some (.int .u64 q1) ∧ w'.cell? ⟨w1.heap.size, 1, none⟩ = some (.int .u64 r) ∧ w1.heap.size + 1 ≤ w'.heap.size ∧ Below w.heap.size w w') (first | assumption | exact NearS.drew (by assumption)) (first | (go_at_call 36; refine (HN.out _).mono ?_; rintro e w3 ⟨rfl, hb3⟩; have hs3 := NearS.below (by assumption) hb3))
  all_goals go_wp2
  all_goals go_ret
  all_goals exact ⟨by simp; omega, NearS.out (by assumption)⟩
end Go.Proofs.Ytnjnbhfpgoondaa
