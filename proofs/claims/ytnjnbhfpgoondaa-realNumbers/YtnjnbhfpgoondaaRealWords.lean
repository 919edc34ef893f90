/-
  The contracts of real's functions on numbers of two words: twoTo, nearest, divided.
-/
import Derived.Test.YtnjnbhfpgoondaaRealApart
import Derived.Deep.RegionHeld3
namespace Go.Proofs.Ytnjnbhfpgoondaa
open Go.RowKit

set_option maxHeartbeats 400000 in
theorem twoTo_hi (j : Nat) (w : World) (h : j < 64) (V : Int) (e : IntKind.u64.wrap (2 ^ j) = V) :
    Calls Try.prog 37 #[.int .i64 (j + 64)] w fun e w' => e = .returned (.agg #[.int .u64 V, .int .u64 0]) ∧ Below w.heap.size w w' := by
  go_enter Try.func37, Try.ntmps37
  go_wp2
  exact bodyPost_ret (v := .agg #[.int .u64 V, .int .u64 0]) (by simp [results, Try.results37, go_sem]) rfl ⟨rfl, (Below.refl _ _).alloc (Nat.le_refl _) _⟩
set_option maxHeartbeats 400000 in
theorem twoTo_lo (j : Nat) (w : World) (h : j < 64) (V : Int) (e : IntKind.u64.wrap (2 ^ j) = V) :
    Calls Try.prog 37 #[.int .i64 j] w fun e w' => e = .returned (.agg #[.int .u64 0, .int .u64 V]) ∧ Below w.heap.size w w' := by
  go_enter Try.func37, Try.ntmps37
  go_wp2
  exact bodyPost_ret (v := .agg #[.int .u64 0, .int .u64 V]) (by simp [results, Try.results37, go_sem]) rfl ⟨rfl, (Below.refl _ _).alloc (Nat.le_refl _) _⟩

theorem words_eq (a b c d : Int) (w : World) : (Op.equalIn 10000 59 (.agg #[.int .u64 a, .int .u64 b]) (.agg #[.int .u64 c, .int .u64 d])).run Try.prog w = .ok (a == c && b == d) w := by
  have hu := Try.underlying22
  have hsz := Try.sizeOf22
  have e1 := fun (x y : Int) (w : World) => run_equalIn_int (P := Try.prog) w 9998 22 .u64 .u64 x y hu
  show (Op.equalIn (9999 + 1) 59 (.agg #[.int .u64 a, .int .u64 b]) (.agg #[.int .u64 c, .int .u64 d])).run Try.prog w = _
  rw [Op.equalIn]
  simp only [Sem.run_bind, run_underlying Try.underlying59, Result.andThen_ok, hsz, Std.Legacy.Range.forIn_eq_forIn_range', Std.Legacy.Range.size, Nat.sub_zero, Nat.add_sub_cancel, Nat.div_one]
  have p0 : ∀ (x y : Int) (w : World), (part 22 #[.int .u64 x, .int .u64 y] (0 * 1)).run Try.prog w = .ok (.int .u64 x) w := by
    intro x y w
    simp [part, isAgg, run_underlying hu]
  have p1 : ∀ (x y : Int) (w : World), (part 22 #[.int .u64 x, .int .u64 y] (1 * 1)).run Try.prog w = .ok (.int .u64 y) w := by
    intro x y w
    simp [part, isAgg, run_underlying hu]
  rw [show List.range' 0 2 1 = [0, 1] from rfl]
  simp only [List.forIn_cons, List.forIn_nil, Sem.run_bind, p0, e1, Result.andThen_ok]
  cases h1 : (a == c)
  · simp
  · cases h2 : (b == d)
    · simp [p1, e1, h2]
    · simp [p1, e1, h2]
/-- What nearest makes of a quotient, by what is left and the half. -/
def nearR (q l h : Int) : Int := if l = h then q + q % 2 else if h < l then q + 1 else q
set_option maxHeartbeats 400000 in
theorem nearW_any (q l1 l0 h1 h0 : Int) (w : World) (q0 : 0 ≤ q) (q1 : q < 9223372036854775808) (a0 : 0 ≤ l0) (a1 : l0 < 18446744073709551616) (b0 : 0 ≤ h0) (b1 : h0 < 18446744073709551616) :
    Calls Try.prog 36 #[.int .u64 q, .agg #[.int .u64 l1, .int .u64 l0], .agg #[.int .u64 h1, .int .u64 h0]] w fun e w' => e = .returned (.int .u64 (nearR q (l1 * 18446744073709551616 + l0) (h1 * 18446744073709551616 + h0))) ∧ Below w.heap.size w w' := by
  have hwe := words_eq
  unfold nearR
  by_cases c1 : l1 = h1
  · subst c1
    by_cases c2 : l0 = h0
    · subst c2
      rw [if_pos rfl]
      go_enter Try.func36, Try.ntmps36
      go_wp2
      go_ret
      exact ⟨rfl, below2 _ _ _⟩
    · rw [if_neg (by omega)]
      have t2 : (l0 == h0) = false := by simpa using c2
      by_cases c3 : h0 < l0
      · rw [if_pos (by omega)]
        go_enter Try.func36, Try.ntmps36
        go_wp2
        go_ret
        exact ⟨rfl, below2 _ _ _⟩
      · rw [if_neg (by omega)]
        go_enter Try.func36, Try.ntmps36
        go_wp2
        go_ret
        exact ⟨rfl, below2 _ _ _⟩
  · rw [if_neg (by omega)]
    have t1 : (l1 == h1) = false := by simpa using c1
    by_cases c3 : h1 < l1
    · rw [if_pos (by omega)]
      go_enter Try.func36, Try.ntmps36
      go_wp2
      go_ret
      exact ⟨rfl, below2 _ _ _⟩
    · rw [if_neg (by omega)]
      go_enter Try.func36, Try.ntmps36
      go_wp2
      go_ret
      exact ⟨rfl, below2 _ _ _⟩

set_option maxHeartbeats 4000000 in
theorem divided_hi (hi lo : Int) (j : Nat) (w : World) (h : j < 64) (Q P M L : Int) (e1 : hi / 2 ^ j = Q) (e2 : IntKind.u64.wrap (2 ^ j) = P) (e3 : IntKind.u64.wrap (P - 1) = M) (e4 : bits BinOp.and IntKind.u64 hi M = L) :
    Calls Try.prog 35 #[.agg #[.int .u64 hi, .int .u64 lo], .int .i64 (j + 64)] w fun e w' => e = .returned (.tuple #[.agg #[.int .u64 0, .int .u64 Q], .agg #[.int .u64 L, .int .u64 lo]]) ∧ Below w.heap.size w w' := by
  go_enter Try.func35, Try.ntmps35
  go_wp2
  go_region_held3 (fun w' => w'.cell? ⟨w.heap.size, 0, none⟩ = some (.int .u64 hi) ∧ w'.cell? ⟨w.heap.size, 1, none⟩ = some (.int .u64 lo)) (go_keep) (fail)
  all_goals go_wp2
  all_goals exact bodyPost_ret (v := .tuple #[.agg #[.int .u64 0, .int .u64 Q], .agg #[.int .u64 L, .int .u64 lo]]) (by simp [results, Try.results35, go_sem]) rfl ⟨rfl, (below2 _ _ _).trans (Below.drew (((Below.refl _ _).alloc (by simp; omega) _)))⟩
set_option maxHeartbeats 4000000 in
theorem divided_lo (hi lo : Int) (j : Nat) (w : World) (h : j < 64) (h1 : 1 ≤ j) (c : Nat) (hc : j + c = 64) (A S T B P M L : Int) (e1 : hi / 2 ^ j = A) (e2 : IntKind.u64.wrap (hi * 2 ^ c) = S) (e3 : lo / 2 ^ j = T) (e4 : bits BinOp.or IntKind.u64 S T = B) (e5 : IntKind.u64.wrap (2 ^ j) = P) (e6 : IntKind.u64.wrap (P - 1) = M) (e7 : bits BinOp.and IntKind.u64 lo M = L) :
    Calls Try.prog 35 #[.agg #[.int .u64 hi, .int .u64 lo], .int .i64 j] w fun e w' => e = .returned (.tuple #[.agg #[.int .u64 A, .int .u64 B], .agg #[.int .u64 0, .int .u64 L]]) ∧ Below w.heap.size w w' := by
  have e0 : IntKind.i64.wrap (64 - (j : Int)) = (c : Int) := by rw [IntKind.wrap_i64]; omega
  have c1 : c < 64 := by omega
  have HC : Hid (j + c = 64) := hc
  clear hc
  go_enter Try.func35, Try.ntmps35
  go_wp2
  go_region_held3 (fun w' => w'.cell? ⟨w.heap.size, 0, none⟩ = some (.int .u64 hi) ∧ w'.cell? ⟨w.heap.size, 1, none⟩ = some (.int .u64 lo)) (go_keep) (fail)
  all_goals go_wp2
  all_goals exact bodyPost_ret (v := .tuple #[.agg #[.int .u64 A, .int .u64 B], .agg #[.int .u64 0, .int .u64 L]]) (by simp [results, Try.results35, go_sem]) rfl ⟨rfl, (below2 _ _ _).trans (Below.drew (((Below.refl _ _).alloc (by simp; omega) _)))⟩
end Go.Proofs.Ytnjnbhfpgoondaa
