/-
  The contracts of num's inner functions: size, signed and its closure, nearest, quotient.
-/
import Derived.Test.YtjhldifilfkebaaDoorSmall
import Derived.Deep.QuietTactic
import Derived.BigQuiet
namespace Go.Proofs.YtjhldifilfkebaaDoor
open Go.RowKit

/-- A number without its sign. -/
def absI (n : Int) : Int := if n < 0 then -n else n
theorem absI_neg {n : Int} (h : n < 0) : absI n = -n := by simp [absI, h]
theorem absI_pos {n : Int} (h : 0 ≤ n) : absI n = n := by unfold absI; rw [if_neg (by omega)]
theorem absI_nn (n : Int) : 0 ≤ absI n := by unfold absI; split <;> omega
theorem absI_le {n B : Int} (h1 : -B ≤ n) (h2 : n ≤ B) : absI n ≤ B := by unfold absI; split <;> omega

set_option maxHeartbeats 400000 in
theorem size_any (n : Int) (w : World) (h1 : -1000000000000000000 ≤ n) (h2 : n ≤ 1000000000000000000) :
    Calls Tryd.prog 34 #[.int .i64 n] w fun e w' => e = .returned (.int .u64 (absI n)) ∧ w' = w := by
  by_cases h : n < 0
  · have e := absI_neg h
    go_enter Tryd.func34, Tryd.ntmps34
    go_wp2
    go_ret
    exact ⟨by simp [e], rfl⟩
  · have e := absI_pos (n := n) (by omega)
    go_enter Tryd.func34, Tryd.ntmps34
    go_wp2
    go_ret
    exact ⟨by simp, rfl⟩

set_option maxHeartbeats 400000 in
theorem signed_any (b : Bool) (w : World) :
    Calls Tryd.prog 35 #[.bool b] w fun e w' => e = .returned (.func (.func 54) #[] #[.pointer (some ⟨w.heap.size, 0, none⟩)]) ∧ w' = w.alloc (.cells #[.bool b] 4) := by
  have hmf : ∀ (fn : Fn) (first cap : Array Value) (w : World), (Instr.makeFunc fn first cap).run Tryd.prog w = .ok (.func fn first cap) w := fun _ _ _ _ => rfl
  go_enter Tryd.func35, Tryd.ntmps35
  go_wp2
  go_ret
  exact ⟨rfl, rfl⟩

/-- The whole number that is nearest to N / d, of two the even one. -/
def halfEven (N d : Int) : Int := if d < 2 * (N % d) ∨ (2 * (N % d) = d ∧ N / d % 2 = 1) then N / d + 1 else N / d
/-- .. or the error that it goes too far. -/
def nearN (N d : Int) : Int × Int := if 1000000000000000000 < N / d then (0, 3) else (halfEven N d, 0)

/-- What is said of Div64 at one place. -/
def DivAt (hi lo d : Int) : Prop := ∀ w : World, Calls Tryd.prog 62 #[.int .u64 hi, .int .u64 lo, .int .u64 d] w fun e w' => e = .returned (.tuple #[.int .u64 ((hi * 18446744073709551616 + lo) / d), .int .u64 ((hi * 18446744073709551616 + lo) % d)]) ∧ Below w.heap.size w w'

set_option maxHeartbeats 400000 in
theorem nearest_over (hi lo d : Int) (w : World) (h : d ≤ hi) :
    Calls Tryd.prog 52 #[.agg #[.int .u64 hi, .int .u64 lo], .int .u64 d] w fun e w' => e = .returned (.tuple #[.int .u64 0, .int .i64 3]) ∧ Below w.heap.size w w' := by
  go_enter Tryd.func52, Tryd.ntmps52
  go_wp2
  go_ret2
  exact ⟨rfl, (Below.refl _ _).alloc (Nat.le_refl _) _⟩

set_option maxHeartbeats 400000 in
theorem nearest_big (hi lo d q r : Int) (w : World) (h : hi < d) (hd : DivAt hi lo d) (hq : (hi * 18446744073709551616 + lo) / d = q) (hr : (hi * 18446744073709551616 + lo) % d = r) (hb : 1000000000000000000 < q) :
    Calls Tryd.prog 52 #[.agg #[.int .u64 hi, .int .u64 lo], .int .u64 d] w fun e w' => e = .returned (.tuple #[.int .u64 0, .int .i64 3]) ∧ Below w.heap.size w w' := by
  unfold DivAt at hd
  rw [hq, hr] at hd
  have HD : Hid (∀ w : World, Calls Tryd.prog 62 #[.int .u64 hi, .int .u64 lo, .int .u64 d] w fun e w' => e = .returned (.tuple #[.int .u64 q, .int .u64 r]) ∧ Below w.heap.size w w') := hd
  clear hd hq hr
  go_enter Tryd.func52, Tryd.ntmps52
  go_wp2_with (go_at_call 62; refine (HD.out _).mono ?_; rintro e w1 ⟨rfl, hb1⟩)
  go_ret2
  exact ⟨rfl, ((Below.refl _ _).alloc (Nat.le_refl _) _).trans (hb1.mono (by simp))⟩

set_option maxHeartbeats 400000 in
theorem nearest_fit (hi lo d q r : Int) (w : World) (h : hi < d) (hd : DivAt hi lo d) (hq : (hi * 18446744073709551616 + lo) / d = q) (hr : (hi * 18446744073709551616 + lo) % d = r) (h0 : 0 ≤ q) (hb : q ≤ 1000000000000000000) (h3 : 0 ≤ r) (h4 : r < d) (h5 : d ≤ 1000000000000000000) :
    Calls Tryd.prog 52 #[.agg #[.int .u64 hi, .int .u64 lo], .int .u64 d] w fun e w' => e = .returned (.tuple #[.int .u64 (if d < 2 * r ∨ (2 * r = d ∧ q % 2 = 1) then q + 1 else q), .int .i64 0]) ∧ Below w.heap.size w w' := by
  unfold DivAt at hd
  rw [hq, hr] at hd
  have HD : Hid (∀ w : World, Calls Tryd.prog 62 #[.int .u64 hi, .int .u64 lo, .int .u64 d] w fun e w' => e = .returned (.tuple #[.int .u64 q, .int .u64 r]) ∧ Below w.heap.size w w') := hd
  clear hd hq hr
  by_cases c1 : d < 2 * r
  · rw [if_pos (Or.inl c1)]
    go_enter Tryd.func52, Tryd.ntmps52
    go_wp2_with (go_at_call 62; refine (HD.out _).mono ?_; rintro e w1 ⟨rfl, hb1⟩)
    go_ret2
    exact ⟨rfl, ((Below.refl _ _).alloc (Nat.le_refl _) _).trans (hb1.mono (by simp))⟩
  · by_cases c2 : 2 * r = d
    · by_cases c3 : q % 2 = 1
      · rw [if_pos (Or.inr ⟨c2, c3⟩)]
        have t2 : (2 * r == d) = true := beq_iff_eq.2 c2
        have t3 : (q % 2 == 1) = true := beq_iff_eq.2 c3
        have C2 : Hid (2 * r = d) := c2
        clear c2 c3
        go_enter Tryd.func52, Tryd.ntmps52
        go_wp2_with (go_at_call 62; refine (HD.out _).mono ?_; rintro e w1 ⟨rfl, hb1⟩)
        go_ret2
        exact ⟨rfl, ((Below.refl _ _).alloc (Nat.le_refl _) _).trans (hb1.mono (by simp))⟩
      · rw [if_neg (by omega)]
        have t2 : (2 * r == d) = true := beq_iff_eq.2 c2
        have t3 : (q % 2 == 1) = false := beq_eq_false_iff_ne.2 c3
        have C2 : Hid (2 * r = d) := c2
        clear c2 c3
        go_enter Tryd.func52, Tryd.ntmps52
        go_wp2_with (go_at_call 62; refine (HD.out _).mono ?_; rintro e w1 ⟨rfl, hb1⟩)
        go_ret2
        exact ⟨rfl, ((Below.refl _ _).alloc (Nat.le_refl _) _).trans (hb1.mono (by simp))⟩
    · rw [if_neg (by omega)]
      have t2 : (2 * r == d) = false := beq_eq_false_iff_ne.2 c2
      go_enter Tryd.func52, Tryd.ntmps52
      go_wp2_with (go_at_call 62; refine (HD.out _).mono ?_; rintro e w1 ⟨rfl, hb1⟩)
      go_ret2
      exact ⟨rfl, ((Below.refl _ _).alloc (Nat.le_refl _) _).trans (hb1.mono (by simp))⟩
end Go.Proofs.YtjhldifilfkebaaDoor
