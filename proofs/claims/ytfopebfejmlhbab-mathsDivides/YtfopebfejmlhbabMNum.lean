/-
  Out of Small, Near, Mul, Arith, MulDiv, Round, RefRound, RefRound2, what is asked for (laid by pack9.py).
-/
import Derived.Test.YtfopebfejmlhbabProg
import Derived.Test.YtfopebfejmlhbabShelf
import Derived.BigQuiet
import Derived.Deep.QuietTactic
import Derived.Deep.RegionWith
import Derived.Laws.EntriesVeiled
import Derived.WalkKit
import Derived.WalkLawsBesides
import Derived.WalkSpells
namespace Go.Proofs.Ytfopebfejmlhbab
section
open Go.RowKit
theorem hide {p : Prop} (h : p) : Hid p := h
/-- Does a number fit? -/
def fitsB (n : Int) : Bool := decide (-1000000000000000000 ≤ n) && decide (n ≤ 1000000000000000000)
theorem fitsB_true {n : Int} (h : fitsB n = true) : -1000000000000000000 ≤ n ∧ n ≤ 1000000000000000000 := by
  unfold fitsB at h; simp at h; exact h
theorem fitsB_of {n : Int} (h1 : -1000000000000000000 ≤ n) (h2 : n ≤ 1000000000000000000) : fitsB n = true := by
  unfold fitsB; simp; exact ⟨h1, h2⟩
theorem fitsB_not {n : Int} (h : n < -1000000000000000000 ∨ 1000000000000000000 < n) : fitsB n = false := by
  unfold fitsB; simp; omega
/-- A result, if it fits. -/
def told (n : Int) : Int × Int := if fitsB n then (n, 0) else (0, 3)
set_option maxHeartbeats 400000 in
theorem fits_any (n : Int) (w : World) :
    Calls Try.prog 11 #[.int .i64 n] w fun e w' => e = .returned (.bool (fitsB n)) ∧ w' = w := by
  by_cases h1 : -1000000000000000000 ≤ n
  · by_cases h2 : n ≤ 1000000000000000000
    · go_enter Try.func11, Try.ntmps11
      go_wp2
      go_ret
      exact ⟨by rw [fitsB_of (by omega) (by omega)]; rfl, rfl⟩
    · go_enter Try.func11, Try.ntmps11
      go_wp2
      go_ret
      exact ⟨by rw [fitsB_not (by omega)]; rfl, rfl⟩
  · go_enter Try.func11, Try.ntmps11
    go_wp2
    go_ret
    exact ⟨by rw [fitsB_not (by omega)]; rfl, rfl⟩
set_option maxHeartbeats 400000 in
theorem fitted_any (n : Int) (w : World) :
    Calls Try.prog 59 #[.int .i64 n] w fun e w' => e = .returned (.tuple #[.int .i64 (told n).1, .int .i64 (told n).2]) ∧ w' = w := by
  cases h : fitsB n
  all_goals
    go_enter Try.func59, Try.ntmps59
    go_wp2_with (go_at_call 11; refine (fits_any _ _).mono ?_; rintro e w' ⟨rfl, rfl⟩)
    go_ret2
    exact ⟨by simp [told, h], rfl⟩
end
section
open Go.RowKit
/-- A number without its sign. -/
def absI (n : Int) : Int := if n < 0 then -n else n
theorem absI_neg {n : Int} (h : n < 0) : absI n = -n := by simp [absI, h]
theorem absI_pos {n : Int} (h : 0 ≤ n) : absI n = n := by unfold absI; rw [if_neg (by omega)]
theorem absI_nn (n : Int) : 0 ≤ absI n := by unfold absI; split <;> omega
theorem absI_le {n B : Int} (h1 : -B ≤ n) (h2 : n ≤ B) : absI n ≤ B := by unfold absI; split <;> omega
set_option maxHeartbeats 400000 in
theorem size_any (n : Int) (w : World) (h1 : -1000000000000000000 ≤ n) (h2 : n ≤ 1000000000000000000) :
    Calls Try.prog 54 #[.int .i64 n] w fun e w' => e = .returned (.int .u64 (absI n)) ∧ w' = w := by
  by_cases h : n < 0
  · have e := absI_neg h
    go_enter Try.func54, Try.ntmps54
    go_wp2
    go_ret
    exact ⟨by simp [e], rfl⟩
  · have e := absI_pos (n := n) (by omega)
    go_enter Try.func54, Try.ntmps54
    go_wp2
    go_ret
    exact ⟨by simp, rfl⟩
set_option maxHeartbeats 400000 in
theorem signed_any (b : Bool) (w : World) :
    Calls Try.prog 55 #[.bool b] w fun e w' => e = .returned (.func (.func 60) #[] #[.pointer (some ⟨w.heap.size, 0, none⟩)]) ∧ w' = w.alloc (.cells #[.bool b] 4) := by
  have hmf : ∀ (fn : Fn) (first cap : Array Value) (w : World), (Instr.makeFunc fn first cap).run Try.prog w = .ok (.func fn first cap) w := fun _ _ _ _ => rfl
  go_enter Try.func55, Try.ntmps55
  go_wp2
  go_ret
  exact ⟨rfl, rfl⟩
/-- The whole number that is nearest to N / d, of two the even one. -/
def halfEven (N d : Int) : Int := if d < 2 * (N % d) ∨ (2 * (N % d) = d ∧ N / d % 2 = 1) then N / d + 1 else N / d
/-- .. or the error that it goes too far. -/
def nearN (N d : Int) : Int × Int := if 1000000000000000000 < N / d then (0, 3) else (halfEven N d, 0)
/-- What is said of Div64 at one place. -/
def DivAt (hi lo d : Int) : Prop := ∀ w : World, Calls Try.prog 61 #[.int .u64 hi, .int .u64 lo, .int .u64 d] w fun e w' => e = .returned (.tuple #[.int .u64 ((hi * 18446744073709551616 + lo) / d), .int .u64 ((hi * 18446744073709551616 + lo) % d)]) ∧ Below w.heap.size w w'
set_option maxHeartbeats 400000 in
theorem nearest_over (hi lo d : Int) (w : World) (h : d ≤ hi) :
    Calls Try.prog 58 #[.agg #[.int .u64 hi, .int .u64 lo], .int .u64 d] w fun e w' => e = .returned (.tuple #[.int .u64 0, .int .i64 3]) ∧ Below w.heap.size w w' := by
  go_enter Try.func58, Try.ntmps58
  go_wp2
  go_ret2
  exact ⟨rfl, (Below.refl _ _).alloc (Nat.le_refl _) _⟩
set_option maxHeartbeats 400000 in
theorem nearest_big (hi lo d q r : Int) (w : World) (h : hi < d) (hd : DivAt hi lo d) (hq : (hi * 18446744073709551616 + lo) / d = q) (hr : (hi * 18446744073709551616 + lo) % d = r) (hb : 1000000000000000000 < q) :
    Calls Try.prog 58 #[.agg #[.int .u64 hi, .int .u64 lo], .int .u64 d] w fun e w' => e = .returned (.tuple #[.int .u64 0, .int .i64 3]) ∧ Below w.heap.size w w' := by
  unfold DivAt at hd
  rw [hq, hr] at hd
  have HD : Hid (∀ w : World, Calls Try.prog 61 #[.int .u64 hi, .int .u64 lo, .int .u64 d] w fun e w' => e = .returned (.tuple #[.int .u64 q, .int .u64 r]) ∧ Below w.heap.size w w') := hd
  clear hd hq hr
  go_enter Try.func58, Try.ntmps58
  go_wp2_with (go_at_call 61; refine (HD.out _).mono ?_; rintro e w1 ⟨rfl, hb1⟩)
  go_ret2
  exact ⟨rfl, ((Below.refl _ _).alloc (Nat.le_refl _) _).trans (hb1.mono (by simp))⟩
set_option maxHeartbeats 400000 in
theorem nearest_fit (hi lo d q r : Int) (w : World) (h : hi < d) (hd : DivAt hi lo d) (hq : (hi * 18446744073709551616 + lo) / d = q) (hr : (hi * 18446744073709551616 + lo) % d = r) (h0 : 0 ≤ q) (hb : q ≤ 1000000000000000000) (h3 : 0 ≤ r) (h4 : r < d) (h5 : d ≤ 1000000000000000000) :
    Calls Try.prog 58 #[.agg #[.int .u64 hi, .int .u64 lo], .int .u64 d] w fun e w' => e = .returned (.tuple #[.int .u64 (if d < 2 * r ∨ (2 * r = d ∧ q % 2 = 1) then q + 1 else q), .int .i64 0]) ∧ Below w.heap.size w w' := by
  unfold DivAt at hd
  rw [hq, hr] at hd
  have HD : Hid (∀ w : World, Calls Try.prog 61 #[.int .u64 hi, .int .u64 lo, .int .u64 d] w fun e w' => e = .returned (.tuple #[.int .u64 q, .int .u64 r]) ∧ Below w.heap.size w w') := hd
  clear hd hq hr
  by_cases c1 : d < 2 * r
  · rw [if_pos (Or.inl c1)]
    go_enter Try.func58, Try.ntmps58
    go_wp2_with (go_at_call 61; refine (HD.out _).mono ?_; rintro e w1 ⟨rfl, hb1⟩)
    go_ret2
    exact ⟨rfl, ((Below.refl _ _).alloc (Nat.le_refl _) _).trans (hb1.mono (by simp))⟩
  · by_cases c2 : 2 * r = d
    · by_cases c3 : q % 2 = 1
      · rw [if_pos (Or.inr ⟨c2, c3⟩)]
        have t2 : (2 * r == d) = true := beq_iff_eq.2 c2
        have t3 : (q % 2 == 1) = true := beq_iff_eq.2 c3
        have C2 : Hid (2 * r = d) := c2
        clear c2 c3
        go_enter Try.func58, Try.ntmps58
        go_wp2_with (go_at_call 61; refine (HD.out _).mono ?_; rintro e w1 ⟨rfl, hb1⟩)
        go_ret2
        exact ⟨rfl, ((Below.refl _ _).alloc (Nat.le_refl _) _).trans (hb1.mono (by simp))⟩
      · rw [if_neg (by omega)]
        have t2 : (2 * r == d) = true := beq_iff_eq.2 c2
        have t3 : (q % 2 == 1) = false := beq_eq_false_iff_ne.2 c3
        have C2 : Hid (2 * r = d) := c2
        clear c2 c3
        go_enter Try.func58, Try.ntmps58
        go_wp2_with (go_at_call 61; refine (HD.out _).mono ?_; rintro e w1 ⟨rfl, hb1⟩)
        go_ret2
        exact ⟨rfl, ((Below.refl _ _).alloc (Nat.le_refl _) _).trans (hb1.mono (by simp))⟩
    · rw [if_neg (by omega)]
      have t2 : (2 * r == d) = false := beq_eq_false_iff_ne.2 c2
      go_enter Try.func58, Try.ntmps58
      go_wp2_with (go_at_call 61; refine (HD.out _).mono ?_; rintro e w1 ⟨rfl, hb1⟩)
      go_ret2
      exact ⟨rfl, ((Below.refl _ _).alloc (Nat.le_refl _) _).trans (hb1.mono (by simp))⟩
end
section
open Go.RowKit
theorem mul64_any (x y : Int) (w : World) (hx0 : 0 ≤ x) (hx : x < 18446744073709551616) (hy0 : 0 ≤ y) (hy : y < 18446744073709551616) :
    Calls Try.prog 50 #[.int .u64 x, .int .u64 y] w fun e w' => e = .returned (.tuple #[.int .u64 (x * y / 18446744073709551616), .int .u64 (x * y % 18446744073709551616)]) ∧ w' = w := by
  obtain ⟨m, rfl⟩ := Int.eq_ofNat_of_zero_le hx0
  obtain ⟨n, rfl⟩ := Int.eq_ofNat_of_zero_le hy0
  have := Try.bits_Mul64 m n (by omega) (by omega) w
  simpa using this
set_option maxHeartbeats 400000 in
theorem product_any (x y : Int) (w : World) (hx0 : 0 ≤ x) (hx : x < 18446744073709551616) (hy0 : 0 ≤ y) (hy : y < 18446744073709551616) :
    Calls Try.prog 53 #[.int .u64 x, .int .u64 y] w fun e w' => e = .returned (.agg #[.int .u64 (x * y / 18446744073709551616), .int .u64 (x * y % 18446744073709551616)]) ∧ Below w.heap.size w w' := by
  have HM : Hid (∀ w : World, Calls Try.prog 50 #[.int .u64 x, .int .u64 y] w fun e w' => e = .returned (.tuple #[.int .u64 (x * y / 18446744073709551616), .int .u64 (x * y % 18446744073709551616)]) ∧ w' = w) := fun w => mul64_any x y w hx0 hx hy0 hy
  generalize x * y / 18446744073709551616 = hi at *
  generalize x * y % 18446744073709551616 = lo at *
  clear hx0 hx hy0 hy
  go_enter Try.func53, Try.ntmps53
  go_wp2_with (go_at_call 50; refine (HM.out _).mono ?_; rintro e w1 ⟨rfl, rfl⟩)
  exact bodyPost_ret (v := .agg #[.int .u64 hi, .int .u64 lo]) (by simp [results, Try.results53, go_sem]) rfl ⟨rfl, (Below.refl _ _).alloc (Nat.le_refl _) _⟩
theorem div_big {hi lo d : Int} (hd : 0 < d) (hlo : 0 ≤ lo) (h : d ≤ hi) : 1000000000000000000 < (hi * 18446744073709551616 + lo) / d := by
  have h2 : (18446744073709551616 : Int) ≤ (hi * 18446744073709551616 + lo) / d := by
    rw [Int.le_ediv_iff_mul_le hd]
    have : 18446744073709551616 * d ≤ 18446744073709551616 * hi := Int.mul_le_mul_of_nonneg_left h (by omega)
    omega
  omega
theorem nearest_any (hi lo d : Int) (w : World) (h0 : 0 ≤ hi) (hlo : 0 ≤ lo) (hd0 : 0 < d) (hd1 : d ≤ 1000000000000000000) (hd : hi < d → DivAt hi lo d) :
    Calls Try.prog 58 #[.agg #[.int .u64 hi, .int .u64 lo], .int .u64 d] w fun e w' => e = .returned (.tuple #[.int .u64 (nearN (hi * 18446744073709551616 + lo) d).1, .int .i64 (nearN (hi * 18446744073709551616 + lo) d).2]) ∧ Below w.heap.size w w' := by
  by_cases h : d ≤ hi
  · rw [show nearN (hi * 18446744073709551616 + lo) d = (0, 3) from by unfold nearN; rw [if_pos (div_big hd0 hlo h)]]
    exact nearest_over hi lo d w h
  · by_cases hb : 1000000000000000000 < (hi * 18446744073709551616 + lo) / d
    · rw [show nearN (hi * 18446744073709551616 + lo) d = (0, 3) from by unfold nearN; rw [if_pos hb]]
      exact nearest_big hi lo d _ _ w (by omega) (hd (by omega)) rfl rfl hb
    · rw [show nearN (hi * 18446744073709551616 + lo) d = (halfEven (hi * 18446744073709551616 + lo) d, 0) from by unfold nearN; rw [if_neg hb]]
      unfold halfEven
      exact nearest_fit hi lo d _ _ w (by omega) (hd (by omega)) rfl rfl (Int.ediv_nonneg (by omega) (by omega)) (by omega) (Int.emod_nonneg _ (by omega)) (Int.emod_lt_of_pos _ hd0) hd1
/-- A number with a sign. -/
def put (neg : Bool) (q : Int) : Int := if neg then -q else q
/-- N / d, rounded, with a sign, or why not. -/
def quoR (N d : Int) (neg : Bool) : Int × Int := if (nearN N d).2 = 0 then told (put neg (nearN N d).1) else (0, (nearN N d).2)
theorem halfEven_le {N d : Int} (h : ¬ 1000000000000000000 < N / d) : halfEven N d ≤ 1000000000000000001 := by
  unfold halfEven; split <;> omega
theorem halfEven_nn {N d : Int} (hN : 0 ≤ N) (hd : 0 < d) : 0 ≤ halfEven N d := by
  have := Int.ediv_nonneg hN (Int.le_of_lt hd)
  unfold halfEven; split <;> omega
set_option maxHeartbeats 400000 in
theorem put_any (q : Int) (neg : Bool) (b : Nat) (w : World) (h0 : 0 ≤ q) (h1 : q ≤ 4000000000000000000) (hc : w.cell? ⟨b, 0, none⟩ = some (.bool neg)) :
    Calls Try.prog 60 #[.int .u64 q, .pointer (some ⟨b, 0, none⟩)] w fun e w' => e = .returned (.int .i64 (put neg q)) ∧ w' = w := by
  cases neg
  all_goals
    go_enter Try.func60, Try.ntmps60
    go_wp2
    go_ret
    exact ⟨by simp [put], rfl⟩
set_option maxHeartbeats 400000 in
theorem quotient_any (hi lo d : Int) (neg : Bool) (b : Nat) (w : World) (h0 : 0 ≤ hi) (hlo : 0 ≤ lo) (hd0 : 0 < d) (hd1 : d ≤ 1000000000000000000) (hd : hi < d → DivAt hi lo d) (hb : b < w.heap.size) (hc : w.cell? ⟨b, 0, none⟩ = some (.bool neg)) :
    Calls Try.prog 52 #[.agg #[.int .u64 hi, .int .u64 lo], .int .u64 d, .func (.func 60) #[] #[.pointer (some ⟨b, 0, none⟩)]] w fun e w' => e = .returned (.tuple #[.int .i64 (quoR (hi * 18446744073709551616 + lo) d neg).1, .int .i64 (quoR (hi * 18446744073709551616 + lo) d neg).2]) ∧ Below w.heap.size w w' := by
  have HN : Hid (∀ w : World, Calls Try.prog 58 #[.agg #[.int .u64 hi, .int .u64 lo], .int .u64 d] w fun e w' => e = .returned (.tuple #[.int .u64 (nearN (hi * 18446744073709551616 + lo) d).1, .int .i64 (nearN (hi * 18446744073709551616 + lo) d).2]) ∧ Below w.heap.size w w') := fun w => nearest_any hi lo d w h0 hlo hd0 hd1 hd
  have hN : 0 ≤ hi * 18446744073709551616 + lo := by omega
  generalize hi * 18446744073709551616 + lo = N at *
  clear hd h0 hlo
  unfold quoR
  by_cases hbig : 1000000000000000000 < N / d
  · have e1 : nearN N d = (0, 3) := by unfold nearN; rw [if_pos hbig]
    rw [e1] at HN ⊢
    clear e1 hbig hN hd0 hd1
    rw [if_neg (by decide)]
    go_enter Try.func52, Try.ntmps52
    go_wp2_with (go_at_call 58; refine (HN.out _).mono ?_; rintro e w1 ⟨rfl, hb1⟩)
    go_ret2
    exact ⟨rfl, ((Below.refl _ _).alloc (Nat.le_refl _) _).trans (hb1.mono (by simp))⟩
  · have e1 : nearN N d = (halfEven N d, 0) := by unfold nearN; rw [if_neg hbig]
    have b1 := halfEven_le hbig
    have b2 := halfEven_nn hN hd0
    rw [e1] at HN ⊢
    clear e1 hbig hN hd0 hd1
    rw [if_pos rfl]
    generalize halfEven N d = q at *
    have hlt : b < w.heap.size + 1 := by omega
    go_enter Try.func52, Try.ntmps52
    go_wp2_with (go_at_call 58; refine (HN.out _).mono ?_; rintro e w1 ⟨rfl, hb1⟩)
    have hc1 : w1.cell? ⟨b, 0, none⟩ = some (.bool neg) := by
      rw [hb1.cell (p := ⟨b, 0, none⟩) (by simpa using hlt)]
      rw [((Below.refl w.heap.size w).alloc (Nat.le_refl _) _).cell (p := ⟨b, 0, none⟩) hb]
      exact hc
    go_wp2_with (first | (go_at_call 60; refine (put_any _ _ _ _ b2 (by omega) hc1).mono ?_; rintro e w2 ⟨rfl, rfl⟩) | (go_at_call 59; refine (fitted_any _ _).mono ?_; rintro e w2 ⟨rfl, rfl⟩))
    go_ret2
    exact ⟨rfl, ((Below.refl _ _).alloc (Nat.le_refl _) _).trans (hb1.mono (by simp))⟩
end
section
open Go.RowKit
set_option maxHeartbeats 400000 in
theorem div64_low (lo d : Int) (h0 : 0 ≤ lo) (h1 : lo < 18446744073709551616) (hd : 0 < d) (hd1 : d < 18446744073709551616) : DivAt 0 lo d := by
  intro w
  have e1 : (0 * 18446744073709551616 + lo) / d = lo / d := by rw [Int.zero_mul, Int.zero_add]
  have e2 : (0 * 18446744073709551616 + lo) % d = lo % d := by rw [Int.zero_mul, Int.zero_add]
  rw [e1, e2]
  clear e1 e2
  go_enter Try.func61, Try.ntmps61
  go_wp2_with fail
  go_quiet (fail)
  go_wp2
  go_ret2
  exact ⟨rfl, below_drewN (Below.refl _ _) _⟩
/-- Why a cannot be divided by b. -/
def divisR (a b : Int) : Int := if fitsB a && fitsB b then (if b = 0 then 4 else 0) else 2
set_option maxHeartbeats 400000 in
theorem divisible_any (a b : Int) (w : World) :
    Calls Try.prog 51 #[.int .i64 a, .int .i64 b] w fun e w' => e = .returned (.int .i64 (divisR a b)) ∧ w' = w := by
  cases ha : fitsB a
  · go_enter Try.func51, Try.ntmps51
    go_wp2_with (go_at_call 11; refine (fits_any _ _).mono ?_; rintro e w' ⟨rfl, rfl⟩)
    go_ret
    exact ⟨by simp [divisR, ha], rfl⟩
  · cases hb : fitsB b
    · go_enter Try.func51, Try.ntmps51
      go_wp2_with (go_at_call 11; refine (fits_any _ _).mono ?_; rintro e w' ⟨rfl, rfl⟩)
      go_ret
      exact ⟨by simp [divisR, hb], rfl⟩
    · by_cases hz : b = 0
      · have t : (b == 0) = true := beq_iff_eq.2 hz
        have HZ : Hid (b = 0) := hz
        clear hz
        go_enter Try.func51, Try.ntmps51
        go_wp2_with (go_at_call 11; refine (fits_any _ _).mono ?_; rintro e w' ⟨rfl, rfl⟩)
        go_ret
        exact ⟨by rw [show divisR a b = 4 from by unfold divisR; rw [ha, hb]; simp [HZ.out]]; rfl, rfl⟩
      · have t : (b == 0) = false := beq_eq_false_iff_ne.2 hz
        go_enter Try.func51, Try.ntmps51
        go_wp2_with (go_at_call 11; refine (fits_any _ _).mono ?_; rintro e w' ⟨rfl, rfl⟩)
        go_ret
        exact ⟨by simp [divisR, ha, hb, hz], rfl⟩
end
section
open Go.RowKit
/-- The product, rounded, or why there is none. -/
def mulR (a b : Int) : Int × Int := if fitsB a && fitsB b then quoR (absI a * absI b) 1000000 (decide (a < 0) != decide (b < 0)) else (0, 2)
/-- The quotient, rounded, or why there is none. -/
def divR (a b : Int) : Int × Int := if divisR a b = 0 then quoR (absI a * 1000000) (absI b) (decide (a < 0) != decide (b < 0)) else (0, divisR a b)
theorem words_back (N : Int) : N / 18446744073709551616 * 18446744073709551616 + N % 18446744073709551616 = N := by omega
set_option maxHeartbeats 400000 in
theorem mul_any (a b : Int) (w : World) (hd : fitsB a = true → fitsB b = true → absI a * absI b / 18446744073709551616 < 1000000 → DivAt (absI a * absI b / 18446744073709551616) (absI a * absI b % 18446744073709551616) 1000000) :
    Calls Try.prog 45 #[.int .i64 a, .int .i64 b] w fun e w' => e = .returned (.tuple #[.int .i64 (mulR a b).1, .int .i64 (mulR a b).2]) ∧ Below w.heap.size w w' := by
  cases ha : fitsB a
  · have HE : Hid (mulR a b = (0, 2)) := by show mulR a b = _; simp [mulR, ha]
    clear hd
    go_enter Try.func45, Try.ntmps45
    go_wp2_with (go_at_call 11; refine (fits_any _ _).mono ?_; rintro e w' ⟨rfl, rfl⟩)
    go_ret2
    exact ⟨by rw [HE.out]; rfl, Below.refl _ _⟩
  · cases hb : fitsB b
    · have HE : Hid (mulR a b = (0, 2)) := by show mulR a b = _; simp [mulR, hb]
      clear hd
      go_enter Try.func45, Try.ntmps45
      go_wp2_with (go_at_call 11; refine (fits_any _ _).mono ?_; rintro e w' ⟨rfl, rfl⟩)
      go_ret2
      exact ⟨by rw [HE.out]; rfl, Below.refl _ _⟩
    · obtain ⟨a1, a2⟩ := fitsB_true ha
      obtain ⟨b1, b2⟩ := fitsB_true hb
      have x0 := absI_nn a
      have x1 := absI_le a1 a2
      have y0 := absI_nn b
      have y1 := absI_le b1 b2
      have n0 : 0 ≤ absI a * absI b := Int.mul_nonneg x0 y0
      have HE : Hid (mulR a b = quoR (absI a * absI b) 1000000 (decide (a < 0) != decide (b < 0))) := by show mulR a b = _; simp [mulR, ha, hb]
      have HP := fun W => product_any (absI a) (absI b) W x0 (by omega) y0 (by omega)
      have hd1 := hd ha hb
      have hw := words_back (absI a * absI b)
      have h1 : 0 ≤ absI a * absI b / 18446744073709551616 := by omega
      have h2 : 0 ≤ absI a * absI b % 18446744073709551616 := by omega
      generalize absI a * absI b / 18446744073709551616 = hi at *
      generalize absI a * absI b % 18446744073709551616 = lo at *
      have HQ : Hid (∀ (neg : Bool) (k : Nat) (W : World), k < W.heap.size → W.cell? ⟨k, 0, none⟩ = some (.bool neg) → Calls Try.prog 52 #[.agg #[.int .u64 hi, .int .u64 lo], .int .u64 1000000, .func (.func 60) #[] #[.pointer (some ⟨k, 0, none⟩)]] W fun e w' => e = .returned (.tuple #[.int .i64 (quoR (absI a * absI b) 1000000 neg).1, .int .i64 (quoR (absI a * absI b) 1000000 neg).2]) ∧ Below W.heap.size W w') := by
        intro neg k W hk hc
        have := quotient_any hi lo 1000000 neg k W h1 h2 (by decide) (by decide) hd1 hk hc
        rw [hw] at this
        exact this
      have HP' : Hid (∀ W : World, Calls Try.prog 53 #[.int .u64 (absI a), .int .u64 (absI b)] W fun e w' => e = .returned (.agg #[.int .u64 hi, .int .u64 lo]) ∧ Below W.heap.size W w') := HP
      clear HP hd hd1 hw h1 h2 n0
      go_enter Try.func45, Try.ntmps45
      go_wp2_with (first | (go_at_call 11; refine (fits_any _ _).mono ?_; rintro e w' ⟨rfl, rfl⟩) | (go_at_call 54; refine (size_any _ _ (by omega) (by omega)).mono ?_; rintro e w' ⟨rfl, rfl⟩) | (go_at_call 53; refine (HP'.out _).mono ?_; rintro e w1 ⟨rfl, hb1⟩) | (go_at_call 55; refine (signed_any _ _).mono ?_; rintro e w2 ⟨rfl, rfl⟩))
      refine (HQ.out (decide (a < 0) != decide (b < 0)) w1.heap.size _ (by simp) (by rw [World.cell?_alloc_new]; rfl)).mono ?_
      rintro e w3 ⟨rfl, hb3⟩
      go_wp2
      go_ret2
      exact ⟨by rw [HE.out]; rfl, hb1.trans (((Below.refl _ _).alloc (Nat.le_refl _) _).trans (hb3.mono (by simp)) |>.mono hb1.size)⟩
theorem divisR_zero {a b : Int} (h : divisR a b = 0) : fitsB a = true ∧ fitsB b = true ∧ b ≠ 0 := by
  unfold divisR at h
  cases ha : fitsB a <;> cases hb : fitsB b <;> simp [ha, hb] at h
  exact ⟨rfl, rfl, h⟩
set_option maxHeartbeats 400000 in
theorem div_any (a b : Int) (w : World) (hd : divisR a b = 0 → absI a * 1000000 / 18446744073709551616 < absI b → DivAt (absI a * 1000000 / 18446744073709551616) (absI a * 1000000 % 18446744073709551616) (absI b)) :
    Calls Try.prog 36 #[.int .i64 a, .int .i64 b] w fun e w' => e = .returned (.tuple #[.int .i64 (divR a b).1, .int .i64 (divR a b).2]) ∧ Below w.heap.size w w' := by
  by_cases h : divisR a b = 0
  · obtain ⟨ha, hb, hz⟩ := divisR_zero h
    obtain ⟨a1, a2⟩ := fitsB_true ha
    obtain ⟨b1, b2⟩ := fitsB_true hb
    have x0 := absI_nn a
    have x1 := absI_le a1 a2
    have y0 : 0 < absI b := by unfold absI; split <;> omega
    have y1 := absI_le b1 b2
    have n0 : 0 ≤ absI a * 1000000 := by omega
    have HE : Hid (divR a b = quoR (absI a * 1000000) (absI b) (decide (a < 0) != decide (b < 0))) := by show divR a b = _; simp [divR, h]
    have HP := fun W => product_any (absI a) 1000000 W x0 (by omega) (by omega) (by omega)
    have hd1 := hd h
    have hw := words_back (absI a * 1000000)
    have h1 : 0 ≤ absI a * 1000000 / 18446744073709551616 := by omega
    have h2 : 0 ≤ absI a * 1000000 % 18446744073709551616 := by omega
    generalize absI a * 1000000 / 18446744073709551616 = hi at *
    generalize absI a * 1000000 % 18446744073709551616 = lo at *
    generalize absI a * 1000000 = N at *
    have HQ : Hid (∀ (neg : Bool) (k : Nat) (W : World), k < W.heap.size → W.cell? ⟨k, 0, none⟩ = some (.bool neg) → Calls Try.prog 52 #[.agg #[.int .u64 hi, .int .u64 lo], .int .u64 (absI b), .func (.func 60) #[] #[.pointer (some ⟨k, 0, none⟩)]] W fun e w' => e = .returned (.tuple #[.int .i64 (quoR N (absI b) neg).1, .int .i64 (quoR N (absI b) neg).2]) ∧ Below W.heap.size W w') := by
      intro neg k W hk hc
      have := quotient_any hi lo (absI b) neg k W h1 h2 y0 y1 hd1 hk hc
      rw [hw] at this
      exact this
    have HP' : Hid (∀ W : World, Calls Try.prog 53 #[.int .u64 (absI a), .int .u64 1000000] W fun e w' => e = .returned (.agg #[.int .u64 hi, .int .u64 lo]) ∧ Below W.heap.size W w') := HP
    clear HP hd hd1 hw h1 h2 n0 ha hb hz
    go_enter Try.func36, Try.ntmps36
    go_wp2_with (first | (go_at_call 51; refine (divisible_any _ _ _).mono ?_; rintro e w' ⟨rfl, rfl⟩) | (go_at_call 54; refine (size_any _ _ (by omega) (by omega)).mono ?_; rintro e w1 ⟨rfl, rfl⟩) | (go_at_call 53; refine (HP'.out _).mono ?_; rintro e w1 ⟨rfl, hb1⟩) | (go_at_call 55; refine (signed_any _ _).mono ?_; rintro e w2 ⟨rfl, rfl⟩))
    refine (HQ.out (decide (a < 0) != decide (b < 0)) w1.heap.size _ (by simp) (by rw [World.cell?_alloc_new]; rfl)).mono ?_
    rintro e w3 ⟨rfl, hb3⟩
    go_wp2
    go_ret2
    exact ⟨by rw [HE.out]; rfl, hb1.trans (((Below.refl _ _).alloc (Nat.le_refl _) _).trans (hb3.mono (by simp)) |>.mono hb1.size)⟩
  · have HE : Hid (divR a b = (0, divisR a b)) := by show divR a b = _; simp [divR, h]
    have t : (divisR a b != 0) = true := by simp [h]
    clear h hd
    go_enter Try.func36, Try.ntmps36
    go_wp2_with (go_at_call 51; refine (divisible_any _ _ _).mono ?_; rintro e w' ⟨rfl, rfl⟩)
    go_ret2
    exact ⟨by rw [HE.out]; rfl, Below.refl _ _⟩
end
section
open Go.RowKit
/-- A power of ten. -/
def p10 (k : Nat) : Int := 10 ^ k
theorem p10_zero : p10 0 = 1 := rfl
theorem p10_succ (k : Nat) : p10 (k + 1) = p10 k * 10 := by unfold p10; rw [Int.pow_succ]
theorem p10_pos (k : Nat) : 0 < p10 k := by unfold p10; exact Int.pow_pos (by decide)
end
section
open Go.RowKit
/-- A number, rounded up or not, by what is left of a whole. -/
def evenR (n l d : Int) : Int := if d < 2 * l ∨ (2 * l = d ∧ n % 2 = 1) then n + 1 else n
end
section
open Go.RowKit
theorem told_put {q : Int} (neg : Bool) (h0 : 0 ≤ q) : told (put neg q) = if 1000000000000000000 < q then (0, 3) else (put neg q, 0) := by
  unfold told put
  by_cases h : 1000000000000000000 < q
  · rw [if_pos h, if_neg]
    cases neg
    · rw [fitsB_not (by simp; omega)]; decide
    · rw [fitsB_not (by simp; omega)]; decide
  · rw [if_neg h, if_pos]
    cases neg
    · exact fitsB_of (by simp; omega) (by simp; omega)
    · exact fitsB_of (by simp; omega) (by simp; omega)
end
end Go.Proofs.Ytfopebfejmlhbab
