/-
  Out of Small, Near, Mul, Arith, MulDiv, Round, Fmt, Digits, Print, Parse, TextMath, RefRound, RefRound2, RefPrint, what is asked for (laid by pack9.py).
-/
import Derived.Test.YtnhaapcpklfkpaaGreatDoorProg
import Derived.Test.YtnhaapcpklfkpaaGreatDoorShelf
import Derived.BigCall
import Derived.BigGuard
import Derived.BigQuiet
import Derived.Deep.QuietTactic
import Derived.Deep.RegionWith
import Derived.Laws.EntriesVeiled
import Derived.Lib.AppendIntMem
import Derived.Lib.IndexMore
import Derived.Lib.ItoaMem
import Derived.Lib.SmallJoins
import Derived.Lib.Walk
import Derived.WalkKit
import Derived.WalkLawsBesides
import Derived.WalkSpells
namespace Go.Proofs.YtnhaapcpklfkpaaGreatDoor
section
open Go.RowKit
theorem hide {p : Prop} (h : p) : Hid p := h
/-- Does a number fit? -/
def fitsB (n : Int) : Bool := decide (-1000000000000000000 ≤ n) && decide (n ≤ 1000000000000000000)
theorem fitsB_true {n : Int} (h : fitsB n = true) : -1000000000000000000 ≤ n ∧ n ≤ 1000000000000000000 := by
  unfold fitsB at h; simp at h; exact h
theorem fitsB_of {n : Int} (h1 : -1000000000000000000 ≤ n) (h2 : n ≤ 1000000000000000000) : fitsB n = true := by
  unfold fitsB; simp; exact ⟨h1, h2⟩
theorem fitsB_not {n : Int} (h : n < -1000000000000000000 ∨ 1000000000000000000 < n) : fitsB n = false := by
  unfold fitsB; simp; omega
/-- A result, if it fits. -/
def told (n : Int) : Int × Int := if fitsB n then (n, 0) else (0, 3)
theorem told_yes {n : Int} (h : fitsB n = true) : told n = (n, 0) := by simp [told, h]
set_option maxHeartbeats 400000 in
theorem fits_any (n : Int) (w : World) :
    Calls Tryz.prog 50 #[.int .i64 n] w fun e w' => e = .returned (.bool (fitsB n)) ∧ w' = w := by
  by_cases h1 : -1000000000000000000 ≤ n
  · by_cases h2 : n ≤ 1000000000000000000
    · go_enter Tryz.func50, Tryz.ntmps50
      go_wp2
      go_ret
      exact ⟨by rw [fitsB_of (by omega) (by omega)]; rfl, rfl⟩
    · go_enter Tryz.func50, Tryz.ntmps50
      go_wp2
      go_ret
      exact ⟨by rw [fitsB_not (by omega)]; rfl, rfl⟩
  · go_enter Tryz.func50, Tryz.ntmps50
    go_wp2
    go_ret
    exact ⟨by rw [fitsB_not (by omega)]; rfl, rfl⟩
set_option maxHeartbeats 400000 in
theorem rfits_any (n : Int) (w : World) :
    Calls Tryz.prog 37 #[.int .i64 n] w fun e w' => e = .returned (.bool (fitsB n)) ∧ w' = w := by
  by_cases h1 : -1000000000000000000 ≤ n
  · by_cases h2 : n ≤ 1000000000000000000
    · go_enter Tryz.func37, Tryz.ntmps37
      go_wp2
      go_ret
      exact ⟨by rw [fitsB_of (by omega) (by omega)]; rfl, rfl⟩
    · go_enter Tryz.func37, Tryz.ntmps37
      go_wp2
      go_ret
      exact ⟨by rw [fitsB_not (by omega)]; rfl, rfl⟩
  · go_enter Tryz.func37, Tryz.ntmps37
    go_wp2
    go_ret
    exact ⟨by rw [fitsB_not (by omega)]; rfl, rfl⟩
set_option maxHeartbeats 400000 in
theorem fitted_any (n : Int) (w : World) :
    Calls Tryz.prog 85 #[.int .i64 n] w fun e w' => e = .returned (.tuple #[.int .i64 (told n).1, .int .i64 (told n).2]) ∧ w' = w := by
  cases h : fitsB n
  all_goals
    go_enter Tryz.func85, Tryz.ntmps85
    go_wp2_with (go_at_call 50; refine (fits_any _ _).mono ?_; rintro e w' ⟨rfl, rfl⟩)
    go_ret2
    exact ⟨by simp [told, h], rfl⟩
set_option maxHeartbeats 400000 in
theorem told_any (n : Int) (w : World) :
    Calls Tryz.prog 42 #[.int .i64 n] w fun e w' => e = .returned (.tuple #[.int .i64 (told n).1, .int .i64 (told n).2]) ∧ w' = w := by
  cases h : fitsB n
  all_goals
    go_enter Tryz.func42, Tryz.ntmps42
    go_wp2_with (go_at_call 37; refine (rfits_any _ _).mono ?_; rintro e w' ⟨rfl, rfl⟩)
    go_ret2
    exact ⟨by simp [told, h], rfl⟩
end
section
open Go.RowKit
/-- A number without its sign. -/
def absI (n : Int) : Int := if n < 0 then -n else n
theorem absI_neg {n : Int} (h : n < 0) : absI n = -n := by simp [absI, h]
theorem absI_pos {n : Int} (h : 0 ≤ n) : absI n = n := by unfold absI; rw [if_neg (by omega)]
theorem absI_nn (n : Int) : 0 ≤ absI n := by unfold absI; split <;> omega
theorem absI_le {n B : Int} (h1 : -B ≤ n) (h2 : n ≤ B) : absI n ≤ B := by unfold absI; split <;> omega
set_option maxHeartbeats 400000 in
theorem size_any (n : Int) (w : World) (h1 : -1000000000000000000 ≤ n) (h2 : n ≤ 1000000000000000000) :
    Calls Tryz.prog 78 #[.int .i64 n] w fun e w' => e = .returned (.int .u64 (absI n)) ∧ w' = w := by
  by_cases h : n < 0
  · have e := absI_neg h
    go_enter Tryz.func78, Tryz.ntmps78
    go_wp2
    go_ret
    exact ⟨by simp [e], rfl⟩
  · have e := absI_pos (n := n) (by omega)
    go_enter Tryz.func78, Tryz.ntmps78
    go_wp2
    go_ret
    exact ⟨by simp, rfl⟩
set_option maxHeartbeats 400000 in
theorem signed_any (b : Bool) (w : World) :
    Calls Tryz.prog 91 #[.bool b] w fun e w' => e = .returned (.func (.func 124) #[] #[.pointer (some ⟨w.heap.size, 0, none⟩)]) ∧ w' = w.alloc (.cells #[.bool b] 4) := by
  have hmf : ∀ (fn : Fn) (first cap : Array Value) (w : World), (Instr.makeFunc fn first cap).run Tryz.prog w = .ok (.func fn first cap) w := fun _ _ _ _ => rfl
  go_enter Tryz.func91, Tryz.ntmps91
  go_wp2
  go_ret
  exact ⟨rfl, rfl⟩
/-- The whole number that is nearest to N / d, of two the even one. -/
def halfEven (N d : Int) : Int := if d < 2 * (N % d) ∨ (2 * (N % d) = d ∧ N / d % 2 = 1) then N / d + 1 else N / d
/-- .. or the error that it goes too far. -/
def nearN (N d : Int) : Int × Int := if 1000000000000000000 < N / d then (0, 3) else (halfEven N d, 0)
/-- What is said of Div64 at one place. -/
def DivAt (hi lo d : Int) : Prop := ∀ w : World, Calls Tryz.prog 146 #[.int .u64 hi, .int .u64 lo, .int .u64 d] w fun e w' => e = .returned (.tuple #[.int .u64 ((hi * 18446744073709551616 + lo) / d), .int .u64 ((hi * 18446744073709551616 + lo) % d)]) ∧ Below w.heap.size w w'
set_option maxHeartbeats 400000 in
theorem nearest_over (hi lo d : Int) (w : World) (h : d ≤ hi) :
    Calls Tryz.prog 122 #[.agg #[.int .u64 hi, .int .u64 lo], .int .u64 d] w fun e w' => e = .returned (.tuple #[.int .u64 0, .int .i64 3]) ∧ Below w.heap.size w w' := by
  go_enter Tryz.func122, Tryz.ntmps122
  go_wp2
  go_ret2
  exact ⟨rfl, (Below.refl _ _).alloc (Nat.le_refl _) _⟩
set_option maxHeartbeats 400000 in
theorem nearest_big (hi lo d q r : Int) (w : World) (h : hi < d) (hd : DivAt hi lo d) (hq : (hi * 18446744073709551616 + lo) / d = q) (hr : (hi * 18446744073709551616 + lo) % d = r) (hb : 1000000000000000000 < q) :
    Calls Tryz.prog 122 #[.agg #[.int .u64 hi, .int .u64 lo], .int .u64 d] w fun e w' => e = .returned (.tuple #[.int .u64 0, .int .i64 3]) ∧ Below w.heap.size w w' := by
  unfold DivAt at hd
  rw [hq, hr] at hd
  have HD : Hid (∀ w : World, Calls Tryz.prog 146 #[.int .u64 hi, .int .u64 lo, .int .u64 d] w fun e w' => e = .returned (.tuple #[.int .u64 q, .int .u64 r]) ∧ Below w.heap.size w w') := hd
  clear hd hq hr
  go_enter Tryz.func122, Tryz.ntmps122
  go_wp2_with (go_at_call 146; refine (HD.out _).mono ?_; rintro e w1 ⟨rfl, hb1⟩)
  go_ret2
  exact ⟨rfl, ((Below.refl _ _).alloc (Nat.le_refl _) _).trans (hb1.mono (by simp))⟩
set_option maxHeartbeats 400000 in
theorem nearest_fit (hi lo d q r : Int) (w : World) (h : hi < d) (hd : DivAt hi lo d) (hq : (hi * 18446744073709551616 + lo) / d = q) (hr : (hi * 18446744073709551616 + lo) % d = r) (h0 : 0 ≤ q) (hb : q ≤ 1000000000000000000) (h3 : 0 ≤ r) (h4 : r < d) (h5 : d ≤ 1000000000000000000) :
    Calls Tryz.prog 122 #[.agg #[.int .u64 hi, .int .u64 lo], .int .u64 d] w fun e w' => e = .returned (.tuple #[.int .u64 (if d < 2 * r ∨ (2 * r = d ∧ q % 2 = 1) then q + 1 else q), .int .i64 0]) ∧ Below w.heap.size w w' := by
  unfold DivAt at hd
  rw [hq, hr] at hd
  have HD : Hid (∀ w : World, Calls Tryz.prog 146 #[.int .u64 hi, .int .u64 lo, .int .u64 d] w fun e w' => e = .returned (.tuple #[.int .u64 q, .int .u64 r]) ∧ Below w.heap.size w w') := hd
  clear hd hq hr
  by_cases c1 : d < 2 * r
  · rw [if_pos (Or.inl c1)]
    go_enter Tryz.func122, Tryz.ntmps122
    go_wp2_with (go_at_call 146; refine (HD.out _).mono ?_; rintro e w1 ⟨rfl, hb1⟩)
    go_ret2
    exact ⟨rfl, ((Below.refl _ _).alloc (Nat.le_refl _) _).trans (hb1.mono (by simp))⟩
  · by_cases c2 : 2 * r = d
    · by_cases c3 : q % 2 = 1
      · rw [if_pos (Or.inr ⟨c2, c3⟩)]
        have t2 : (2 * r == d) = true := beq_iff_eq.2 c2
        have t3 : (q % 2 == 1) = true := beq_iff_eq.2 c3
        have C2 : Hid (2 * r = d) := c2
        clear c2 c3
        go_enter Tryz.func122, Tryz.ntmps122
        go_wp2_with (go_at_call 146; refine (HD.out _).mono ?_; rintro e w1 ⟨rfl, hb1⟩)
        go_ret2
        exact ⟨rfl, ((Below.refl _ _).alloc (Nat.le_refl _) _).trans (hb1.mono (by simp))⟩
      · rw [if_neg (by omega)]
        have t2 : (2 * r == d) = true := beq_iff_eq.2 c2
        have t3 : (q % 2 == 1) = false := beq_eq_false_iff_ne.2 c3
        have C2 : Hid (2 * r = d) := c2
        clear c2 c3
        go_enter Tryz.func122, Tryz.ntmps122
        go_wp2_with (go_at_call 146; refine (HD.out _).mono ?_; rintro e w1 ⟨rfl, hb1⟩)
        go_ret2
        exact ⟨rfl, ((Below.refl _ _).alloc (Nat.le_refl _) _).trans (hb1.mono (by simp))⟩
    · rw [if_neg (by omega)]
      have t2 : (2 * r == d) = false := beq_eq_false_iff_ne.2 c2
      go_enter Tryz.func122, Tryz.ntmps122
      go_wp2_with (go_at_call 146; refine (HD.out _).mono ?_; rintro e w1 ⟨rfl, hb1⟩)
      go_ret2
      exact ⟨rfl, ((Below.refl _ _).alloc (Nat.le_refl _) _).trans (hb1.mono (by simp))⟩
end
section
open Go.RowKit
theorem mul64_any (x y : Int) (w : World) (hx0 : 0 ≤ x) (hx : x < 18446744073709551616) (hy0 : 0 ≤ y) (hy : y < 18446744073709551616) :
    Calls Tryz.prog 123 #[.int .u64 x, .int .u64 y] w fun e w' => e = .returned (.tuple #[.int .u64 (x * y / 18446744073709551616), .int .u64 (x * y % 18446744073709551616)]) ∧ w' = w := by
  obtain ⟨m, rfl⟩ := Int.eq_ofNat_of_zero_le hx0
  obtain ⟨n, rfl⟩ := Int.eq_ofNat_of_zero_le hy0
  have := Tryz.bits_Mul64 m n (by omega) (by omega) w
  simpa using this
set_option maxHeartbeats 400000 in
theorem product_any (x y : Int) (w : World) (hx0 : 0 ≤ x) (hx : x < 18446744073709551616) (hy0 : 0 ≤ y) (hy : y < 18446744073709551616) :
    Calls Tryz.prog 90 #[.int .u64 x, .int .u64 y] w fun e w' => e = .returned (.agg #[.int .u64 (x * y / 18446744073709551616), .int .u64 (x * y % 18446744073709551616)]) ∧ Below w.heap.size w w' := by
  have HM : Hid (∀ w : World, Calls Tryz.prog 123 #[.int .u64 x, .int .u64 y] w fun e w' => e = .returned (.tuple #[.int .u64 (x * y / 18446744073709551616), .int .u64 (x * y % 18446744073709551616)]) ∧ w' = w) := fun w => mul64_any x y w hx0 hx hy0 hy
  generalize x * y / 18446744073709551616 = hi at *
  generalize x * y % 18446744073709551616 = lo at *
  clear hx0 hx hy0 hy
  go_enter Tryz.func90, Tryz.ntmps90
  go_wp2_with (go_at_call 123; refine (HM.out _).mono ?_; rintro e w1 ⟨rfl, rfl⟩)
  exact bodyPost_ret (v := .agg #[.int .u64 hi, .int .u64 lo]) (by simp [results, Tryz.results90, go_sem]) rfl ⟨rfl, (Below.refl _ _).alloc (Nat.le_refl _) _⟩
theorem div_big {hi lo d : Int} (hd : 0 < d) (hlo : 0 ≤ lo) (h : d ≤ hi) : 1000000000000000000 < (hi * 18446744073709551616 + lo) / d := by
  have h2 : (18446744073709551616 : Int) ≤ (hi * 18446744073709551616 + lo) / d := by
    rw [Int.le_ediv_iff_mul_le hd]
    have : 18446744073709551616 * d ≤ 18446744073709551616 * hi := Int.mul_le_mul_of_nonneg_left h (by omega)
    omega
  omega
theorem nearest_any (hi lo d : Int) (w : World) (h0 : 0 ≤ hi) (hlo : 0 ≤ lo) (hd0 : 0 < d) (hd1 : d ≤ 1000000000000000000) (hd : hi < d → DivAt hi lo d) :
    Calls Tryz.prog 122 #[.agg #[.int .u64 hi, .int .u64 lo], .int .u64 d] w fun e w' => e = .returned (.tuple #[.int .u64 (nearN (hi * 18446744073709551616 + lo) d).1, .int .i64 (nearN (hi * 18446744073709551616 + lo) d).2]) ∧ Below w.heap.size w w' := by
  by_cases h : d ≤ hi
  · rw [show nearN (hi * 18446744073709551616 + lo) d = (0, 3) from by unfold nearN; rw [if_pos (div_big hd0 hlo h)]]
    exact nearest_over hi lo d w h
  · by_cases hb : 1000000000000000000 < (hi * 18446744073709551616 + lo) / d
    · rw [show nearN (hi * 18446744073709551616 + lo) d = (0, 3) from by unfold nearN; rw [if_pos hb]]
      exact nearest_big hi lo d _ _ w (by omega) (hd (by omega)) rfl rfl hb
    · rw [show nearN (hi * 18446744073709551616 + lo) d = (halfEven (hi * 18446744073709551616 + lo) d, 0) from by unfold nearN; rw [if_neg hb]]
      unfold halfEven
      exact nearest_fit hi lo d _ _ w (by omega) (hd (by omega)) rfl rfl (Int.ediv_nonneg (by omega) (by omega)) (by omega) (Int.emod_nonneg _ (by omega)) (Int.emod_lt_of_pos _ hd0) hd1
/-- A number with a sign. -/
def put (neg : Bool) (q : Int) : Int := if neg then -q else q
/-- N / d, rounded, with a sign, or why not. -/
def quoR (N d : Int) (neg : Bool) : Int × Int := if (nearN N d).2 = 0 then told (put neg (nearN N d).1) else (0, (nearN N d).2)
theorem halfEven_le {N d : Int} (h : ¬ 1000000000000000000 < N / d) : halfEven N d ≤ 1000000000000000001 := by
  unfold halfEven; split <;> omega
theorem halfEven_nn {N d : Int} (hN : 0 ≤ N) (hd : 0 < d) : 0 ≤ halfEven N d := by
  have := Int.ediv_nonneg hN (Int.le_of_lt hd)
  unfold halfEven; split <;> omega
set_option maxHeartbeats 400000 in
theorem put_any (q : Int) (neg : Bool) (b : Nat) (w : World) (h0 : 0 ≤ q) (h1 : q ≤ 4000000000000000000) (hc : w.cell? ⟨b, 0, none⟩ = some (.bool neg)) :
    Calls Tryz.prog 124 #[.int .u64 q, .pointer (some ⟨b, 0, none⟩)] w fun e w' => e = .returned (.int .i64 (put neg q)) ∧ w' = w := by
  cases neg
  all_goals
    go_enter Tryz.func124, Tryz.ntmps124
    go_wp2
    go_ret
    exact ⟨by simp [put], rfl⟩
set_option maxHeartbeats 400000 in
theorem quotient_any (hi lo d : Int) (neg : Bool) (b : Nat) (w : World) (h0 : 0 ≤ hi) (hlo : 0 ≤ lo) (hd0 : 0 < d) (hd1 : d ≤ 1000000000000000000) (hd : hi < d → DivAt hi lo d) (hb : b < w.heap.size) (hc : w.cell? ⟨b, 0, none⟩ = some (.bool neg)) :
    Calls Tryz.prog 89 #[.agg #[.int .u64 hi, .int .u64 lo], .int .u64 d, .func (.func 124) #[] #[.pointer (some ⟨b, 0, none⟩)]] w fun e w' => e = .returned (.tuple #[.int .i64 (quoR (hi * 18446744073709551616 + lo) d neg).1, .int .i64 (quoR (hi * 18446744073709551616 + lo) d neg).2]) ∧ Below w.heap.size w w' := by
  have HN : Hid (∀ w : World, Calls Tryz.prog 122 #[.agg #[.int .u64 hi, .int .u64 lo], .int .u64 d] w fun e w' => e = .returned (.tuple #[.int .u64 (nearN (hi * 18446744073709551616 + lo) d).1, .int .i64 (nearN (hi * 18446744073709551616 + lo) d).2]) ∧ Below w.heap.size w w') := fun w => nearest_any hi lo d w h0 hlo hd0 hd1 hd
  have hN : 0 ≤ hi * 18446744073709551616 + lo := by omega
  generalize hi * 18446744073709551616 + lo = N at *
  clear hd h0 hlo
  unfold quoR
  by_cases hbig : 1000000000000000000 < N / d
  · have e1 : nearN N d = (0, 3) := by unfold nearN; rw [if_pos hbig]
    rw [e1] at HN ⊢
    clear e1 hbig hN hd0 hd1
    rw [if_neg (by decide)]
    go_enter Tryz.func89, Tryz.ntmps89
    go_wp2_with (go_at_call 122; refine (HN.out _).mono ?_; rintro e w1 ⟨rfl, hb1⟩)
    go_ret2
    exact ⟨rfl, ((Below.refl _ _).alloc (Nat.le_refl _) _).trans (hb1.mono (by simp))⟩
  · have e1 : nearN N d = (halfEven N d, 0) := by unfold nearN; rw [if_neg hbig]
    have b1 := halfEven_le hbig
    have b2 := halfEven_nn hN hd0
    rw [e1] at HN ⊢
    clear e1 hbig hN hd0 hd1
    rw [if_pos rfl]
    generalize halfEven N d = q at *
    have hlt : b < w.heap.size + 1 := by omega
    go_enter Tryz.func89, Tryz.ntmps89
    go_wp2_with (go_at_call 122; refine (HN.out _).mono ?_; rintro e w1 ⟨rfl, hb1⟩)
    have hc1 : w1.cell? ⟨b, 0, none⟩ = some (.bool neg) := by
      rw [hb1.cell (p := ⟨b, 0, none⟩) (by simpa using hlt)]
      rw [((Below.refl w.heap.size w).alloc (Nat.le_refl _) _).cell (p := ⟨b, 0, none⟩) hb]
      exact hc
    go_wp2_with (first | (go_at_call 124; refine (put_any _ _ _ _ b2 (by omega) hc1).mono ?_; rintro e w2 ⟨rfl, rfl⟩) | (go_at_call 85; refine (fitted_any _ _).mono ?_; rintro e w2 ⟨rfl, rfl⟩))
    go_ret2
    exact ⟨rfl, ((Below.refl _ _).alloc (Nat.le_refl _) _).trans (hb1.mono (by simp))⟩
end
section
open Go.RowKit
set_option maxHeartbeats 400000 in
theorem div64_low (lo d : Int) (h0 : 0 ≤ lo) (h1 : lo < 18446744073709551616) (hd : 0 < d) (hd1 : d < 18446744073709551616) : DivAt 0 lo d := by
  intro w
  have e1 : (0 * 18446744073709551616 + lo) / d = lo / d := by rw [Int.zero_mul, Int.zero_add]
  have e2 : (0 * 18446744073709551616 + lo) % d = lo % d := by rw [Int.zero_mul, Int.zero_add]
  rw [e1, e2]
  clear e1 e2
  go_enter Tryz.func146, Tryz.ntmps146
  go_wp2_with fail
  go_quiet (fail)
  go_wp2
  go_ret2
  exact ⟨rfl, below_drewN (Below.refl _ _) _⟩
/-- What is left of a, of b's sign. -/
def fmodR (a b : Int) : Int := if a.tmod b ≠ 0 ∧ (decide (a.tmod b < 0) != decide (b < 0)) = true then a.tmod b + b else a.tmod b
theorem tmod_bd {a b : Int} (ha : -1000000000000000000 ≤ a) (ha' : a ≤ 1000000000000000000) : -1000000000000000000 ≤ a.tmod b ∧ a.tmod b ≤ 1000000000000000000 := by
  have h := Int.natAbs_tmod a b
  have : (a.tmod b).natAbs ≤ a.natAbs := by rw [h]; exact Nat.mod_le _ _
  omega
set_option maxHeartbeats 400000 in
theorem floorMod_any (a b : Int) (w : World) (ha : -1000000000000000000 ≤ a) (ha' : a ≤ 1000000000000000000) (hb : -1000000000000000000 ≤ b) (hb' : b ≤ 1000000000000000000) (hz : b ≠ 0) :
    Calls Tryz.prog 86 #[.int .i64 a, .int .i64 b] w fun e w' => e = .returned (.int .i64 (fmodR a b)) ∧ w' = w := by
  obtain ⟨r1, r2⟩ := tmod_bd (b := b) ha ha'
  have tz : (b == 0) = false := beq_eq_false_iff_ne.2 hz
  by_cases hr : a.tmod b = 0
  · have e1 : fmodR a b = a.tmod b := by unfold fmodR; rw [if_neg (by simp [hr])]
    have t : (a.tmod b != 0) = false := by simp [hr]
    have HE : Hid (fmodR a b = a.tmod b) := e1
    clear e1 hr
    go_enter Tryz.func86, Tryz.ntmps86
    go_wp2
    go_ret
    exact ⟨by rw [HE.out]; rfl, rfl⟩
  · have t : (a.tmod b != 0) = true := by simp [hr]
    by_cases s1 : a.tmod b < 0
    · by_cases s2 : b < 0
      · have HE : Hid (fmodR a b = a.tmod b) := by show fmodR a b = _; unfold fmodR; rw [if_neg (by simp [s1, s2])]
        clear hr
        go_enter Tryz.func86, Tryz.ntmps86
        go_wp2
        go_ret
        exact ⟨by rw [HE.out]; rfl, rfl⟩
      · have HE : Hid (fmodR a b = a.tmod b + b) := by show fmodR a b = _; unfold fmodR; rw [if_pos ⟨hr, by simp [s1, s2]⟩]
        clear hr
        go_enter Tryz.func86, Tryz.ntmps86
        go_wp2
        go_ret
        exact ⟨by rw [HE.out]; rfl, rfl⟩
    · by_cases s2 : b < 0
      · have HE : Hid (fmodR a b = a.tmod b + b) := by show fmodR a b = _; unfold fmodR; rw [if_pos ⟨hr, by simp [s1, s2]⟩]
        clear hr
        go_enter Tryz.func86, Tryz.ntmps86
        go_wp2
        go_ret
        exact ⟨by rw [HE.out]; rfl, rfl⟩
      · have HE : Hid (fmodR a b = a.tmod b) := by show fmodR a b = _; unfold fmodR; rw [if_neg (by simp [s1, s2])]
        clear hr
        go_enter Tryz.func86, Tryz.ntmps86
        go_wp2
        go_ret
        exact ⟨by rw [HE.out]; rfl, rfl⟩
end
section
open Go.RowKit
/-- The product, rounded, or why there is none. -/
def mulR (a b : Int) : Int × Int := if fitsB a && fitsB b then quoR (absI a * absI b) 1000000 (decide (a < 0) != decide (b < 0)) else (0, 2)
theorem words_back (N : Int) : N / 18446744073709551616 * 18446744073709551616 + N % 18446744073709551616 = N := by omega
set_option maxHeartbeats 400000 in
theorem mul_any (a b : Int) (w : World) (hd : fitsB a = true → fitsB b = true → absI a * absI b / 18446744073709551616 < 1000000 → DivAt (absI a * absI b / 18446744073709551616) (absI a * absI b % 18446744073709551616) 1000000) :
    Calls Tryz.prog 61 #[.int .i64 a, .int .i64 b] w fun e w' => e = .returned (.tuple #[.int .i64 (mulR a b).1, .int .i64 (mulR a b).2]) ∧ Below w.heap.size w w' := by
  cases ha : fitsB a
  · have HE : Hid (mulR a b = (0, 2)) := by show mulR a b = _; simp [mulR, ha]
    clear hd
    go_enter Tryz.func61, Tryz.ntmps61
    go_wp2_with (go_at_call 50; refine (fits_any _ _).mono ?_; rintro e w' ⟨rfl, rfl⟩)
    go_ret2
    exact ⟨by rw [HE.out]; rfl, Below.refl _ _⟩
  · cases hb : fitsB b
    · have HE : Hid (mulR a b = (0, 2)) := by show mulR a b = _; simp [mulR, hb]
      clear hd
      go_enter Tryz.func61, Tryz.ntmps61
      go_wp2_with (go_at_call 50; refine (fits_any _ _).mono ?_; rintro e w' ⟨rfl, rfl⟩)
      go_ret2
      exact ⟨by rw [HE.out]; rfl, Below.refl _ _⟩
    · obtain ⟨a1, a2⟩ := fitsB_true ha
      obtain ⟨b1, b2⟩ := fitsB_true hb
      have x0 := absI_nn a
      have x1 := absI_le a1 a2
      have y0 := absI_nn b
      have y1 := absI_le b1 b2
      have n0 : 0 ≤ absI a * absI b := Int.mul_nonneg x0 y0
      have HE : Hid (mulR a b = quoR (absI a * absI b) 1000000 (decide (a < 0) != decide (b < 0))) := by show mulR a b = _; simp [mulR, ha, hb]
      have HP := fun W => product_any (absI a) (absI b) W x0 (by omega) y0 (by omega)
      have hd1 := hd ha hb
      have hw := words_back (absI a * absI b)
      have h1 : 0 ≤ absI a * absI b / 18446744073709551616 := by omega
      have h2 : 0 ≤ absI a * absI b % 18446744073709551616 := by omega
      generalize absI a * absI b / 18446744073709551616 = hi at *
      generalize absI a * absI b % 18446744073709551616 = lo at *
      have HQ : Hid (∀ (neg : Bool) (k : Nat) (W : World), k < W.heap.size → W.cell? ⟨k, 0, none⟩ = some (.bool neg) → Calls Tryz.prog 89 #[.agg #[.int .u64 hi, .int .u64 lo], .int .u64 1000000, .func (.func 124) #[] #[.pointer (some ⟨k, 0, none⟩)]] W fun e w' => e = .returned (.tuple #[.int .i64 (quoR (absI a * absI b) 1000000 neg).1, .int .i64 (quoR (absI a * absI b) 1000000 neg).2]) ∧ Below W.heap.size W w') := by
        intro neg k W hk hc
        have := quotient_any hi lo 1000000 neg k W h1 h2 (by decide) (by decide) hd1 hk hc
        rw [hw] at this
        exact this
      have HP' : Hid (∀ W : World, Calls Tryz.prog 90 #[.int .u64 (absI a), .int .u64 (absI b)] W fun e w' => e = .returned (.agg #[.int .u64 hi, .int .u64 lo]) ∧ Below W.heap.size W w') := HP
      clear HP hd hd1 hw h1 h2 n0
      go_enter Tryz.func61, Tryz.ntmps61
      go_wp2_with (first | (go_at_call 50; refine (fits_any _ _).mono ?_; rintro e w' ⟨rfl, rfl⟩) | (go_at_call 78; refine (size_any _ _ (by omega) (by omega)).mono ?_; rintro e w' ⟨rfl, rfl⟩) | (go_at_call 90; refine (HP'.out _).mono ?_; rintro e w1 ⟨rfl, hb1⟩) | (go_at_call 91; refine (signed_any _ _).mono ?_; rintro e w2 ⟨rfl, rfl⟩))
      refine (HQ.out (decide (a < 0) != decide (b < 0)) w1.heap.size _ (by simp) (by rw [World.cell?_alloc_new]; rfl)).mono ?_
      rintro e w3 ⟨rfl, hb3⟩
      go_wp2
      go_ret2
      exact ⟨by rw [HE.out]; rfl, hb1.trans (((Below.refl _ _).alloc (Nat.le_refl _) _).trans (hb3.mono (by simp)) |>.mono hb1.size)⟩
end
section
open Go.RowKit
/-- A power of ten. -/
def p10 (k : Nat) : Int := 10 ^ k
theorem p10_zero : p10 0 = 1 := rfl
theorem p10_succ (k : Nat) : p10 (k + 1) = p10 k * 10 := by unfold p10; rw [Int.pow_succ]
theorem p10_pos (k : Nat) : 0 < p10 k := by unfold p10; exact Int.pow_pos (by decide)
theorem p10_le {k : Nat} (h : k ≤ 18) : p10 k ≤ 1000000000000000000 := by
  have h1 : (10 : Int) ^ k ≤ 10 ^ 18 := by
    have := Nat.pow_le_pow_right (n := 10) (by decide) h
    exact_mod_cast this
  unfold p10
  have h2 : (10 : Int) ^ 18 = 1000000000000000000 := by decide
  omega
set_option maxHeartbeats 400000 in
theorem tenTo_any (n : Nat) (hn : n ≤ 18) (w : World) :
    Calls Tryz.prog 92 #[.int .i64 n] w fun e w' => e = .returned (.int .u64 (p10 n)) ∧ w' = w := by
  go_enter Tryz.func92, Tryz.ntmps92
  go_wp2
  go_loop [3, 5] (fun p i => ∃ k : Nat, k ≤ n ∧ i = .int .i64 k ∧ p = .int .u64 (p10 k)) (fun _ i => n - (intOf i).toNat)
  case atStart => exact ⟨0, Nat.zero_le _, rfl, by rw [p10_zero]⟩
  case round =>
    obtain ⟨k, hk, rfl, rfl⟩ := hrel
    have h1 := p10_pos k
    by_cases hlt : k < n
    · have HS := hide (p10_succ k)
      have h2 : p10 k ≤ 100000000000000000 := by
        have a := p10_le (k := k + 1) (by omega)
        rw [p10_succ] at a
        omega
      go_wp2
      go_round
      case rel => exact ⟨k + 1, by omega, by go_num, by rw [HS.out]⟩
      case measure => simp [intOf]; omega
    · have : k = n := by omega
      subst this
      go_wp2
      go_ret
      exact ⟨rfl, rfl⟩
set_option maxHeartbeats 400000 in
theorem round1_any (q d : Int) (neg : Bool) (bp bs bn : Nat) (w : World) (h0 : 0 ≤ q * d) (h1 : q * d ≤ 4000000000000000000)
    (hp : w.cell? ⟨bp, 0, none⟩ = some (.func (.func 124) #[] #[.pointer (some ⟨bn, 0, none⟩)])) (hs : w.cell? ⟨bs, 0, none⟩ = some (.int .u64 d)) (hn : w.cell? ⟨bn, 0, none⟩ = some (.bool neg)) :
    Calls Tryz.prog 93 #[.int .u64 q, .pointer (some ⟨bp, 0, none⟩), .pointer (some ⟨bs, 0, none⟩)] w fun e w' => e = .returned (.int .i64 (put neg (q * d))) ∧ w' = w := by
  go_enter Tryz.func93, Tryz.ntmps93
  go_wp2_with (go_at_call 124; refine (put_any _ _ _ _ h0 h1 hn).mono ?_; rintro e w2 ⟨rfl, rfl⟩)
  go_ret
  exact ⟨rfl, rfl⟩
theorem halfEven_mul {N d : Int} (hN : 0 ≤ N) (hd : 0 < d) : 0 ≤ halfEven N d * d ∧ halfEven N d * d ≤ N + d := by
  have h1 := Int.mul_ediv_add_emod N d
  have h2 := Int.emod_nonneg N (b := d) (by omega)
  have h3 := Int.ediv_nonneg hN (Int.le_of_lt hd)
  have h4 : N / d * d = d * (N / d) := Int.mul_comm _ _
  have h5 : 0 ≤ d * (N / d) := Int.mul_nonneg (by omega) h3
  unfold halfEven
  split
  · rw [Int.add_mul]; omega
  · omega
set_option maxHeartbeats 400000 in
theorem quotStep_any (lo d : Int) (neg : Bool) (bp bs bn : Nat) (w : World) (hlo : 0 ≤ lo) (hlo1 : lo ≤ 1000000000000000000) (hd0 : 0 < d) (hd1 : d ≤ 1000000000000000000)
    (hbp : bp < w.heap.size) (hbs : bs < w.heap.size) (hbn : bn < w.heap.size)
    (hp : w.cell? ⟨bp, 0, none⟩ = some (.func (.func 124) #[] #[.pointer (some ⟨bn, 0, none⟩)])) (hs : w.cell? ⟨bs, 0, none⟩ = some (.int .u64 d)) (hn : w.cell? ⟨bn, 0, none⟩ = some (.bool neg)) :
    Calls Tryz.prog 89 #[.agg #[.int .u64 0, .int .u64 lo], .int .u64 d, .func (.func 93) #[] #[.pointer (some ⟨bp, 0, none⟩), .pointer (some ⟨bs, 0, none⟩)]] w fun e w' => e = .returned (.tuple #[.int .i64 (told (put neg (halfEven lo d * d))).1, .int .i64 (told (put neg (halfEven lo d * d))).2]) ∧ Below w.heap.size w w' := by
  have HN : Hid (∀ w : World, Calls Tryz.prog 122 #[.agg #[.int .u64 0, .int .u64 lo], .int .u64 d] w fun e w' => e = .returned (.tuple #[.int .u64 (halfEven lo d), .int .i64 0]) ∧ Below w.heap.size w w') := by
    intro w
    have h := nearest_any 0 lo d w (Int.le_refl _) hlo hd0 hd1 (fun _ => div64_low lo d hlo (by omega) hd0 (by omega))
    rw [Int.zero_mul, Int.zero_add] at h
    have hq : lo / d ≤ lo := Int.ediv_le_self _ hlo
    rw [show nearN lo d = (halfEven lo d, 0) from by unfold nearN; rw [if_neg (by omega)]] at h
    exact h
  obtain ⟨m0, m1⟩ := halfEven_mul hlo hd0
  have m2 : halfEven lo d * d ≤ 4000000000000000000 := by omega
  clear m1 hd0 hd1 hlo hlo1
  generalize halfEven lo d = q at *
  have lp : bp < w.heap.size + 1 := by omega
  have ls : bs < w.heap.size + 1 := by omega
  have ln : bn < w.heap.size + 1 := by omega
  go_enter Tryz.func89, Tryz.ntmps89
  go_wp2_with (go_at_call 122; refine (HN.out _).mono ?_; rintro e w1 ⟨rfl, hb1⟩)
  have hp1 : w1.cell? ⟨bp, 0, none⟩ = some (.func (.func 124) #[] #[.pointer (some ⟨bn, 0, none⟩)]) := by
    rw [hb1.cell (p := ⟨bp, 0, none⟩) (by simpa using lp), ((Below.refl w.heap.size w).alloc (Nat.le_refl _) _).cell (p := ⟨bp, 0, none⟩) hbp]; exact hp
  have hs1 : w1.cell? ⟨bs, 0, none⟩ = some (.int .u64 d) := by
    rw [hb1.cell (p := ⟨bs, 0, none⟩) (by simpa using ls), ((Below.refl w.heap.size w).alloc (Nat.le_refl _) _).cell (p := ⟨bs, 0, none⟩) hbs]; exact hs
  have hn1 : w1.cell? ⟨bn, 0, none⟩ = some (.bool neg) := by
    rw [hb1.cell (p := ⟨bn, 0, none⟩) (by simpa using ln), ((Below.refl w.heap.size w).alloc (Nat.le_refl _) _).cell (p := ⟨bn, 0, none⟩) hbn]; exact hn
  go_wp2_with (first | (go_at_call 93; refine (round1_any _ _ _ _ _ _ _ m0 m2 hp1 hs1 hn1).mono ?_; rintro e w2 ⟨rfl, rfl⟩) | (go_at_call 85; refine (fitted_any _ _).mono ?_; rintro e w2 ⟨rfl, rfl⟩))
  go_ret2
  exact ⟨rfl, ((Below.refl _ _).alloc (Nat.le_refl _) _).trans (hb1.mono (by simp))⟩
theorem cell_third (W : World) (A B : Obj) (c : Value) (t : TypeId) : (((W.alloc A).alloc B).alloc (.cells #[c] t)).cell? ⟨W.heap.size + 1 + 1, 0, none⟩ = some c := by
  have h := World.cell?_alloc_new ((W.alloc A).alloc B) #[c] t 0
  simpa using h
theorem cell_second (W : World) (A C : Obj) (c : Value) (t : TypeId) : (((W.alloc A).alloc (.cells #[c] t)).alloc C).cell? ⟨W.heap.size + 1, 0, none⟩ = some c := by
  rw [World.cell?_alloc_lt _ _ _ (by simp)]
  simp
theorem cell_first (W : World) (B C : Obj) (c : Value) (t : TypeId) : (((W.alloc (.cells #[c] t)).alloc B).alloc C).cell? ⟨W.heap.size, 0, none⟩ = some c := by
  rw [World.cell?_alloc_lt _ _ _ (by simp; omega), World.cell?_alloc_lt _ _ _ (by simp)]
  simp
/-- Does Round take the places? -/
def plB (p : Int) : Bool := decide (-12 ≤ p) && decide (p ≤ 6)
/-- The number, rounded to places, or why not. -/
def roundR (n p : Int) : Int × Int := if fitsB n && plB p then told (put (decide (n < 0)) (halfEven (absI n) (p10 (6 - p).toNat) * p10 (6 - p).toNat)) else (0, 2)
set_option maxHeartbeats 2000000 in
theorem round_good (n p : Int) (w : World) (hf : fitsB n = true) (c1 : ¬ p < -12) (c2 : ¬ 6 < p) :
    Calls Tryz.prog 62 #[.int .i64 n, .int .i64 p] w fun e w' => e = .returned (.tuple #[.int .i64 (roundR n p).1, .int .i64 (roundR n p).2]) ∧ Below w.heap.size w w' := by
  have hpl : plB p = true := by unfold plB; simp; omega
  have HE : Hid (roundR n p = told (put (decide (n < 0)) (halfEven (absI n) (p10 (6 - p).toNat) * p10 (6 - p).toNat))) := by show roundR n p = _; simp [roundR, hf, hpl]
  obtain ⟨n1, n2⟩ := fitsB_true hf
  have HT := hide (tenTo_any (6 - p).toNat (by omega))
  rw [Int.toNat_of_nonneg (by omega)] at HT
  have d0 := p10_pos (6 - p).toNat
  have d1 := p10_le (k := (6 - p).toNat) (by omega)
  generalize p10 (6 - p).toNat = d at *
  have x0 := absI_nn n
  have x1 := absI_le n1 n2
  have hmf : ∀ (fn : Fn) (first cap : Array Value) (w : World), (Instr.makeFunc fn first cap).run Tryz.prog w = .ok (.func fn first cap) w := fun _ _ _ _ => rfl
  have HQ : Hid (∀ W : World, Calls Tryz.prog 89 #[.agg #[.int .u64 0, .int .u64 (absI n)], .int .u64 d, .func (.func 93) #[] #[.pointer (some ⟨W.heap.size + 1 + 1, 0, none⟩), .pointer (some ⟨W.heap.size + 1, 0, none⟩)]]
      (((W.alloc (.cells #[.bool (decide (n < 0))] 4)).alloc (.cells #[.int .u64 d] 131)).alloc (.cells #[.func (.func 124) #[] #[.pointer (some ⟨W.heap.size, 0, none⟩)]] 142)).drew
      fun e w' => e = .returned (.tuple #[.int .i64 (told (put (decide (n < 0)) (halfEven (absI n) d * d))).1, .int .i64 (told (put (decide (n < 0)) (halfEven (absI n) d * d))).2]) ∧ Below W.heap.size W w') := by
    intro W
    refine (quotStep_any (absI n) d (decide (n < 0)) (W.heap.size + 1 + 1) (W.heap.size + 1) W.heap.size _ x0 x1 d0 d1 (by simp) (by simp) (by simp; omega) (by exact cell_third _ _ _ _ _) (by exact cell_second _ _ _ _ _) (by exact cell_first _ _ _ _ _)).mono ?_
    rintro e w' ⟨rfl, hb⟩
    refine ⟨rfl, ?_⟩
    refine Below.trans ?_ (hb.mono (by simp; omega))
    exact ((((Below.refl _ _).alloc (Nat.le_refl _) _).alloc (by simp) _).alloc (by simp; omega) _).drew
  clear hpl
  go_enter Tryz.func62, Tryz.ntmps62
  go_wp2_with (first | (go_at_call 50; refine (fits_any _ _).mono ?_; rintro e w' ⟨rfl, rfl⟩) | (go_at_call 92; refine (HT.out _).mono ?_; rintro e w' ⟨rfl, rfl⟩) | (go_at_call 91; refine (signed_any _ _).mono ?_; rintro e w2 ⟨rfl, rfl⟩))
  go_region_with (first | (go_at_call 78; refine (size_any _ _ n1 n2).mono ?_; rintro e w3 ⟨rfl, rfl⟩) | (go_at_call 89; refine (HQ.out _).mono ?_; rintro e w4 ⟨rfl, hb4⟩))
  all_goals
    go_wp2
    go_ret2
    exact ⟨by rw [HE.out]; rfl, hb4⟩
set_option maxHeartbeats 400000 in
theorem round_any (n p : Int) (w : World) :
    Calls Tryz.prog 62 #[.int .i64 n, .int .i64 p] w fun e w' => e = .returned (.tuple #[.int .i64 (roundR n p).1, .int .i64 (roundR n p).2]) ∧ Below w.heap.size w w' := by
  cases hf : fitsB n
  · have HE : Hid (roundR n p = (0, 2)) := by show roundR n p = _; simp [roundR, hf]
    go_enter Tryz.func62, Tryz.ntmps62
    go_wp2_with (go_at_call 50; refine (fits_any _ _).mono ?_; rintro e w' ⟨rfl, rfl⟩)
    go_ret2
    exact ⟨by rw [HE.out]; rfl, Below.refl _ _⟩
  · by_cases c1 : p < -12
    · have HE : Hid (roundR n p = (0, 2)) := by show roundR n p = _; simp [roundR, plB]; omega
      go_enter Tryz.func62, Tryz.ntmps62
      go_wp2_with (go_at_call 50; refine (fits_any _ _).mono ?_; rintro e w' ⟨rfl, rfl⟩)
      go_ret2
      exact ⟨by rw [HE.out]; rfl, Below.refl _ _⟩
    · by_cases c2 : 6 < p
      · have HE : Hid (roundR n p = (0, 2)) := by show roundR n p = _; simp [roundR, plB]; omega
        go_enter Tryz.func62, Tryz.ntmps62
        go_wp2_with (go_at_call 50; refine (fits_any _ _).mono ?_; rintro e w' ⟨rfl, rfl⟩)
        go_ret2
        exact ⟨by rw [HE.out]; rfl, Below.refl _ _⟩
      · exact round_good n p w hf c1 c2
end
section
open Go.RowKit Go.Sort Go.Lib
/-- The library's table of powers of ten lies as it was laid. -/
def TabOk (w : World) : Prop := Lib.TabIs Tryz.prog w "internal/strconv.uint64pow10" .u64 Lib.pow10Tab
theorem gTab : Tryz.prog.globalNamed "internal/strconv.uint64pow10" = some 2 := by kernel_rfl
theorem tab_below {w w' : World} (h : TabOk w) (hb : Below w.heap.size w w') : TabOk w' := Joins.tab_stays gTab h hb (Nat.le_refl _)
/-- The new block's bytes are a row of zeros. -/
theorem holds_zero0 (w : World) (T : TypeId) (nd : Nat) (hs : nd ≤ 24) : Holds (fun (b : UInt8) => Value.int .u8 (b.toNat : Int)) (w.alloc (.cells zeros24 T)) w.heap.size 0 (Array.replicate nd (0 : UInt8)) := fun j hj => by
  have hj' : j < nd := by simpa using hj
  refine ⟨?_, World.frozen?_alloc_new _ _ _ _⟩
  rw [World.cell?_alloc_new, zeros24_at _ (by omega), getElem!_pos _ j hj]
  simp
theorem fin0 (w : World) (o : Obj) (dk : Array UInt8) (k : Nat) : Below w.heap.size w ((putRow (fun (b : UInt8) => Value.int .u8 (b.toNat : Int)) (w.alloc o) w.heap.size 0 dk).drewN k) := by
  rw [alloc_eq_grow]
  obtain ⟨os', _, e⟩ := putRow_grow_new (fun (b : UInt8) => Value.int .u8 (b.toNat : Int)) w #[o] w.heap.size 0 dk (Nat.le_refl _)
  rw [e]
  exact below_grow w.heap.size w (Nat.le_refl _) k os'
set_option maxHeartbeats 1000000 in
theorem iformatUint_any (u : Nat) (hu64 : u < 18446744073709551616) (w : World) (htab : TabOk w) :
    Calls Tryz.prog 111 #[.int .u64 u, .int .i64 10] w fun e w' => e = .returned (.string ⟨(Lib.decDigits u).toArray⟩) ∧ Below w.heap.size w w' := by
  by_cases hs : u < 100
  · go_enter Tryz.func111, Tryz.ntmps111
    go_wp2_with (go_at_call 133; refine (Tryz.internal_strconv_small u hs _).mono ?_; rintro e w' ⟨rfl, rfl⟩)
    go_ret
    exact ⟨rfl, Below.refl _ _⟩
  · have hu1 : 1 ≤ u := by omega
    have hnd20 : Lib.nDigits u ≤ 20 := by have := Lib.numDigits_eq u hu1 hu64; split at this <;> omega
    have hal : Tryz.prog.arrayLen 176 = 24 := by simp [Program.arrayLen, Tryz.underlying176]
    have hsl : ∀ W, (Instr.sliceAt 176 (.pointer (some ⟨w.heap.size, 0, none⟩)) none (some (.int .i64 (Lib.nDigits u : Int))) none).run Tryz.prog W = .ok (.slice (some ⟨w.heap.size, 0, none⟩) (Lib.nDigits u) 24) W := fun W => by
      rw [run_sliceAt_array_h W 176 ⟨w.heap.size, 0, none⟩ (by simp [Program.arrayLen, Program.elem, Tryz.underlying176]) .i64 (Lib.nDigits u : Int) (by omega) (by rw [hal]; omega)]
      go_simp
    have hH0 := holds_zero0 w 176 (Lib.nDigits u) (by omega)
    have hfmt := Tryz.internal_strconv_formatBase10 w.heap.size 0 24 u (Array.replicate (Lib.nDigits u) 0) (w.alloc (.cells Lib.zeros24 176)) hH0 (by rw [Array.size_replicate]; exact Lib.lt_pow_nDigits u) hu64 (by rw [Array.size_replicate]; omega)
    rw [Array.size_replicate] at hfmt
    have HH0 := hide hH0
    have HF := hide hfmt
    have HT := hide htab
    clear hH0 hal hfmt htab
    go_enter Tryz.func111, Tryz.ntmps111
    go_wp2_with (go_at_call 134; refine (Tryz.internal_strconv_numDigits u hu1 hu64 _ (Lib.tabIs_alloc HT.out _)).mono ?_; rintro e w' ⟨rfl, rfl⟩)
    refine HF.out.mono ?_
    rintro e w' ⟨rfl, k, v', dk, rfl, hF⟩
    have hcv : (convert 102 9 (.slice (some ⟨w.heap.size, 0, none⟩) (Lib.nDigits u) 24)).run Tryz.prog ((putRow (fun (b : UInt8) => Value.int .u8 (b.toNat : Int)) (w.alloc (.cells Lib.zeros24 176)) w.heap.size 0 dk).drewN k) = .ok (.string ⟨(Lib.decDigits u).toArray⟩) ((putRow (fun (b : UInt8) => Value.int .u8 (b.toNat : Int)) (w.alloc (.cells Lib.zeros24 176)) w.heap.size 0 dk).drewN k) := by
      have h := run_convert_bytes_back (P := Tryz.prog) ((putRow (fun (b : UInt8) => Value.int .u8 (b.toNat : Int)) (w.alloc (.cells Lib.zeros24 176)) w.heap.size 0 dk).drewN k) 102 9 5 ⟨w.heap.size, 0, none⟩ 24 (Lib.decDigits u) Tryz.underlying102 Tryz.underlying5 Tryz.underlying9 (fun j hj => by
        rw [Lib.row_is_numeral hF j hj, Lib.add_plain, World.cell?_drewN]
        exact cell?_putRow (fun (b : UInt8) => Value.int .u8 (b.toNat : Int)) _ w.heap.size 0 _ dk HH0.out (by rw [hF.size, Array.size_replicate]) j (by rw [hF.size]; rw [Lib.decDigits_length] at hj; exact hj))
      rw [Lib.decDigits_length] at h
      exact h
    go_wp2
    go_ret
    exact ⟨rfl, fin0 _ _ _ _⟩
set_option maxHeartbeats 400000 in
theorem formatUint_any (u : Int) (h0 : 0 ≤ u) (hu64 : u < 18446744073709551616) (w : World) (htab : TabOk w) :
    Calls Tryz.prog 77 #[.int .u64 u, .int .i64 10] w fun e w' => e = .returned (.string ⟨(Lib.decDigits u.toNat).toArray⟩) ∧ Below w.heap.size w w' := by
  obtain ⟨n, rfl⟩ := Int.eq_ofNat_of_zero_le h0
  rw [Int.toNat_natCast]
  have HF := hide (fun W hW => iformatUint_any n (by omega) W hW)
  have HT := hide htab
  clear htab
  go_enter Tryz.func77, Tryz.ntmps77
  go_wp2_with (go_at_call 111; refine (HF.out _ HT.out).mono ?_; rintro e w' ⟨rfl, hb⟩)
  go_ret
  exact ⟨rfl, hb⟩
end
section
open Go.RowKit
/-- A byte that is a digit. -/
def isDig (c : UInt8) : Bool := decide (48 ≤ c.toNat) && decide (c.toNat ≤ 57)
/-- One or more digits. -/
def digB (l : List UInt8) : Bool := l.all isDig && !l.isEmpty
theorem isDig_iff {c : UInt8} : isDig c = true ↔ 48 ≤ c.toNat ∧ c.toNat ≤ 57 := by unfold isDig; simp
/-- One digit more, up to MaxNum + 1. -/
def gath (n : Int) (c : UInt8) : Int := min (n * 10 + ((c.toNat : Int) - 48)) 1000000000000000001
/-- The number that digits make, or MaxNum + 1. -/
def gatherN (l : List UInt8) : Int := l.foldl gath 0
end
section
open Go.RowKit Go.Sort Go.Lib
/-- The fraction's digits, six of them, then those up to the last that is not 0. -/
def frac6 (m : Int) : List UInt8 := (Lib.decDigits (m % 1000000 + 1000000).toNat).tail
def fracT (m : Int) : List UInt8 := Lib.trimRightB (frac6 m) 48
/-- A number's text. -/
def textOf (n : Int) : List UInt8 :=
  (if n < 0 then [45] else []) ++ Lib.decDigits (absI n / 1000000).toNat ++ (if fracT (absI n) = [] then [] else 46 :: fracT (absI n))
theorem dec_len {u : Nat} (h : u < 18446744073709551616) : (Lib.decDigits u).length ≤ 20 := by
  rw [Lib.decDigits_length]
  by_cases h1 : 1 ≤ u
  · have := Lib.numDigits_eq u h1 h; split at this <;> omega
  · have : u = 0 := by omega
    subst this
    rw [Lib.nDigits_small (by omega)]; omega
theorem dec_pos (u : Nat) : 1 ≤ (Lib.decDigits u).length := by
  rw [Lib.decDigits_length]
  by_cases h : u < 10
  · rw [Lib.nDigits_small h]; exact Nat.le_refl _
  · rw [Lib.nDigits_big h]; omega
theorem extract_tail (B : List UInt8) : ((⟨B.toArray⟩ : ByteArray).extract 1 B.length).data.toList = B.tail := by
  simp [ByteArray.extract, ByteArray.copySlice]
  exact List.take_of_length_le (by simp)
theorem ba_app (a b : List UInt8) : (⟨a.toArray⟩ : ByteArray) ++ ⟨b.toArray⟩ = ⟨(a ++ b).toArray⟩ := ByteArray.ext (by simp)
theorem text_dot (S A F : List UInt8) : (⟨(S ++ A ++ 46 :: F).toArray⟩ : ByteArray) = (⟨S.toArray⟩ ++ ⟨A.toArray⟩) ++ (⟨#[46]⟩ ++ ⟨F.toArray⟩) := by
  have h : (⟨#[46]⟩ : ByteArray) = ⟨([46] : List UInt8).toArray⟩ := rfl
  rw [h, ba_app, ba_app, ba_app]; rfl
theorem trim_len (l : List UInt8) (c : UInt8) : (Lib.trimRightB l c).length ≤ l.length := by
  unfold Lib.trimRightB
  rw [List.length_reverse]
  refine Nat.le_trans (List.dropWhile_sublist _).length_le ?_
  rw [List.length_reverse]; exact Nat.le_refl _
set_option maxHeartbeats 1000000 in
theorem print_good (n : Int) (w : World) (h : fitsB n = true) (htab : TabOk w) :
    Calls Tryz.prog 55 #[.int .i64 n] w fun e w' => e = .returned (.tuple #[.string ⟨(textOf n).toArray⟩, .int .i64 0]) ∧ Below w.heap.size w w' := by
  obtain ⟨n1, n2⟩ := fitsB_true h
  have x0 := absI_nn n
  have x1 := absI_le n1 n2
  have HF1 : Hid (∀ W : World, TabOk W → Calls Tryz.prog 77 #[.int .u64 (absI n / 1000000), .int .i64 10] W fun e w' => e = .returned (.string ⟨(Lib.decDigits (absI n / 1000000).toNat).toArray⟩) ∧ Below W.heap.size W w') := fun W hW => formatUint_any _ (by omega) (by omega) W hW
  have HF2 : Hid (∀ W : World, TabOk W → Calls Tryz.prog 77 #[.int .u64 (absI n % 1000000 + 1000000), .int .i64 10] W fun e w' => e = .returned (.string ⟨(Lib.decDigits (absI n % 1000000 + 1000000).toNat).toArray⟩) ∧ Below W.heap.size W w') := fun W hW => formatUint_any _ (by omega) (by omega) W hW
  have HX : Hid (textOf n = (if n < 0 then [45] else []) ++ Lib.decDigits (absI n / 1000000).toNat ++ (if Lib.trimRightB (Lib.decDigits (absI n % 1000000 + 1000000).toNat).tail 48 = [] then [] else 46 :: Lib.trimRightB (Lib.decDigits (absI n % 1000000 + 1000000).toNat).tail 48)) := rfl
  have lA := dec_len (u := (absI n / 1000000).toNat) (by omega)
  have lB := dec_len (u := (absI n % 1000000 + 1000000).toNat) (by omega)
  have pB := dec_pos (absI n % 1000000 + 1000000).toNat
  generalize Lib.decDigits (absI n / 1000000).toNat = A at *
  generalize Lib.decDigits (absI n % 1000000 + 1000000).toNat = B at *
  have HR : Hid (∀ W : World, Calls Tryz.prog 79 #[.string ((⟨B.toArray⟩ : ByteArray).extract 1 B.length), .string ⟨#[48]⟩] W fun e w' => e = .returned (.string ⟨(Lib.trimRightB B.tail 48).toArray⟩) ∧ w' = W) := fun W => by
    have := Tryz.strings_TrimRight_one ((⟨B.toArray⟩ : ByteArray).extract 1 B.length) 48 (by decide) W (by
      show ((⟨B.toArray⟩ : ByteArray).extract 1 B.length).data.size ≤ _
      rw [← Array.length_toList, extract_tail, List.length_tail]; omega)
    rw [extract_tail] at this
    exact this
  have lF : (Lib.trimRightB B.tail 48).length ≤ 20 := by
    have h1 := trim_len B.tail 48
    rw [List.length_tail] at h1; omega
  generalize Lib.trimRightB B.tail 48 = F at *
  have HT := hide htab
  clear htab
  by_cases hn : n < 0
  · go_enter Tryz.func55, Tryz.ntmps55
    go_wp2_with (first | (go_at_call 50; refine (fits_any _ _).mono ?_; rintro e w' ⟨rfl, rfl⟩) | (go_at_call 78; refine (size_any _ _ n1 n2).mono ?_; rintro e w' ⟨rfl, rfl⟩))
    refine (HF1.out _ HT.out).mono ?_
    rintro e w1 ⟨rfl, hb1⟩
    have HT1 := hide (tab_below HT.out hb1)
    go_wp2_with (go_at_call 78; refine (size_any _ _ n1 n2).mono ?_; rintro e w1 ⟨rfl, rfl⟩)
    refine (HF2.out _ HT1.out).mono ?_
    rintro e w2 ⟨rfl, hb2⟩
    by_cases hF : F = []
    · subst hF
      go_wp2_with (go_at_call 79; refine (HR.out _).mono ?_; rintro e w3 ⟨rfl, rfl⟩)
      go_ret2
      refine ⟨?_, hb1.trans (hb2.mono hb1.size)⟩
      rw [HX.out, if_pos hn, if_pos trivial, List.append_nil, ← ba_app]
      rfl
    · have tF : F.isEmpty = false := by cases F with | nil => exact absurd rfl hF | cons _ _ => rfl
      go_wp2_with (go_at_call 79; refine (HR.out _).mono ?_; rintro e w3 ⟨rfl, rfl⟩)
      go_ret2
      refine ⟨?_, hb1.trans (hb2.mono hb1.size)⟩
      rw [HX.out, if_pos hn, if_neg hF, text_dot]
      rfl
  · go_enter Tryz.func55, Tryz.ntmps55
    go_wp2_with (first | (go_at_call 50; refine (fits_any _ _).mono ?_; rintro e w' ⟨rfl, rfl⟩) | (go_at_call 78; refine (size_any _ _ n1 n2).mono ?_; rintro e w' ⟨rfl, rfl⟩))
    refine (HF1.out _ HT.out).mono ?_
    rintro e w1 ⟨rfl, hb1⟩
    have HT1 := hide (tab_below HT.out hb1)
    go_wp2_with (go_at_call 78; refine (size_any _ _ n1 n2).mono ?_; rintro e w1 ⟨rfl, rfl⟩)
    refine (HF2.out _ HT1.out).mono ?_
    rintro e w2 ⟨rfl, hb2⟩
    by_cases hF : F = []
    · subst hF
      go_wp2_with (go_at_call 79; refine (HR.out _).mono ?_; rintro e w3 ⟨rfl, rfl⟩)
      go_ret2
      refine ⟨?_, hb1.trans (hb2.mono hb1.size)⟩
      rw [HX.out, if_neg (by omega), if_pos trivial, List.append_nil, ← ba_app]
      rfl
    · have tF : F.isEmpty = false := by cases F with | nil => exact absurd rfl hF | cons _ _ => rfl
      go_wp2_with (go_at_call 79; refine (HR.out _).mono ?_; rintro e w3 ⟨rfl, rfl⟩)
      go_ret2
      refine ⟨?_, hb1.trans (hb2.mono hb1.size)⟩
      rw [HX.out, if_neg (by omega), if_neg hF, text_dot]
      rfl
end
section
open Go.RowKit
/-- Is a text, without its minus and cut at its point, a number's? -/
def okB (c : List UInt8 × List UInt8 × Bool) : Bool := digB c.1 && (!c.2.2 || (digB c.2.1 && decide (c.2.1.length ≤ 6)))
/-- All digits of a number's text, six behind the point. -/
def allDigits (c : List UInt8 × List UInt8 × Bool) : List UInt8 := c.1 ++ c.2.1 ++ List.replicate (6 - c.2.1.length) 48
/-- What Parse says. -/
def parseR (l : List UInt8) : Int × Int :=
  if 40 < l.length then (0, 5)
  else if okB (Lib.cut (Lib.trimPrefix l [45]) [46]) then told (put (Lib.hasPrefix l [45]) (gatherN (allDigits (Lib.cut (Lib.trimPrefix l [45]) [46])))) else (0, 5)
end
section
open Go.RowKit
/-- One digit more. -/
def vstep (n : Int) (c : UInt8) : Int := n * 10 + ((c.toNat : Int) - 48)
/-- The number that digits make. -/
def val (l : List UInt8) : Int := l.foldl vstep 0
theorem fold_min : ∀ (l : List UInt8) (a : Int), 0 ≤ a → l.all isDig = true → l.foldl gath (min a 1000000000000000001) = min (l.foldl vstep a) 1000000000000000001
  | [], _, _, _ => rfl
  | c :: l, a, ha, h => by
    rw [List.all_cons, Bool.and_eq_true] at h
    have hc := isDig_iff.1 h.1
    rw [List.foldl_cons, List.foldl_cons]
    have e : gath (min a 1000000000000000001) c = min (vstep a c) 1000000000000000001 := by unfold gath vstep; omega
    rw [e]
    exact fold_min l _ (by unfold vstep; omega) h.2
theorem gather_val {l : List UInt8} (h : l.all isDig = true) : gatherN l = min (val l) 1000000000000000001 := fold_min l 0 (by decide) h
theorem fold_base : ∀ (l : List UInt8) (a : Int), l.foldl vstep a = a * p10 l.length + val l
  | [], a => by simp [val, p10]
  | c :: l, a => by
    have h1 := fold_base l (vstep a c)
    have h2 := fold_base l (vstep 0 c)
    unfold val
    rw [List.foldl_cons, List.foldl_cons, h1, h2, List.length_cons, p10_succ]
    have e : vstep a c = a * 10 + vstep 0 c := by unfold vstep; omega
    rw [e, Int.add_mul, Int.mul_assoc, Int.mul_comm 10]
    omega
theorem val_app (a b : List UInt8) : val (a ++ b) = val a * p10 b.length + val b := by
  have := fold_base b (val a)
  unfold val at *
  rw [List.foldl_append]; exact this
theorem val_cons (c : UInt8) (l : List UInt8) : val (c :: l) = ((c.toNat : Int) - 48) * p10 l.length + val l := by
  have := fold_base l (vstep 0 c)
  unfold val at *
  rw [List.foldl_cons, this]
  unfold vstep; simp
theorem val_bd : ∀ {l : List UInt8}, l.all isDig = true → 0 ≤ val l ∧ val l < p10 l.length
  | [], _ => by simp [val, p10]
  | c :: l, h => by
    rw [List.all_cons, Bool.and_eq_true] at h
    have hc := isDig_iff.1 h.1
    have hb := val_bd h.2
    rw [val_cons, List.length_cons, p10_succ]
    have h1 : 0 ≤ ((c.toNat : Int) - 48) * p10 l.length := Int.mul_nonneg (by omega) (by omega)
    have h2 : ((c.toNat : Int) - 48) * p10 l.length ≤ 9 * p10 l.length := Int.mul_le_mul_of_nonneg_right (by omega) (by omega)
    omega
theorem dig_ofNat {r : Nat} (h : r < 10) : isDig (UInt8.ofNat (48 + r)) = true ∧ ((UInt8.ofNat (48 + r)).toNat : Int) - 48 = r := by
  have e : (UInt8.ofNat (48 + r)).toNat = 48 + r := by rw [UInt8.toNat_ofNat']; omega
  exact ⟨isDig_iff.2 (by omega), by omega⟩
theorem dec_facts : ∀ (k u : Nat), u ≤ k → (Lib.decDigits u).all isDig = true ∧ val (Lib.decDigits u) = u
  | 0, u, hk => by
    have h : u < 10 := by omega
    have e : Lib.decDigits u = [UInt8.ofNat (48 + u)] := by rw [Lib.decDigits, dif_pos h]
    have hd := dig_ofNat h
    rw [e]
    generalize UInt8.ofNat (48 + u) = c at *
    refine ⟨by rw [List.all_cons, hd.1]; rfl, ?_⟩
    rw [val_cons, hd.2]; simp [val, p10]
  | k + 1, u, hk => by
    by_cases h : u < 10
    · have e : Lib.decDigits u = [UInt8.ofNat (48 + u)] := by rw [Lib.decDigits, dif_pos h]
      have hd := dig_ofNat h
      rw [e]
      generalize UInt8.ofNat (48 + u) = c at *
      refine ⟨by rw [List.all_cons, hd.1]; rfl, ?_⟩
      rw [val_cons, hd.2]; simp [val, p10]
    · have e : Lib.decDigits u = Lib.decDigits (u / 10) ++ [UInt8.ofNat (48 + u % 10)] := by rw [Lib.decDigits, dif_neg h]
      have ih := dec_facts k (u / 10) (by omega)
      have hd := dig_ofNat (r := u % 10) (by omega)
      rw [e]
      generalize UInt8.ofNat (48 + u % 10) = c at *
      refine ⟨by rw [List.all_append, ih.1, List.all_cons, hd.1]; rfl, ?_⟩
      rw [val_app, ih.2, val_cons, hd.2]
      simp [val, p10]
      omega
theorem dec_all (u : Nat) : (Lib.decDigits u).all isDig = true := (dec_facts u u (Nat.le_refl _)).1
theorem dec_val (u : Nat) : val (Lib.decDigits u) = u := (dec_facts u u (Nat.le_refl _)).2
theorem dec_ne (u : Nat) : Lib.decDigits u ≠ [] := fun h => by have := dec_pos u; rw [h] at this; simp at this
theorem seven {u : Nat} (h1 : 1000000 ≤ u) (h2 : u < 2000000) : (Lib.decDigits u).length = 7 := by
  rw [Lib.decDigits_length, Lib.nDigits_big (by omega), Lib.nDigits_big (by omega), Lib.nDigits_big (by omega), Lib.nDigits_big (by omega), Lib.nDigits_big (by omega), Lib.nDigits_big (by omega), Lib.nDigits_small (by omega)]
theorem frac6_facts (m : Int) : (frac6 m).length = 6 ∧ (frac6 m).all isDig = true ∧ val (frac6 m) = m % 1000000 := by
  unfold frac6
  obtain ⟨u, hu⟩ : ∃ u : Nat, (m % 1000000 + 1000000).toNat = u := ⟨_, rfl⟩
  rw [hu]
  have hl := seven (u := u) (by omega) (by omega)
  have ha := dec_all u
  have hv := dec_val u
  generalize Lib.decDigits u = l at *
  match l, hl, ha, hv with
  | c :: t, hl, ha, hv =>
    rw [List.all_cons, Bool.and_eq_true] at ha
    have hc := isDig_iff.1 ha.1
    have hb := val_bd ha.2
    have ht : t.length = 6 := by simpa using hl
    rw [val_cons, ht] at hv
    rw [ht] at hb
    have e6 : p10 6 = 1000000 := by decide
    rw [e6] at hv hb
    exact ⟨ht, ha.2, by show val t = _; omega⟩
theorem trim_back (l : List UInt8) (c : UInt8) : Lib.trimRightB l c ++ List.replicate (l.length - (Lib.trimRightB l c).length) c = l := by
  unfold Lib.trimRightB
  have h := List.takeWhile_append_dropWhile (p := (· == c)) (l := l.reverse)
  have h1 : l.reverse.takeWhile (· == c) = List.replicate (l.reverse.takeWhile (· == c)).length c := by
    rw [List.eq_replicate_iff]
    refine ⟨rfl, fun b hb => ?_⟩
    have := List.all_eq_true.1 (List.all_takeWhile (p := (· == c)) (l := l.reverse)) b hb
    simpa using this
  have h2 := congrArg List.length h
  rw [List.length_append, List.length_reverse] at h2
  rw [List.length_reverse]
  have h3 : l.length - (l.reverse.dropWhile (· == c)).length = (l.reverse.takeWhile (· == c)).length := by omega
  rw [h3, ← List.reverse_replicate, ← List.reverse_append, ← h1, h, List.reverse_reverse]
theorem fracT_facts (m : Int) : (fracT m).length ≤ 6 ∧ (fracT m).all isDig = true ∧ fracT m ++ List.replicate (6 - (fracT m).length) 48 = frac6 m := by
  obtain ⟨h1, h2, _⟩ := frac6_facts m
  have h3 := trim_back (frac6 m) 48
  have h4 := trim_len (frac6 m) 48
  rw [h1] at h3 h4
  refine ⟨h4, ?_, h3⟩
  rw [← h3, List.all_append, Bool.and_eq_true] at h2
  exact h2.1
theorem index_here : ∀ (W F : List UInt8), W.all isDig = true → Lib.index (W ++ 46 :: F) [46] = W.length
  | [], F, _ => by simp [Lib.index]
  | c :: W, F, h => by
    rw [List.all_cons, Bool.and_eq_true] at h
    have hc := isDig_iff.1 h.1
    have hne : (46 : UInt8) ≠ c := fun e => by subst e; simp at hc
    have ih := index_here W F h.2
    rw [List.cons_append, Lib.index, ih]
    have e : List.isPrefixOf [46] (c :: (W ++ 46 :: F)) = false := by simp [List.isPrefixOf, hne]
    rw [e]
    have e2 : ((W.length : Int) == -1) = false := by rw [beq_eq_false_iff_ne]; omega
    rw [e2]; simp
theorem index_none : ∀ (W : List UInt8), W.all isDig = true → Lib.index W [46] = -1
  | [], _ => by simp [Lib.index]
  | c :: W, h => by
    rw [List.all_cons, Bool.and_eq_true] at h
    have hc := isDig_iff.1 h.1
    have hne : (46 : UInt8) ≠ c := fun e => by subst e; simp at hc
    have ih := index_none W h.2
    rw [Lib.index, ih]
    have e : List.isPrefixOf [46] (c :: W) = false := by simp [List.isPrefixOf, hne]
    rw [e]; rfl
theorem cut_dot {W F : List UInt8} (h : W.all isDig = true) : Lib.cut (W ++ 46 :: F) [46] = (W, F, true) := by
  unfold Lib.cut
  rw [index_here W F h, if_pos (by omega), Int.toNat_natCast]
  simp
theorem cut_bare {W : List UInt8} (h : W.all isDig = true) : Lib.cut W [46] = (W, [], false) := by
  unfold Lib.cut
  rw [index_none W h, if_neg (by decide)]
theorem digB_of {l : List UInt8} (h : l.all isDig = true) (hn : l ≠ []) : digB l = true := by
  unfold digB; rw [h]; cases l with
  | nil => exact absurd rfl hn
  | cons _ _ => rfl
/-- Cut at its point, a number's text is its digits, and they make the number. -/
theorem body_read (A : Int) (h0 : 0 ≤ A) (h1 : A ≤ 1000000000000000000) : okB (Lib.cut (Lib.decDigits (A / 1000000).toNat ++ (if fracT A = [] then [] else 46 :: fracT A)) [46]) = true ∧
    gatherN (allDigits (Lib.cut (Lib.decDigits (A / 1000000).toNat ++ (if fracT A = [] then [] else 46 :: fracT A)) [46])) = A := by
  have hW := dec_all (A / 1000000).toNat
  have hWv := dec_val (A / 1000000).toNat
  have hWn := dec_ne (A / 1000000).toNat
  generalize Lib.decDigits (A / 1000000).toNat = W at *
  obtain ⟨f1, f2, f3⟩ := fracT_facts A
  obtain ⟨g1, g2, g3⟩ := frac6_facts A
  have hall : (W ++ frac6 A).all isDig = true := by rw [List.all_append, hW, g2]; rfl
  have hv : val (W ++ frac6 A) = A := by
    rw [val_app, g1, g3, hWv, show p10 6 = 1000000 by decide]; omega
  have hg : gatherN (W ++ frac6 A) = A := by rw [gather_val hall, hv]; omega
  by_cases hF : fracT A = []
  · rw [if_pos hF, List.append_nil, cut_bare hW]
    refine ⟨by simp [okB, digB_of hW hWn], ?_⟩
    have e : allDigits (W, [], false) = W ++ frac6 A := by
      rw [← f3, hF]; simp [allDigits]
    rw [e]; exact hg
  · rw [if_neg hF, cut_dot hW]
    refine ⟨by simp [okB, digB_of hW hWn, digB_of f2 hF, f1], ?_⟩
    have e : allDigits (W, fracT A, true) = W ++ frac6 A := by
      unfold allDigits; rw [List.append_assoc, f3]
    rw [e]; exact hg
/-- What is written is read as it was. -/
theorem parse_print {n : Int} (h : fitsB n = true) : parseR (textOf n) = (n, 0) := by
  obtain ⟨n1, n2⟩ := fitsB_true h
  have x0 := absI_nn n
  have x1 := absI_le n1 n2
  obtain ⟨b1, b2⟩ := body_read (absI n) x0 x1
  have hfl := (fracT_facts (absI n)).1
  have hdl := dec_len (u := (absI n / 1000000).toNat) (by omega)
  have hlen : (textOf n).length ≤ 40 := by
    unfold textOf
    rw [List.length_append, List.length_append]
    split <;> split <;> simp <;> omega
  have hW := dec_all (absI n / 1000000).toNat
  have hWn := dec_ne (absI n / 1000000).toNat
  have hput : put (decide (n < 0)) (absI n) = n := by
    unfold put absI
    by_cases hn : n < 0 <;> simp [hn]
  unfold parseR
  rw [if_neg (by omega)]
  have key : Lib.trimPrefix (textOf n) [45] = Lib.decDigits (absI n / 1000000).toNat ++ (if fracT (absI n) = [] then [] else 46 :: fracT (absI n)) ∧ Lib.hasPrefix (textOf n) [45] = decide (n < 0) := by
    unfold textOf Lib.trimPrefix Lib.hasPrefix
    generalize (if fracT (absI n) = [] then [] else 46 :: fracT (absI n)) = T
    generalize Lib.decDigits (absI n / 1000000).toNat = W at *
    by_cases hn : n < 0
    · simp [hn]
    · match W, hW, hWn with
      | c :: W, hW, _ =>
        rw [List.all_cons, Bool.and_eq_true] at hW
        have hc := isDig_iff.1 hW.1
        have hne : (45 : UInt8) ≠ c := fun e => by subst e; simp at hc
        simp [hn, List.isPrefixOf, hne]
  rw [key.1, key.2, if_pos b1, b2, hput, told_yes h]
end
section
open Go.RowKit
set_option maxHeartbeats 400000 in
theorem rsize_any (n : Int) (w : World) (h1 : -1000000000000000000 ≤ n) (h2 : n ≤ 1000000000000000000) :
    Calls Tryz.prog 18 #[.int .i64 n] w fun e w' => e = .returned (.int .i64 (absI n)) ∧ w' = w := by
  by_cases h : n < 0
  · have E := hide (absI_neg h)
    go_enter Tryz.func18, Tryz.ntmps18
    go_wp2
    go_ret
    exact ⟨by rw [E.out]; simp [Int.max_def]; omega, rfl⟩
  · have E := hide (absI_pos (n := n) (by omega))
    go_enter Tryz.func18, Tryz.ntmps18
    go_wp2
    go_ret
    exact ⟨by rw [E.out]; simp [Int.max_def]; omega, rfl⟩
/-- A number, rounded up or not, by what is left of a whole. -/
def evenR (n l d : Int) : Int := if d < 2 * l ∨ (2 * l = d ∧ n % 2 = 1) then n + 1 else n
set_option maxHeartbeats 400000 in
theorem even_any (n l d : Int) (w : World) (h0 : 0 ≤ n) (h1 : n ≤ 4000000000000000000) (l0 : 0 ≤ l) (l1 : l < d) (d1 : d ≤ 1000000000000000000) :
    Calls Tryz.prog 95 #[.int .i64 n, .int .i64 l, .int .i64 d] w fun e w' => e = .returned (.int .i64 (evenR n l d)) ∧ w' = w := by
  by_cases c1 : d - l < l
  · have E : Hid (evenR n l d = n + 1) := by show evenR n l d = _; unfold evenR; rw [if_pos (by omega)]
    go_enter Tryz.func95, Tryz.ntmps95
    go_wp2
    go_ret
    exact ⟨by rw [E.out]; rfl, rfl⟩
  · by_cases c2 : l = d - l
    · have t2 : (l == d - l) = true := beq_iff_eq.2 c2
      by_cases c3 : n % 2 = 1
      · have t3 : (n % 2 == 1) = true := beq_iff_eq.2 c3
        have E : Hid (evenR n l d = n + 1) := by show evenR n l d = _; unfold evenR; rw [if_pos (by omega)]
        clear c2 c3
        go_enter Tryz.func95, Tryz.ntmps95
        go_wp2
        go_ret
        exact ⟨by rw [E.out]; rfl, rfl⟩
      · have t3 : (n % 2 == 1) = false := beq_eq_false_iff_ne.2 c3
        have E : Hid (evenR n l d = n) := by show evenR n l d = _; unfold evenR; rw [if_neg (by omega)]
        clear c2 c3
        go_enter Tryz.func95, Tryz.ntmps95
        go_wp2
        go_ret
        exact ⟨by rw [E.out]; rfl, rfl⟩
    · have t2 : (l == d - l) = false := beq_eq_false_iff_ne.2 c2
      have E : Hid (evenR n l d = n) := by show evenR n l d = _; unfold evenR; rw [if_neg (by omega)]
      clear c2
      go_enter Tryz.func95, Tryz.ntmps95
      go_wp2
      go_ret
      exact ⟨by rw [E.out]; rfl, rfl⟩
/-- The greatest whole number that is not above n, or why not. -/
def floorR (n : Int) : Int × Int := if fitsB n then told (n - fmodR n 1000000) else (0, 2)
theorem fmodR_bd {a b : Int} (ha : -1000000000000000000 ≤ a) (ha' : a ≤ 1000000000000000000) (hb : -1000000000000000000 ≤ b) (hb' : b ≤ 1000000000000000000) : -2000000000000000000 ≤ fmodR a b ∧ fmodR a b ≤ 2000000000000000000 := by
  obtain ⟨r1, r2⟩ := tmod_bd (b := b) ha ha'
  unfold fmodR; split <;> omega
set_option maxHeartbeats 400000 in
theorem floor_any (n : Int) (w : World) :
    Calls Tryz.prog 59 #[.int .i64 n] w fun e w' => e = .returned (.tuple #[.int .i64 (floorR n).1, .int .i64 (floorR n).2]) ∧ w' = w := by
  cases hf : fitsB n
  · have HE : Hid (floorR n = (0, 2)) := by show floorR n = _; simp [floorR, hf]
    go_enter Tryz.func59, Tryz.ntmps59
    go_wp2_with (go_at_call 50; refine (fits_any _ _).mono ?_; rintro e w' ⟨rfl, rfl⟩)
    go_ret2
    exact ⟨by rw [HE.out]; rfl, rfl⟩
  · have HE : Hid (floorR n = told (n - fmodR n 1000000)) := by show floorR n = _; simp [floorR, hf]
    obtain ⟨n1, n2⟩ := fitsB_true hf
    obtain ⟨b1, b2⟩ := fmodR_bd n1 n2 (b := 1000000) (by decide) (by decide)
    have HM := hide (fun W : World => floorMod_any n 1000000 W n1 n2 (by decide) (by decide) (by decide))
    generalize fmodR n 1000000 = r at *
    go_enter Tryz.func59, Tryz.ntmps59
    go_wp2_with (first | (go_at_call 50; refine (fits_any _ _).mono ?_; rintro e w' ⟨rfl, rfl⟩) | (go_at_call 86; refine (HM.out _).mono ?_; rintro e w' ⟨rfl, rfl⟩) | (go_at_call 85; refine (fitted_any _ _).mono ?_; rintro e w' ⟨rfl, rfl⟩))
    go_ret2
    exact ⟨by rw [HE.out]; rfl, rfl⟩
set_option maxHeartbeats 400000 in
theorem rfloor_any (n : Int) (w : World) :
    Calls Tryz.prog 17 #[.int .i64 n] w fun e w' => e = .returned (.tuple #[.int .i64 (floorR n).1, .int .i64 (floorR n).2]) ∧ w' = w := by
  cases hf : fitsB n
  · have HE : Hid (floorR n = (0, 2)) := by show floorR n = _; simp [floorR, hf]
    go_enter Tryz.func17, Tryz.ntmps17
    go_wp2_with (go_at_call 37; refine (rfits_any _ _).mono ?_; rintro e w' ⟨rfl, rfl⟩)
    go_ret2
    exact ⟨by rw [HE.out]; rfl, rfl⟩
  · have HE : Hid (floorR n = told (n - fmodR n 1000000)) := by show floorR n = _; simp [floorR, hf]
    obtain ⟨n1, n2⟩ := fitsB_true hf
    obtain ⟨r1, r2⟩ := tmod_bd (b := 1000000) n1 n2
    by_cases s : n.tmod 1000000 < 0
    · have e : fmodR n 1000000 = n.tmod 1000000 + 1000000 := by unfold fmodR; rw [if_pos ⟨by omega, by simp [s]⟩]
      rw [e] at HE
      clear e
      go_enter Tryz.func17, Tryz.ntmps17
      go_wp2_with (first | (go_at_call 37; refine (rfits_any _ _).mono ?_; rintro e w' ⟨rfl, rfl⟩) | (go_at_call 42; refine (told_any _ _).mono ?_; rintro e w' ⟨rfl, rfl⟩))
      go_ret2
      exact ⟨by rw [HE.out]; rfl, rfl⟩
    · have e : fmodR n 1000000 = n.tmod 1000000 := by unfold fmodR; rw [if_neg (by simp [s])]
      rw [e] at HE
      clear e
      go_enter Tryz.func17, Tryz.ntmps17
      go_wp2_with (first | (go_at_call 37; refine (rfits_any _ _).mono ?_; rintro e w' ⟨rfl, rfl⟩) | (go_at_call 42; refine (told_any _ _).mono ?_; rintro e w' ⟨rfl, rfl⟩))
      go_ret2
      exact ⟨by rw [HE.out]; rfl, rfl⟩
end
section
open Go.RowKit
theorem told_put {q : Int} (neg : Bool) (h0 : 0 ≤ q) : told (put neg q) = if 1000000000000000000 < q then (0, 3) else (put neg q, 0) := by
  unfold told put
  by_cases h : 1000000000000000000 < q
  · rw [if_pos h, if_neg]
    cases neg
    · rw [fitsB_not (by simp; omega)]; decide
    · rw [fitsB_not (by simp; omega)]; decide
  · rw [if_neg h, if_pos]
    cases neg
    · exact fitsB_of (by simp; omega) (by simp; omega)
    · exact fitsB_of (by simp; omega) (by simp; omega)
set_option maxHeartbeats 2000000 in
theorem rround_good (n p : Int) (w : World) (hf : fitsB n = true) (c1 : ¬ p < -12) (c2 : ¬ 6 < p) :
    Calls Tryz.prog 69 #[.int .i64 n, .int .i64 p] w fun e w' => e = .returned (.tuple #[.int .i64 (roundR n p).1, .int .i64 (roundR n p).2]) ∧ Below w.heap.size w w' := by
  have hpl : plB p = true := by unfold plB; simp; omega
  obtain ⟨n1, n2⟩ := fitsB_true hf
  have x0 := absI_nn n
  have x1 := absI_le n1 n2
  have d0 := p10_pos (6 - p).toNat
  have d1 := p10_le (k := (6 - p).toNat) (by omega)
  obtain ⟨m0, m1⟩ := halfEven_mul x0 d0
  have HE : Hid (roundR n p = if 1000000000000000000 < halfEven (absI n) (p10 (6 - p).toNat) * p10 (6 - p).toNat then (0, 3) else (put (decide (n < 0)) (halfEven (absI n) (p10 (6 - p).toNat) * p10 (6 - p).toNat), 0)) := by
    show roundR n p = _
    rw [← told_put _ m0]; simp [roundR, hf, hpl]
  rw [Int.mul_comm] at HE m0 m1
  clear hpl
  go_enter Tryz.func69, Tryz.ntmps69
  go_wp2_with (go_at_call 37; refine (rfits_any _ _).mono ?_; rintro e w' ⟨rfl, rfl⟩)
  go_loop [6, 7] (fun t i => ∃ k : Nat, (k : Int) ≤ 6 - p ∧ i = .int .i64 (p + k) ∧ t = .int .i64 (p10 k)) (fun _ i => (6 - intOf i).toNat)
  case atStart => exact ⟨0, by omega, by simp, by rw [p10_zero]⟩
  case round =>
    obtain ⟨k, hk, rfl, rfl⟩ := hrel
    have h1 := p10_pos k
    by_cases hlt : p + k < 6
    · have HS := hide (p10_succ k)
      have h2 : p10 k ≤ 100000000000000000 := by
        have a := p10_le (k := k + 1) (by omega)
        rw [p10_succ] at a
        omega
      clear HE m0 m1
      go_wp2
      go_round
      case rel => exact ⟨k + 1, by omega, by go_num, by rw [HS.out, Int.mul_comm]⟩
      case measure => simp [intOf]; omega
    · have ek : (6 - p).toNat = k := by omega
      rw [ek] at HE m0 m1 d0 d1
      clear ek
      generalize p10 k = d at *
      have dz : (d == 0) = false := beq_eq_false_iff_ne.2 (by omega)
      have q0 : 0 ≤ absI n / d := Int.ediv_nonneg x0 (by omega)
      have q1 : absI n / d ≤ absI n := Int.ediv_le_self _ x0
      have r0 : 0 ≤ absI n % d := Int.emod_nonneg _ (by omega)
      have r1 : absI n % d < d := Int.emod_lt_of_pos _ d0
      have HV : Hid (∀ W : World, Calls Tryz.prog 95 #[.int .i64 (absI n / d), .int .i64 (absI n % d), .int .i64 d] W fun e w' => e = .returned (.int .i64 (halfEven (absI n) d)) ∧ w' = W) := fun W => even_any _ _ _ W q0 (by omega) r0 r1 d1
      have m2 : d * halfEven (absI n) d ≤ 4000000000000000000 := by omega
      have HZ := hide (fun W : World => rsize_any n W n1 n2)
      generalize halfEven (absI n) d = E at *
      clear m1
      go_wp2_with fail
      go_quiet (first | (go_at_call 18; exact Calls.quiet_of_same (HZ.out _)) | (go_at_call 95; exact Calls.quiet_of_same (HV.out _)))
      by_cases hbig : 1000000000000000000 < d * E
      · rw [if_pos hbig] at HE
        go_wp2
        go_ret2
        exact ⟨by rw [HE.out]; rfl, below_drewN (Below.refl _ _) _⟩
      · rw [if_neg hbig] at HE
        by_cases hn : n < 0
        · have HP : Hid (put (decide (n < 0)) (d * E) = -(d * E)) := by show put _ _ = _; simp [put, hn]
          go_wp2
          go_ret2
          exact ⟨by rw [HE.out, HP.out]; rfl, below_drewN (Below.refl _ _) _⟩
        · have HP : Hid (put (decide (n < 0)) (d * E) = d * E) := by show put _ _ = _; simp [put, hn]
          go_wp2
          go_ret2
          exact ⟨by rw [HE.out, HP.out]; rfl, below_drewN (Below.refl _ _) _⟩
end
section
open Go.RowKit
/-- One byte, laid in a new block, as a text. -/
theorem one_byte (w : World) (u : Nat) (c : UInt8) (hc : (c.toNat : Int) = 48 + (u : Int) % 10) : (convert 102 9 (.slice (some ⟨w.heap.size, 0, none⟩) 1 1)).run Tryz.prog (w.alloc (.cells #[.int .u8 (48 + (u : Int) % 10)] 5)) = .ok (.string ⟨([c] : List UInt8).toArray⟩) (w.alloc (.cells #[.int .u8 (48 + (u : Int) % 10)] 5)) := by
  have h := run_convert_bytes_back (P := Tryz.prog) (w.alloc (.cells #[.int .u8 (48 + (u : Int) % 10)] 5)) 102 9 5 ⟨w.heap.size, 0, none⟩ 1 [c] Tryz.underlying102 Tryz.underlying5 Tryz.underlying9 (fun j hj => by
    have : j = 0 := by simpa using hj
    subst this
    show (w.alloc (.cells #[.int .u8 (48 + (u : Int) % 10)] 5)).cell? (Addr.add ⟨w.heap.size, 0, none⟩ 0) = some (.int .u8 (c.toNat : Int))
    rw [hc]
    exact World.cell?_alloc_new _ _ _ 0)
  exact h
theorem dig_byte (u : Nat) : ((UInt8.ofNat (48 + u % 10)).toNat : Int) = 48 + (u : Int) % 10 := by
  have := (dig_ofNat (r := u % 10) (by omega)).2
  omega
set_option maxRecDepth 100000 in
set_option maxHeartbeats 1000000 in
theorem rdigits_ind : ∀ (k : Nat) (u : Nat) (w : World), u ≤ k → u ≤ 4000000000000000000 →
    Calls Tryz.prog 67 #[.int .i64 u] w fun e w' => e = .returned (.string ⟨(Lib.decDigits u).toArray⟩) ∧ Below w.heap.size w w' := by
  intro k
  induction k with
  | zero =>
    intro u w hk hu
    have h : u < 10 := by omega
    have hcv := one_byte w u _ (dig_byte u)
    have HE : Hid (Lib.decDigits u = [UInt8.ofNat (48 + u % 10)]) := by
      show Lib.decDigits u = _
      rw [Lib.decDigits, dif_pos h, Nat.mod_eq_of_lt h]
    generalize UInt8.ofNat (48 + u % 10) = c at *
    go_enter Tryz.func67, Tryz.ntmps67
    go_wp2
    go_ret
    exact ⟨by rw [HE.out]; rfl, (Below.refl _ _).alloc (Nat.le_refl _) _⟩
  | succ k ih =>
    intro u w hk hu
    have IH := hide ih
    clear ih
    have hcv := one_byte w u _ (dig_byte u)
    by_cases h : u < 10
    · have HE : Hid (Lib.decDigits u = [UInt8.ofNat (48 + u % 10)]) := by
        show Lib.decDigits u = _
        rw [Lib.decDigits, dif_pos h, Nat.mod_eq_of_lt h]
      generalize UInt8.ofNat (48 + u % 10) = c at *
      go_enter Tryz.func67, Tryz.ntmps67
      go_wp2
      go_ret
      exact ⟨by rw [HE.out]; rfl, (Below.refl _ _).alloc (Nat.le_refl _) _⟩
    · have HE : Hid (Lib.decDigits u = Lib.decDigits (u / 10) ++ [UInt8.ofNat (48 + u % 10)]) := by
        show Lib.decDigits u = _
        rw [Lib.decDigits, dif_neg h]
      have HI : Hid (∀ W : World, Calls Tryz.prog 67 #[.int .i64 ((u : Int) / 10)] W fun e w' => e = .returned (.string ⟨(Lib.decDigits (u / 10)).toArray⟩) ∧ Below W.heap.size W w') := fun W => by
        have := IH.out (u / 10) W (by omega) (by omega)
        rw [show ((u / 10 : Nat) : Int) = (u : Int) / 10 from by omega] at this
        exact this
      have hl := dec_len (u := u / 10) (by omega)
      clear IH
      generalize UInt8.ofNat (48 + u % 10) = c at *
      generalize Lib.decDigits (u / 10) = D at *
      go_enter Tryz.func67, Tryz.ntmps67
      go_wp2_with (go_at_call 67; refine (HI.out _).mono ?_; rintro e w1 ⟨rfl, b1⟩)
      go_ret
      refine ⟨by rw [HE.out, ← ba_app]; rfl, ?_⟩
      exact ((Below.refl _ _).alloc (Nat.le_refl _) _).trans (b1.mono (by simp))
theorem rdigits_any (u : Int) (w : World) (h0 : 0 ≤ u) (h1 : u ≤ 4000000000000000000) :
    Calls Tryz.prog 67 #[.int .i64 u] w fun e w' => e = .returned (.string ⟨(Lib.decDigits u.toNat).toArray⟩) ∧ Below w.heap.size w w' := by
  obtain ⟨n, rfl⟩ := Int.eq_ofNat_of_zero_le h0
  rw [Int.toNat_natCast]
  exact rdigits_ind n n w (Nat.le_refl _) (by omega)
end
end Go.Proofs.YtnhaapcpklfkpaaGreatDoor
