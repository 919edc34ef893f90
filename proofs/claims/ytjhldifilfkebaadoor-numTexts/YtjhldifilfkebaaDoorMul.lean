/-
  The contracts of num.product, num.quotient (with the sign put back by signed's closure), num.Mul, num.Div, num.Mod.
-/
import Derived.Test.YtjhldifilfkebaaDoorNear
import Derived.Test.YtjhldifilfkebaaDoorShelf
namespace Go.Proofs.YtjhldifilfkebaaDoor
open Go.RowKit

theorem mul64_any (x y : Int) (w : World) (hx0 : 0 ≤ x) (hx : x < 18446744073709551616) (hy0 : 0 ≤ y) (hy : y < 18446744073709551616) :
    Calls Tryd.prog 53 #[.int .u64 x, .int .u64 y] w fun e w' => e = .returned (.tuple #[.int .u64 (x * y / 18446744073709551616), .int .u64 (x * y % 18446744073709551616)]) ∧ w' = w := by
  obtain ⟨m, rfl⟩ := Int.eq_ofNat_of_zero_le hx0
  obtain ⟨n, rfl⟩ := Int.eq_ofNat_of_zero_le hy0
  have := Tryd.bits_Mul64 m n (by omega) (by omega) w
  simpa using this

set_option maxHeartbeats 400000 in
theorem product_any (x y : Int) (w : World) (hx0 : 0 ≤ x) (hx : x < 18446744073709551616) (hy0 : 0 ≤ y) (hy : y < 18446744073709551616) :
    Calls Tryd.prog 33 #[.int .u64 x, .int .u64 y] w fun e w' => e = .returned (.agg #[.int .u64 (x * y / 18446744073709551616), .int .u64 (x * y % 18446744073709551616)]) ∧ Below w.heap.size w w' := by
  have HM : Hid (∀ w : World, Calls Tryd.prog 53 #[.int .u64 x, .int .u64 y] w fun e w' => e = .returned (.tuple #[.int .u64 (x * y / 18446744073709551616), .int .u64 (x * y % 18446744073709551616)]) ∧ w' = w) := fun w => mul64_any x y w hx0 hx hy0 hy
  generalize x * y / 18446744073709551616 = hi at *
  generalize x * y % 18446744073709551616 = lo at *
  clear hx0 hx hy0 hy
  go_enter Tryd.func33, Tryd.ntmps33
  go_wp2_with (go_at_call 53; refine (HM.out _).mono ?_; rintro e w1 ⟨rfl, rfl⟩)
  exact bodyPost_ret (v := .agg #[.int .u64 hi, .int .u64 lo]) (by simp [results, Tryd.results33, go_sem]) rfl ⟨rfl, (Below.refl _ _).alloc (Nat.le_refl _) _⟩

theorem div_big {hi lo d : Int} (hd : 0 < d) (hlo : 0 ≤ lo) (h : d ≤ hi) : 1000000000000000000 < (hi * 18446744073709551616 + lo) / d := by
  have h2 : (18446744073709551616 : Int) ≤ (hi * 18446744073709551616 + lo) / d := by
    rw [Int.le_ediv_iff_mul_le hd]
    have : 18446744073709551616 * d ≤ 18446744073709551616 * hi := Int.mul_le_mul_of_nonneg_left h (by omega)
    omega
  omega

theorem nearest_any (hi lo d : Int) (w : World) (h0 : 0 ≤ hi) (hlo : 0 ≤ lo) (hd0 : 0 < d) (hd1 : d ≤ 1000000000000000000) (hd : hi < d → DivAt hi lo d) :
    Calls Tryd.prog 52 #[.agg #[.int .u64 hi, .int .u64 lo], .int .u64 d] w fun e w' => e = .returned (.tuple #[.int .u64 (nearN (hi * 18446744073709551616 + lo) d).1, .int .i64 (nearN (hi * 18446744073709551616 + lo) d).2]) ∧ Below w.heap.size w w' := by
  by_cases h : d ≤ hi
  · rw [show nearN (hi * 18446744073709551616 + lo) d = (0, 3) from by unfold nearN; rw [if_pos (div_big hd0 hlo h)]]
    exact nearest_over hi lo d w h
  · by_cases hb : 1000000000000000000 < (hi * 18446744073709551616 + lo) / d
    · rw [show nearN (hi * 18446744073709551616 + lo) d = (0, 3) from by unfold nearN; rw [if_pos hb]]
      exact nearest_big hi lo d _ _ w (by omega) (hd (by omega)) rfl rfl hb
    · rw [show nearN (hi * 18446744073709551616 + lo) d = (halfEven (hi * 18446744073709551616 + lo) d, 0) from by unfold nearN; rw [if_neg hb]]
      unfold halfEven
      exact nearest_fit hi lo d _ _ w (by omega) (hd (by omega)) rfl rfl (Int.ediv_nonneg (by omega) (by omega)) (by omega) (Int.emod_nonneg _ (by omega)) (Int.emod_lt_of_pos _ hd0) hd1

/-- A number with a sign. -/
def put (neg : Bool) (q : Int) : Int := if neg then -q else q
/-- N / d, rounded, with a sign, or why not. -/
def quoR (N d : Int) (neg : Bool) : Int × Int := if (nearN N d).2 = 0 then told (put neg (nearN N d).1) else (0, (nearN N d).2)

theorem halfEven_le {N d : Int} (h : ¬ 1000000000000000000 < N / d) : halfEven N d ≤ 1000000000000000001 := by
  unfold halfEven; split <;> omega
theorem halfEven_nn {N d : Int} (hN : 0 ≤ N) (hd : 0 < d) : 0 ≤ halfEven N d := by
  have := Int.ediv_nonneg hN (Int.le_of_lt hd)
  unfold halfEven; split <;> omega

set_option maxHeartbeats 400000 in
theorem put_any (q : Int) (neg : Bool) (b : Nat) (w : World) (h0 : 0 ≤ q) (h1 : q ≤ 4000000000000000000) (hc : w.cell? ⟨b, 0, none⟩ = some (.bool neg)) :
    Calls Tryd.prog 54 #[.int .u64 q, .pointer (some ⟨b, 0, none⟩)] w fun e w' => e = .returned (.int .i64 (put neg q)) ∧ w' = w := by
  cases neg
  all_goals
    go_enter Tryd.func54, Tryd.ntmps54
    go_wp2
    go_ret
    exact ⟨by simp [put], rfl⟩

set_option maxHeartbeats 400000 in
theorem quotient_any (hi lo d : Int) (neg : Bool) (b : Nat) (w : World) (h0 : 0 ≤ hi) (hlo : 0 ≤ lo) (hd0 : 0 < d) (hd1 : d ≤ 1000000000000000000) (hd : hi < d → DivAt hi lo d) (hb : b < w.heap.size) (hc : w.cell? ⟨b, 0, none⟩ = some (.bool neg)) :
    Calls Tryd.prog 32 #[.agg #[.int .u64 hi, .int .u64 lo], .int .u64 d, .func (.func 54) #[] #[.pointer (some ⟨b, 0, none⟩)]] w fun e w' => e = .returned (.tuple #[.int .i64 (quoR (hi * 18446744073709551616 + lo) d neg).1, .int .i64 (quoR (hi * 18446744073709551616 + lo) d neg).2]) ∧ Below w.heap.size w w' := by
  have HN : Hid (∀ w : World, Calls Tryd.prog 52 #[.agg #[.int .u64 hi, .int .u64 lo], .int .u64 d] w fun e w' => e = .returned (.tuple #[.int .u64 (nearN (hi * 18446744073709551616 + lo) d).1, .int .i64 (nearN (hi * 18446744073709551616 + lo) d).2]) ∧ Below w.heap.size w w') := fun w => nearest_any hi lo d w h0 hlo hd0 hd1 hd
  have hN : 0 ≤ hi * 18446744073709551616 + lo := by omega
  generalize hi * 18446744073709551616 + lo = N at *
  clear hd h0 hlo
  unfold quoR
  by_cases hbig : 1000000000000000000 < N / d
  · have e1 : nearN N d = (0, 3) := by unfold nearN; rw [if_pos hbig]
    rw [e1] at HN ⊢
    clear e1 hbig hN hd0 hd1
    rw [if_neg (by decide)]
    go_enter Tryd.func32, Tryd.ntmps32
    go_wp2_with (go_at_call 52; refine (HN.out _).mono ?_; rintro e w1 ⟨rfl, hb1⟩)
    go_ret2
    exact ⟨rfl, ((Below.refl _ _).alloc (Nat.le_refl _) _).trans (hb1.mono (by simp))⟩
  · have e1 : nearN N d = (halfEven N d, 0) := by unfold nearN; rw [if_neg hbig]
    have b1 := halfEven_le hbig
    have b2 := halfEven_nn hN hd0
    rw [e1] at HN ⊢
    clear e1 hbig hN hd0 hd1
    rw [if_pos rfl]
    generalize halfEven N d = q at *
    have hlt : b < w.heap.size + 1 := by omega
    go_enter Tryd.func32, Tryd.ntmps32
    go_wp2_with (go_at_call 52; refine (HN.out _).mono ?_; rintro e w1 ⟨rfl, hb1⟩)
    have hc1 : w1.cell? ⟨b, 0, none⟩ = some (.bool neg) := by
      rw [hb1.cell (p := ⟨b, 0, none⟩) (by simpa using hlt)]
      rw [((Below.refl w.heap.size w).alloc (Nat.le_refl _) _).cell (p := ⟨b, 0, none⟩) hb]
      exact hc
    go_wp2_with (first | (go_at_call 54; refine (put_any _ _ _ _ b2 (by omega) hc1).mono ?_; rintro e w2 ⟨rfl, rfl⟩) | (go_at_call 30; refine (fitted_any _ _).mono ?_; rintro e w2 ⟨rfl, rfl⟩))
    go_ret2
    exact ⟨rfl, ((Below.refl _ _).alloc (Nat.le_refl _) _).trans (hb1.mono (by simp))⟩
end Go.Proofs.YtjhldifilfkebaaDoor
