/-
  The contracts of num.Mul, num.Div, num.Mod, of Div64 where the high word is 0, and of the answer's Mod.
-/
import Derived.Test.YtjhldifilfkebaaDoorMul
namespace Go.Proofs.YtjhldifilfkebaaDoor
open Go.RowKit

set_option maxHeartbeats 400000 in
theorem div64_low (lo d : Int) (h0 : 0 ≤ lo) (h1 : lo < 18446744073709551616) (hd : 0 < d) (hd1 : d < 18446744073709551616) : DivAt 0 lo d := by
  intro w
  have e1 : (0 * 18446744073709551616 + lo) / d = lo / d := by rw [Int.zero_mul, Int.zero_add]
  have e2 : (0 * 18446744073709551616 + lo) % d = lo % d := by rw [Int.zero_mul, Int.zero_add]
  rw [e1, e2]
  clear e1 e2
  go_enter Tryd.func62, Tryd.ntmps62
  go_wp2_with fail
  go_quiet (fail)
  go_wp2
  go_ret2
  exact ⟨rfl, below_drewN (Below.refl _ _) _⟩

/-- Why a cannot be divided by b. -/
def divisR (a b : Int) : Int := if fitsB a && fitsB b then (if b = 0 then 4 else 0) else 2
set_option maxHeartbeats 400000 in
theorem divisible_any (a b : Int) (w : World) :
    Calls Tryd.prog 39 #[.int .i64 a, .int .i64 b] w fun e w' => e = .returned (.int .i64 (divisR a b)) ∧ w' = w := by
  cases ha : fitsB a
  · go_enter Tryd.func39, Tryd.ntmps39
    go_wp2_with (go_at_call 13; refine (fits_any _ _).mono ?_; rintro e w' ⟨rfl, rfl⟩)
    go_ret
    exact ⟨by simp [divisR, ha], rfl⟩
  · cases hb : fitsB b
    · go_enter Tryd.func39, Tryd.ntmps39
      go_wp2_with (go_at_call 13; refine (fits_any _ _).mono ?_; rintro e w' ⟨rfl, rfl⟩)
      go_ret
      exact ⟨by simp [divisR, hb], rfl⟩
    · by_cases hz : b = 0
      · have t : (b == 0) = true := beq_iff_eq.2 hz
        have HZ : Hid (b = 0) := hz
        clear hz
        go_enter Tryd.func39, Tryd.ntmps39
        go_wp2_with (go_at_call 13; refine (fits_any _ _).mono ?_; rintro e w' ⟨rfl, rfl⟩)
        go_ret
        exact ⟨by rw [show divisR a b = 4 from by unfold divisR; rw [ha, hb]; simp [HZ.out]]; rfl, rfl⟩
      · have t : (b == 0) = false := beq_eq_false_iff_ne.2 hz
        go_enter Tryd.func39, Tryd.ntmps39
        go_wp2_with (go_at_call 13; refine (fits_any _ _).mono ?_; rintro e w' ⟨rfl, rfl⟩)
        go_ret
        exact ⟨by simp [divisR, ha, hb, hz], rfl⟩

/-- What is left of a, of b's sign. -/
def fmodR (a b : Int) : Int := if a.tmod b ≠ 0 ∧ (decide (a.tmod b < 0) != decide (b < 0)) = true then a.tmod b + b else a.tmod b
theorem tmod_bd {a b : Int} (ha : -1000000000000000000 ≤ a) (ha' : a ≤ 1000000000000000000) : -1000000000000000000 ≤ a.tmod b ∧ a.tmod b ≤ 1000000000000000000 := by
  have h := Int.natAbs_tmod a b
  have : (a.tmod b).natAbs ≤ a.natAbs := by rw [h]; exact Nat.mod_le _ _
  omega

theorem bool_lt {r : Int} (h : r < 0) : decide (r < 0) = true := by simp [h]
theorem bool_ge {r : Int} (h : ¬ r < 0) : decide (r < 0) = false := by simp [h]

set_option maxHeartbeats 400000 in
theorem floorMod_any (a b : Int) (w : World) (ha : -1000000000000000000 ≤ a) (ha' : a ≤ 1000000000000000000) (hb : -1000000000000000000 ≤ b) (hb' : b ≤ 1000000000000000000) (hz : b ≠ 0) :
    Calls Tryd.prog 40 #[.int .i64 a, .int .i64 b] w fun e w' => e = .returned (.int .i64 (fmodR a b)) ∧ w' = w := by
  obtain ⟨r1, r2⟩ := tmod_bd (b := b) ha ha'
  have tz : (b == 0) = false := beq_eq_false_iff_ne.2 hz
  by_cases hr : a.tmod b = 0
  · have e1 : fmodR a b = a.tmod b := by unfold fmodR; rw [if_neg (by simp [hr])]
    have t : (a.tmod b != 0) = false := by simp [hr]
    have HE : Hid (fmodR a b = a.tmod b) := e1
    clear e1 hr
    go_enter Tryd.func40, Tryd.ntmps40
    go_wp2
    go_ret
    exact ⟨by rw [HE.out]; rfl, rfl⟩
  · have t : (a.tmod b != 0) = true := by simp [hr]
    by_cases s1 : a.tmod b < 0
    · by_cases s2 : b < 0
      · have HE : Hid (fmodR a b = a.tmod b) := by show fmodR a b = _; unfold fmodR; rw [if_neg (by simp [s1, s2])]
        clear hr
        go_enter Tryd.func40, Tryd.ntmps40
        go_wp2
        go_ret
        exact ⟨by rw [HE.out]; rfl, rfl⟩
      · have HE : Hid (fmodR a b = a.tmod b + b) := by show fmodR a b = _; unfold fmodR; rw [if_pos ⟨hr, by simp [s1, s2]⟩]
        clear hr
        go_enter Tryd.func40, Tryd.ntmps40
        go_wp2
        go_ret
        exact ⟨by rw [HE.out]; rfl, rfl⟩
    · by_cases s2 : b < 0
      · have HE : Hid (fmodR a b = a.tmod b + b) := by show fmodR a b = _; unfold fmodR; rw [if_pos ⟨hr, by simp [s1, s2]⟩]
        clear hr
        go_enter Tryd.func40, Tryd.ntmps40
        go_wp2
        go_ret
        exact ⟨by rw [HE.out]; rfl, rfl⟩
      · have HE : Hid (fmodR a b = a.tmod b) := by show fmodR a b = _; unfold fmodR; rw [if_neg (by simp [s1, s2])]
        clear hr
        go_enter Tryd.func40, Tryd.ntmps40
        go_wp2
        go_ret
        exact ⟨by rw [HE.out]; rfl, rfl⟩
end Go.Proofs.YtjhldifilfkebaaDoor
