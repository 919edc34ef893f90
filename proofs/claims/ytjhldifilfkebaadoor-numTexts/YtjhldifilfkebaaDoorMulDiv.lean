/-
  The contracts of num.Mul, num.Div and num.Mod: what they return, said by plain functions; Div64 at the place is a hypothesis.
-/
import Derived.Test.YtjhldifilfkebaaDoorArith
namespace Go.Proofs.YtjhldifilfkebaaDoor
open Go.RowKit

/-- The product, rounded, or why there is none. -/
def mulR (a b : Int) : Int × Int := if fitsB a && fitsB b then quoR (absI a * absI b) 1000000 (decide (a < 0) != decide (b < 0)) else (0, 2)
/-- The quotient, rounded, or why there is none. -/
def divR (a b : Int) : Int × Int := if divisR a b = 0 then quoR (absI a * 1000000) (absI b) (decide (a < 0) != decide (b < 0)) else (0, divisR a b)
/-- What is left of a division, or why nothing is. -/
def modR (a b : Int) : Int × Int := if divisR a b = 0 then (fmodR a b, 0) else (0, divisR a b)

theorem words_back (N : Int) : N / 18446744073709551616 * 18446744073709551616 + N % 18446744073709551616 = N := by omega

set_option maxHeartbeats 400000 in
theorem mul_any (a b : Int) (w : World) (hd : fitsB a = true → fitsB b = true → absI a * absI b / 18446744073709551616 < 1000000 → DivAt (absI a * absI b / 18446744073709551616) (absI a * absI b % 18446744073709551616) 1000000) :
    Calls Tryd.prog 16 #[.int .i64 a, .int .i64 b] w fun e w' => e = .returned (.tuple #[.int .i64 (mulR a b).1, .int .i64 (mulR a b).2]) ∧ Below w.heap.size w w' := by
  cases ha : fitsB a
  · have HE : Hid (mulR a b = (0, 2)) := by show mulR a b = _; simp [mulR, ha]
    clear hd
    go_enter Tryd.func16, Tryd.ntmps16
    go_wp2_with (go_at_call 13; refine (fits_any _ _).mono ?_; rintro e w' ⟨rfl, rfl⟩)
    go_ret2
    exact ⟨by rw [HE.out]; rfl, Below.refl _ _⟩
  · cases hb : fitsB b
    · have HE : Hid (mulR a b = (0, 2)) := by show mulR a b = _; simp [mulR, hb]
      clear hd
      go_enter Tryd.func16, Tryd.ntmps16
      go_wp2_with (go_at_call 13; refine (fits_any _ _).mono ?_; rintro e w' ⟨rfl, rfl⟩)
      go_ret2
      exact ⟨by rw [HE.out]; rfl, Below.refl _ _⟩
    · obtain ⟨a1, a2⟩ := fitsB_true ha
      obtain ⟨b1, b2⟩ := fitsB_true hb
      have x0 := absI_nn a
      have x1 := absI_le a1 a2
      have y0 := absI_nn b
      have y1 := absI_le b1 b2
      have n0 : 0 ≤ absI a * absI b := Int.mul_nonneg x0 y0
      have HE : Hid (mulR a b = quoR (absI a * absI b) 1000000 (decide (a < 0) != decide (b < 0))) := by show mulR a b = _; simp [mulR, ha, hb]
      have HP := fun W => product_any (absI a) (absI b) W x0 (by omega) y0 (by omega)
      have hd1 := hd ha hb
      have hw := words_back (absI a * absI b)
      have h1 : 0 ≤ absI a * absI b / 18446744073709551616 := by omega
      have h2 : 0 ≤ absI a * absI b % 18446744073709551616 := by omega
      generalize absI a * absI b / 18446744073709551616 = hi at *
      generalize absI a * absI b % 18446744073709551616 = lo at *
      have HQ : Hid (∀ (neg : Bool) (k : Nat) (W : World), k < W.heap.size → W.cell? ⟨k, 0, none⟩ = some (.bool neg) → Calls Tryd.prog 32 #[.agg #[.int .u64 hi, .int .u64 lo], .int .u64 1000000, .func (.func 54) #[] #[.pointer (some ⟨k, 0, none⟩)]] W fun e w' => e = .returned (.tuple #[.int .i64 (quoR (absI a * absI b) 1000000 neg).1, .int .i64 (quoR (absI a * absI b) 1000000 neg).2]) ∧ Below W.heap.size W w') := by
        intro neg k W hk hc
        have := quotient_any hi lo 1000000 neg k W h1 h2 (by decide) (by decide) hd1 hk hc
        rw [hw] at this
        exact this
      have HP' : Hid (∀ W : World, Calls Tryd.prog 33 #[.int .u64 (absI a), .int .u64 (absI b)] W fun e w' => e = .returned (.agg #[.int .u64 hi, .int .u64 lo]) ∧ Below W.heap.size W w') := HP
      clear HP hd hd1 hw h1 h2 n0
      go_enter Tryd.func16, Tryd.ntmps16
      go_wp2_with (first | (go_at_call 13; refine (fits_any _ _).mono ?_; rintro e w' ⟨rfl, rfl⟩) | (go_at_call 34; refine (size_any _ _ (by omega) (by omega)).mono ?_; rintro e w' ⟨rfl, rfl⟩) | (go_at_call 33; refine (HP'.out _).mono ?_; rintro e w1 ⟨rfl, hb1⟩) | (go_at_call 35; refine (signed_any _ _).mono ?_; rintro e w2 ⟨rfl, rfl⟩))
      refine (HQ.out (decide (a < 0) != decide (b < 0)) w1.heap.size _ (by simp) (by rw [World.cell?_alloc_new]; rfl)).mono ?_
      rintro e w3 ⟨rfl, hb3⟩
      go_wp2
      go_ret2
      exact ⟨by rw [HE.out]; rfl, hb1.trans (((Below.refl _ _).alloc (Nat.le_refl _) _).trans (hb3.mono (by simp)) |>.mono hb1.size)⟩

theorem divisR_zero {a b : Int} (h : divisR a b = 0) : fitsB a = true ∧ fitsB b = true ∧ b ≠ 0 := by
  unfold divisR at h
  cases ha : fitsB a <;> cases hb : fitsB b <;> simp [ha, hb] at h
  exact ⟨rfl, rfl, h⟩

set_option maxHeartbeats 400000 in
theorem mod_any (a b : Int) (w : World) :
    Calls Tryd.prog 20 #[.int .i64 a, .int .i64 b] w fun e w' => e = .returned (.tuple #[.int .i64 (modR a b).1, .int .i64 (modR a b).2]) ∧ w' = w := by
  by_cases h : divisR a b = 0
  · obtain ⟨ha, hb, hz⟩ := divisR_zero h
    obtain ⟨a1, a2⟩ := fitsB_true ha
    obtain ⟨b1, b2⟩ := fitsB_true hb
    have HE : Hid (modR a b = (fmodR a b, 0)) := by show modR a b = _; simp [modR, h]
    have HF := hide (fun W : World => floorMod_any a b W a1 a2 b1 b2 hz)
    clear ha hb hz a1 a2 b1 b2
    go_enter Tryd.func20, Tryd.ntmps20
    go_wp2_with (first | (go_at_call 39; refine (divisible_any _ _ _).mono ?_; rintro e w' ⟨rfl, rfl⟩) | (go_at_call 40; refine (HF.out _).mono ?_; rintro e w' ⟨rfl, rfl⟩))
    go_ret2
    exact ⟨by rw [HE.out]; rfl, rfl⟩
  · have HE : Hid (modR a b = (0, divisR a b)) := by show modR a b = _; simp [modR, h]
    have t : (divisR a b != 0) = true := by simp [h]
    clear h
    go_enter Tryd.func20, Tryd.ntmps20
    go_wp2_with (go_at_call 39; refine (divisible_any _ _ _).mono ?_; rintro e w' ⟨rfl, rfl⟩)
    go_ret2
    exact ⟨by rw [HE.out]; rfl, rfl⟩

set_option maxHeartbeats 400000 in
theorem div_any (a b : Int) (w : World) (hd : divisR a b = 0 → absI a * 1000000 / 18446744073709551616 < absI b → DivAt (absI a * 1000000 / 18446744073709551616) (absI a * 1000000 % 18446744073709551616) (absI b)) :
    Calls Tryd.prog 18 #[.int .i64 a, .int .i64 b] w fun e w' => e = .returned (.tuple #[.int .i64 (divR a b).1, .int .i64 (divR a b).2]) ∧ Below w.heap.size w w' := by
  by_cases h : divisR a b = 0
  · obtain ⟨ha, hb, hz⟩ := divisR_zero h
    obtain ⟨a1, a2⟩ := fitsB_true ha
    obtain ⟨b1, b2⟩ := fitsB_true hb
    have x0 := absI_nn a
    have x1 := absI_le a1 a2
    have y0 : 0 < absI b := by unfold absI; split <;> omega
    have y1 := absI_le b1 b2
    have n0 : 0 ≤ absI a * 1000000 := by omega
    have HE : Hid (divR a b = quoR (absI a * 1000000) (absI b) (decide (a < 0) != decide (b < 0))) := by show divR a b = _; simp [divR, h]
    have HP := fun W => product_any (absI a) 1000000 W x0 (by omega) (by omega) (by omega)
    have hd1 := hd h
    have hw := words_back (absI a * 1000000)
    have h1 : 0 ≤ absI a * 1000000 / 18446744073709551616 := by omega
    have h2 : 0 ≤ absI a * 1000000 % 18446744073709551616 := by omega
    generalize absI a * 1000000 / 18446744073709551616 = hi at *
    generalize absI a * 1000000 % 18446744073709551616 = lo at *
    generalize absI a * 1000000 = N at *
    have HQ : Hid (∀ (neg : Bool) (k : Nat) (W : World), k < W.heap.size → W.cell? ⟨k, 0, none⟩ = some (.bool neg) → Calls Tryd.prog 32 #[.agg #[.int .u64 hi, .int .u64 lo], .int .u64 (absI b), .func (.func 54) #[] #[.pointer (some ⟨k, 0, none⟩)]] W fun e w' => e = .returned (.tuple #[.int .i64 (quoR N (absI b) neg).1, .int .i64 (quoR N (absI b) neg).2]) ∧ Below W.heap.size W w') := by
      intro neg k W hk hc
      have := quotient_any hi lo (absI b) neg k W h1 h2 y0 y1 hd1 hk hc
      rw [hw] at this
      exact this
    have HP' : Hid (∀ W : World, Calls Tryd.prog 33 #[.int .u64 (absI a), .int .u64 1000000] W fun e w' => e = .returned (.agg #[.int .u64 hi, .int .u64 lo]) ∧ Below W.heap.size W w') := HP
    clear HP hd hd1 hw h1 h2 n0 ha hb hz
    go_enter Tryd.func18, Tryd.ntmps18
    go_wp2_with (first | (go_at_call 39; refine (divisible_any _ _ _).mono ?_; rintro e w' ⟨rfl, rfl⟩) | (go_at_call 34; refine (size_any _ _ (by omega) (by omega)).mono ?_; rintro e w1 ⟨rfl, rfl⟩) | (go_at_call 33; refine (HP'.out _).mono ?_; rintro e w1 ⟨rfl, hb1⟩) | (go_at_call 35; refine (signed_any _ _).mono ?_; rintro e w2 ⟨rfl, rfl⟩))
    refine (HQ.out (decide (a < 0) != decide (b < 0)) w1.heap.size _ (by simp) (by rw [World.cell?_alloc_new]; rfl)).mono ?_
    rintro e w3 ⟨rfl, hb3⟩
    go_wp2
    go_ret2
    exact ⟨by rw [HE.out]; rfl, hb1.trans (((Below.refl _ _).alloc (Nat.le_refl _) _).trans (hb3.mono (by simp)) |>.mono hb1.size)⟩
  · have HE : Hid (divR a b = (0, divisR a b)) := by show divR a b = _; simp [divR, h]
    have t : (divisR a b != 0) = true := by simp [h]
    clear h hd
    go_enter Tryd.func18, Tryd.ntmps18
    go_wp2_with (go_at_call 39; refine (divisible_any _ _ _).mono ?_; rintro e w' ⟨rfl, rfl⟩)
    go_ret2
    exact ⟨by rw [HE.out]; rfl, Below.refl _ _⟩
end Go.Proofs.YtjhldifilfkebaaDoor
