/-
  The contracts of the answer's Size, even, Round, Floor, and of num.Floor.
-/
import Derived.Test.YtjhldifilfkebaaDoorRound
namespace Go.Proofs.YtjhldifilfkebaaDoor
open Go.RowKit

set_option maxHeartbeats 400000 in
theorem rsize_any (n : Int) (w : World) (h1 : -1000000000000000000 ≤ n) (h2 : n ≤ 1000000000000000000) :
    Calls Tryd.prog 37 #[.int .i64 n] w fun e w' => e = .returned (.int .i64 (absI n)) ∧ w' = w := by
  by_cases h : n < 0
  · have E := hide (absI_neg h)
    go_enter Tryd.func37, Tryd.ntmps37
    go_wp2
    go_ret
    exact ⟨by rw [E.out]; simp [Int.max_def]; omega, rfl⟩
  · have E := hide (absI_pos (n := n) (by omega))
    go_enter Tryd.func37, Tryd.ntmps37
    go_wp2
    go_ret
    exact ⟨by rw [E.out]; simp [Int.max_def]; omega, rfl⟩

/-- A number, rounded up or not, by what is left of a whole. -/
def evenR (n l d : Int) : Int := if d < 2 * l ∨ (2 * l = d ∧ n % 2 = 1) then n + 1 else n

set_option maxHeartbeats 400000 in
theorem even_any (n l d : Int) (w : World) (h0 : 0 ≤ n) (h1 : n ≤ 4000000000000000000) (l0 : 0 ≤ l) (l1 : l < d) (d1 : d ≤ 1000000000000000000) :
    Calls Tryd.prog 38 #[.int .i64 n, .int .i64 l, .int .i64 d] w fun e w' => e = .returned (.int .i64 (evenR n l d)) ∧ w' = w := by
  by_cases c1 : d - l < l
  · have E : Hid (evenR n l d = n + 1) := by show evenR n l d = _; unfold evenR; rw [if_pos (by omega)]
    go_enter Tryd.func38, Tryd.ntmps38
    go_wp2
    go_ret
    exact ⟨by rw [E.out]; rfl, rfl⟩
  · by_cases c2 : l = d - l
    · have t2 : (l == d - l) = true := beq_iff_eq.2 c2
      by_cases c3 : n % 2 = 1
      · have t3 : (n % 2 == 1) = true := beq_iff_eq.2 c3
        have E : Hid (evenR n l d = n + 1) := by show evenR n l d = _; unfold evenR; rw [if_pos (by omega)]
        clear c2 c3
        go_enter Tryd.func38, Tryd.ntmps38
        go_wp2
        go_ret
        exact ⟨by rw [E.out]; rfl, rfl⟩
      · have t3 : (n % 2 == 1) = false := beq_eq_false_iff_ne.2 c3
        have E : Hid (evenR n l d = n) := by show evenR n l d = _; unfold evenR; rw [if_neg (by omega)]
        clear c2 c3
        go_enter Tryd.func38, Tryd.ntmps38
        go_wp2
        go_ret
        exact ⟨by rw [E.out]; rfl, rfl⟩
    · have t2 : (l == d - l) = false := beq_eq_false_iff_ne.2 c2
      have E : Hid (evenR n l d = n) := by show evenR n l d = _; unfold evenR; rw [if_neg (by omega)]
      clear c2
      go_enter Tryd.func38, Tryd.ntmps38
      go_wp2
      go_ret
      exact ⟨by rw [E.out]; rfl, rfl⟩

/-- The greatest whole number that is not above n, or why not. -/
def floorR (n : Int) : Int × Int := if fitsB n then told (n - fmodR n 1000000) else (0, 2)

theorem fmodR_bd {a b : Int} (ha : -1000000000000000000 ≤ a) (ha' : a ≤ 1000000000000000000) (hb : -1000000000000000000 ≤ b) (hb' : b ≤ 1000000000000000000) : -2000000000000000000 ≤ fmodR a b ∧ fmodR a b ≤ 2000000000000000000 := by
  obtain ⟨r1, r2⟩ := tmod_bd (b := b) ha ha'
  unfold fmodR; split <;> omega

set_option maxHeartbeats 400000 in
theorem floor_any (n : Int) (w : World) :
    Calls Tryd.prog 24 #[.int .i64 n] w fun e w' => e = .returned (.tuple #[.int .i64 (floorR n).1, .int .i64 (floorR n).2]) ∧ w' = w := by
  cases hf : fitsB n
  · have HE : Hid (floorR n = (0, 2)) := by show floorR n = _; simp [floorR, hf]
    go_enter Tryd.func24, Tryd.ntmps24
    go_wp2_with (go_at_call 13; refine (fits_any _ _).mono ?_; rintro e w' ⟨rfl, rfl⟩)
    go_ret2
    exact ⟨by rw [HE.out]; rfl, rfl⟩
  · have HE : Hid (floorR n = told (n - fmodR n 1000000)) := by show floorR n = _; simp [floorR, hf]
    obtain ⟨n1, n2⟩ := fitsB_true hf
    obtain ⟨b1, b2⟩ := fmodR_bd n1 n2 (b := 1000000) (by decide) (by decide)
    have HM := hide (fun W : World => floorMod_any n 1000000 W n1 n2 (by decide) (by decide) (by decide))
    generalize fmodR n 1000000 = r at *
    go_enter Tryd.func24, Tryd.ntmps24
    go_wp2_with (first | (go_at_call 13; refine (fits_any _ _).mono ?_; rintro e w' ⟨rfl, rfl⟩) | (go_at_call 40; refine (HM.out _).mono ?_; rintro e w' ⟨rfl, rfl⟩) | (go_at_call 30; refine (fitted_any _ _).mono ?_; rintro e w' ⟨rfl, rfl⟩))
    go_ret2
    exact ⟨by rw [HE.out]; rfl, rfl⟩

set_option maxHeartbeats 400000 in
theorem rfloor_any (n : Int) (w : World) :
    Calls Tryd.prog 25 #[.int .i64 n] w fun e w' => e = .returned (.tuple #[.int .i64 (floorR n).1, .int .i64 (floorR n).2]) ∧ w' = w := by
  cases hf : fitsB n
  · have HE : Hid (floorR n = (0, 2)) := by show floorR n = _; simp [floorR, hf]
    go_enter Tryd.func25, Tryd.ntmps25
    go_wp2_with (go_at_call 14; refine (rfits_any _ _).mono ?_; rintro e w' ⟨rfl, rfl⟩)
    go_ret2
    exact ⟨by rw [HE.out]; rfl, rfl⟩
  · have HE : Hid (floorR n = told (n - fmodR n 1000000)) := by show floorR n = _; simp [floorR, hf]
    obtain ⟨n1, n2⟩ := fitsB_true hf
    obtain ⟨r1, r2⟩ := tmod_bd (b := 1000000) n1 n2
    by_cases s : n.tmod 1000000 < 0
    · have e : fmodR n 1000000 = n.tmod 1000000 + 1000000 := by unfold fmodR; rw [if_pos ⟨by omega, by simp [s]⟩]
      rw [e] at HE
      clear e
      go_enter Tryd.func25, Tryd.ntmps25
      go_wp2_with (first | (go_at_call 14; refine (rfits_any _ _).mono ?_; rintro e w' ⟨rfl, rfl⟩) | (go_at_call 31; refine (told_any _ _).mono ?_; rintro e w' ⟨rfl, rfl⟩))
      go_ret2
      exact ⟨by rw [HE.out]; rfl, rfl⟩
    · have e : fmodR n 1000000 = n.tmod 1000000 := by unfold fmodR; rw [if_neg (by simp [s])]
      rw [e] at HE
      clear e
      go_enter Tryd.func25, Tryd.ntmps25
      go_wp2_with (first | (go_at_call 14; refine (rfits_any _ _).mono ?_; rintro e w' ⟨rfl, rfl⟩) | (go_at_call 31; refine (told_any _ _).mono ?_; rintro e w' ⟨rfl, rfl⟩))
      go_ret2
      exact ⟨by rw [HE.out]; rfl, rfl⟩
end Go.Proofs.YtjhldifilfkebaaDoor
