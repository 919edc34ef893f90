/-
  The contracts of the small functions of num and of the answer's package: Fits, fitted, told, Add, Sub. Each returns what the plain function says, and the world is as it was.
-/
import Derived.Test.YtaokibkeoomfjaaDoorProg
import Derived.WalkKit
import Derived.WalkSpells
import Derived.WalkLawsBesides
namespace Go.Proofs.YtaokibkeoomfjaaDoor
open Go.RowKit

theorem hide {p : Prop} (h : p) : Hid p := h
/-- Does a number fit? -/
def fitsB (n : Int) : Bool := decide (-1000000000000000000 ≤ n) && decide (n ≤ 1000000000000000000)
theorem fitsB_true {n : Int} (h : fitsB n = true) : -1000000000000000000 ≤ n ∧ n ≤ 1000000000000000000 := by
  unfold fitsB at h; simp at h; exact h
theorem fitsB_of {n : Int} (h1 : -1000000000000000000 ≤ n) (h2 : n ≤ 1000000000000000000) : fitsB n = true := by
  unfold fitsB; simp; exact ⟨h1, h2⟩
theorem fitsB_false {n : Int} (h : fitsB n = false) : n < -1000000000000000000 ∨ 1000000000000000000 < n := by
  unfold fitsB at h; simp at h; omega
theorem fitsB_not {n : Int} (h : n < -1000000000000000000 ∨ 1000000000000000000 < n) : fitsB n = false := by
  unfold fitsB; simp; omega
/-- A result, if it fits. -/
def told (n : Int) : Int × Int := if fitsB n then (n, 0) else (0, 3)
/-- The sum, or why there is none. -/
def addR (a b : Int) : Int × Int := if fitsB a && fitsB b then told (a + b) else (0, 2)
/-- The difference, or why there is none. -/
def subR (a b : Int) : Int × Int := if fitsB a && fitsB b then told (a - b) else (0, 2)
theorem told_yes {n : Int} (h : fitsB n = true) : told n = (n, 0) := by simp [told, h]
theorem told_no {n : Int} (h : fitsB n = false) : told n = (0, 3) := by simp [told, h]

set_option maxHeartbeats 400000 in
theorem fits_any (n : Int) (w : World) :
    Calls Tryd.prog 55 #[.int .i64 n] w fun e w' => e = .returned (.bool (fitsB n)) ∧ w' = w := by
  by_cases h1 : -1000000000000000000 ≤ n
  · by_cases h2 : n ≤ 1000000000000000000
    · go_enter Tryd.func55, Tryd.ntmps55
      go_wp2
      go_ret
      exact ⟨by rw [fitsB_of (by omega) (by omega)]; rfl, rfl⟩
    · go_enter Tryd.func55, Tryd.ntmps55
      go_wp2
      go_ret
      exact ⟨by rw [fitsB_not (by omega)]; rfl, rfl⟩
  · go_enter Tryd.func55, Tryd.ntmps55
    go_wp2
    go_ret
    exact ⟨by rw [fitsB_not (by omega)]; rfl, rfl⟩
set_option maxHeartbeats 400000 in
theorem rfits_any (n : Int) (w : World) :
    Calls Tryd.prog 59 #[.int .i64 n] w fun e w' => e = .returned (.bool (fitsB n)) ∧ w' = w := by
  by_cases h1 : -1000000000000000000 ≤ n
  · by_cases h2 : n ≤ 1000000000000000000
    · go_enter Tryd.func59, Tryd.ntmps59
      go_wp2
      go_ret
      exact ⟨by rw [fitsB_of (by omega) (by omega)]; rfl, rfl⟩
    · go_enter Tryd.func59, Tryd.ntmps59
      go_wp2
      go_ret
      exact ⟨by rw [fitsB_not (by omega)]; rfl, rfl⟩
  · go_enter Tryd.func59, Tryd.ntmps59
    go_wp2
    go_ret
    exact ⟨by rw [fitsB_not (by omega)]; rfl, rfl⟩

set_option maxHeartbeats 400000 in
theorem fitted_any (n : Int) (w : World) :
    Calls Tryd.prog 70 #[.int .i64 n] w fun e w' => e = .returned (.tuple #[.int .i64 (told n).1, .int .i64 (told n).2]) ∧ w' = w := by
  cases h : fitsB n
  all_goals
    go_enter Tryd.func70, Tryd.ntmps70
    go_wp2_with (go_at_call 55; refine (fits_any _ _).mono ?_; rintro e w' ⟨rfl, rfl⟩)
    go_ret2
    exact ⟨by simp [told, h], rfl⟩

end Go.Proofs.YtaokibkeoomfjaaDoor
