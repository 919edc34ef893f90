/-
  Out of Small, Mul, what is asked for (laid by pack9.py).
-/
import Derived.Test.YthooimaadgabiabDoorProg
import Derived.Test.YthooimaadgabiabDoorShelf
import Derived.BigQuiet
import Derived.Deep.QuietTactic
import Derived.WalkKit
import Derived.WalkLawsBesides
import Derived.WalkSpells
namespace Go.Proofs.YthooimaadgabiabDoor
section
open Go.RowKit
theorem hide {p : Prop} (h : p) : Hid p := h
/-- Does a number fit? -/
def fitsB (n : Int) : Bool := decide (-1000000000000000000 ≤ n) && decide (n ≤ 1000000000000000000)
theorem fitsB_of {n : Int} (h1 : -1000000000000000000 ≤ n) (h2 : n ≤ 1000000000000000000) : fitsB n = true := by
  unfold fitsB; simp; exact ⟨h1, h2⟩
theorem fitsB_not {n : Int} (h : n < -1000000000000000000 ∨ 1000000000000000000 < n) : fitsB n = false := by
  unfold fitsB; simp; omega
set_option maxHeartbeats 400000 in
theorem fits_any (n : Int) (w : World) :
    Calls Tryd.prog 61 #[.int .i64 n] w fun e w' => e = .returned (.bool (fitsB n)) ∧ w' = w := by
  by_cases h1 : -1000000000000000000 ≤ n
  · by_cases h2 : n ≤ 1000000000000000000
    · go_enter Tryd.func61, Tryd.ntmps61
      go_wp2
      go_ret
      exact ⟨by rw [fitsB_of (by omega) (by omega)]; rfl, rfl⟩
    · go_enter Tryd.func61, Tryd.ntmps61
      go_wp2
      go_ret
      exact ⟨by rw [fitsB_not (by omega)]; rfl, rfl⟩
  · go_enter Tryd.func61, Tryd.ntmps61
    go_wp2
    go_ret
    exact ⟨by rw [fitsB_not (by omega)]; rfl, rfl⟩
end
section
open Go.RowKit
/-- A number with a sign. -/
def put (neg : Bool) (q : Int) : Int := if neg then -q else q
end
end Go.Proofs.YthooimaadgabiabDoor
