/-
  The walk of the law NumProducts, out of its callees' contracts.
-/
import Derived.Test.YtjhldifilfkebaaDoorRefMul
import Derived.Test.YtjhldifilfkebaaDoorFull
import Derived.Test.YtjhldifilfkebaaDoorLives
namespace Go.Proofs.YtjhldifilfkebaaDoor
open Go.RowKit

theorem mulR_bad1 {a b : Int} (h : fitsB a = false) : mulR a b = (0, 2) := by simp [mulR, h]
theorem mulR_bad2 {a b : Int} (h : fitsB b = false) : mulR a b = (0, 2) := by simp [mulR, h]

set_option maxHeartbeats 400000 in
theorem rmul_any (a b : Int) (w : World) :
    Calls Tryd.prog 17 #[.int .i64 a, .int .i64 b] w fun e w' => e = .returned (.tuple #[.int .i64 (mulR a b).1, .int .i64 (mulR a b).2]) ∧ Below w.heap.size w w' := by
  cases ha : fitsB a
  · have HE := hide (mulR_bad1 (b := b) ha)
    go_enter Tryd.func17, Tryd.ntmps17
    go_wp2_with (go_at_call 14; refine (rfits_any _ _).mono ?_; rintro e w' ⟨rfl, rfl⟩)
    go_ret2
    exact ⟨by rw [HE.out]; rfl, Below.refl _ _⟩
  · cases hb : fitsB b
    · have HE := hide (mulR_bad2 (a := a) hb)
      go_enter Tryd.func17, Tryd.ntmps17
      go_wp2_with (go_at_call 14; refine (rfits_any _ _).mono ?_; rintro e w' ⟨rfl, rfl⟩)
      go_ret2
      exact ⟨by rw [HE.out]; rfl, Below.refl _ _⟩
    · exact rmul_good a b w ha hb

set_option maxHeartbeats 1000000 in
theorem numProducts_any (a b : Int) (w : World) (ht : TabOk w) :
    Calls Tryd.prog 4 #[.int .i64 a, .int .i64 b] w fun e w' => e = .returned (.bool true) ∧ Below w.heap.size w w' := by
  have HT := hide ht
  clear ht
  go_enter Tryd.func4, Tryd.ntmps4
  go_wp2_with fail
  refine (mul_full _ _ _).mono ?_
  rintro e w1 ⟨rfl, b1⟩
  go_wp2_with fail
  refine (rmul_any _ _ _).mono ?_
  rintro e w2 ⟨rfl, b2⟩
  have c2 := b1.trans (b2.mono b1.size)
  have HT2 := hide (tab_below HT.out c2)
  clear b1 b2
  go_wp2_with (go_at_call 15; refine (lives_any _ HT2.out).mono ?_; rintro e w3 ⟨rfl, b3⟩)
  go_ret
  exact ⟨rfl, c2.trans (b3.mono c2.size)⟩
end Go.Proofs.YtjhldifilfkebaaDoor
