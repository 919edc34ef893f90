/-
  The walk of the law NumRounds, out of its callees' contracts.
-/
import Derived.Test.YtjhldifilfkebaaDoorRefRound2
import Derived.Test.YtjhldifilfkebaaDoorLives
namespace Go.Proofs.YtjhldifilfkebaaDoor
open Go.RowKit Go.Sort Go.Lib

set_option maxHeartbeats 400000 in
theorem rround_any (n p : Int) (w : World) :
    Calls Tryd.prog 23 #[.int .i64 n, .int .i64 p] w fun e w' => e = .returned (.tuple #[.int .i64 (roundR n p).1, .int .i64 (roundR n p).2]) ∧ Below w.heap.size w w' := by
  cases hf : fitsB n
  · have HE : Hid (roundR n p = (0, 2)) := by show roundR n p = _; simp [roundR, hf]
    go_enter Tryd.func23, Tryd.ntmps23
    go_wp2_with (go_at_call 14; refine (rfits_any _ _).mono ?_; rintro e w' ⟨rfl, rfl⟩)
    go_ret2
    exact ⟨by rw [HE.out]; rfl, Below.refl _ _⟩
  · by_cases c1 : p < -12
    · have HE : Hid (roundR n p = (0, 2)) := by show roundR n p = _; simp [roundR, plB]; omega
      go_enter Tryd.func23, Tryd.ntmps23
      go_wp2_with (go_at_call 14; refine (rfits_any _ _).mono ?_; rintro e w' ⟨rfl, rfl⟩)
      go_ret2
      exact ⟨by rw [HE.out]; rfl, Below.refl _ _⟩
    · by_cases c2 : 6 < p
      · have HE : Hid (roundR n p = (0, 2)) := by show roundR n p = _; simp [roundR, plB]; omega
        go_enter Tryd.func23, Tryd.ntmps23
        go_wp2_with (go_at_call 14; refine (rfits_any _ _).mono ?_; rintro e w' ⟨rfl, rfl⟩)
        go_ret2
        exact ⟨by rw [HE.out]; rfl, Below.refl _ _⟩
      · exact rround_good n p w hf c1 c2

set_option maxHeartbeats 1000000 in
theorem numRounds_any (a b : Int) (w : World) (ht : TabOk w) :
    Calls Tryd.prog 6 #[.int .i64 a, .int .i64 b] w fun e w' => e = .returned (.bool true) ∧ Below w.heap.size w w' := by
  have HT := hide ht
  clear ht
  go_enter Tryd.func6, Tryd.ntmps6
  go_wp2_with fail
  refine (round_any _ _ _).mono ?_
  rintro e w1 ⟨rfl, b1⟩
  go_wp2_with fail
  refine (rround_any _ _ _).mono ?_
  rintro e w2 ⟨rfl, b2⟩
  have c2 := b1.trans (b2.mono b1.size)
  have HT2 := hide (tab_below HT.out c2)
  clear b1 b2
  go_wp2_with (first | (go_at_call 24; refine (floor_any _ _).mono ?_; rintro e w2 ⟨rfl, rfl⟩) | (go_at_call 25; refine (rfloor_any _ _).mono ?_; rintro e w2 ⟨rfl, rfl⟩) | (go_at_call 15; refine (lives_any _ HT2.out).mono ?_; rintro e w3 ⟨rfl, b3⟩))
  go_ret
  exact ⟨rfl, c2.trans (b3.mono c2.size)⟩
end Go.Proofs.YtjhldifilfkebaaDoor
