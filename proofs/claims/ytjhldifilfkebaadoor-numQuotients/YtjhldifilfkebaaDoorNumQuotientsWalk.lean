/-
  The walk of the law NumQuotients, out of its callees' contracts.
-/
import Derived.Test.YtjhldifilfkebaaDoorRefDiv
import Derived.Test.YtjhldifilfkebaaDoorFull
import Derived.Test.YtjhldifilfkebaaDoorLives
namespace Go.Proofs.YtjhldifilfkebaaDoor
open Go.RowKit Go.Sort Go.Lib

set_option maxHeartbeats 1000000 in
theorem numQuotients_any (a b : Int) (w : World) (ht : TabOk w) :
    Calls Tryd.prog 5 #[.int .i64 a, .int .i64 b] w fun e w' => e = .returned (.bool true) ∧ Below w.heap.size w w' := by
  have HT := hide ht
  clear ht
  go_enter Tryd.func5, Tryd.ntmps5
  go_wp2_with fail
  refine (div_full _ _ _).mono ?_
  rintro e w1 ⟨rfl, b1⟩
  go_wp2_with fail
  refine (rdiv_any _ _ _).mono ?_
  rintro e w2 ⟨rfl, b2⟩
  have c2 := b1.trans (b2.mono b1.size)
  have HT2 := hide (tab_below HT.out c2)
  clear b1 b2
  go_wp2_with (first | (go_at_call 20; refine (mod_any _ _ _).mono ?_; rintro e w2 ⟨rfl, rfl⟩) | (go_at_call 21; refine (rmod_any _ _ _).mono ?_; rintro e w2 ⟨rfl, rfl⟩) | (go_at_call 15; refine (lives_any _ HT2.out).mono ?_; rintro e w3 ⟨rfl, b3⟩))
  go_ret
  exact ⟨rfl, c2.trans (b3.mono c2.size)⟩
end Go.Proofs.YtjhldifilfkebaaDoor
