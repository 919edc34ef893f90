/-
  The examples live.
-/
import Derived.Test.YtfopebfejmlhbabMa6
import Derived.Test.YtfopebfejmlhbabMa8
import Derived.Test.YtfopebfejmlhbabMa9
import Derived.Test.YtfopebfejmlhbabMa12
namespace Go.Proofs.Ytfopebfejmlhbab
open Go.RowKit

theorem RowI.two {w : World} {b : Nat} {x y : Int} (h0 : w.cell? ⟨b, 0, none⟩ = some (.int .i64 x)) (h1 : w.cell? ⟨b, 1, none⟩ = some (.int .i64 y)) : RowI w (some ⟨b, 0, none⟩) [x, y] :=
  ⟨show 2 ≤ 9223372036854775807 by decide, fun i hi => ⟨_, rfl, by
    have : i = 0 ∨ i = 1 := by (have : i < 2 := hi); omega
    rcases this with rfl | rfl
    · exact h0
    · exact h1⟩⟩

set_option maxHeartbeats 1000000 in
theorem lives_any (w : World) :
    Calls Try.prog 6 #[] w fun e w' => e = .returned (.bool true) ∧ Below w.heap.size w w' := by
  have H1 := hide (fun W : World => Up_any 2001000 2 W (by decide) (by decide))
  rw [show shown1 2001000 (placesR outR 2001000 2) = (2010000, 0) from by decide +kernel] at H1
  have H2 := hide (fun W : World => Ceiling_any (-7000000) 5000000 W)
  rw [show shown2 (-7000000) 5000000 (stepsR upwR (-7000000) 5000000) = (-5000000, 0) from by decide +kernel] at H2
  have H3 := hide (fun W : World => Power_any 2000000 (-1000000) W)
  rw [show shown2 2000000 (-1000000) (mpowR 2000000 (-1000000)) = (500000, 0) from by decide +kernel] at H3
  have H4 := hide (fun W : World => Root_any 2000000 1414214 W (fun _ _ => ⟨by decide, by decide, by decide⟩))
  rw [show shown1 2000000 (mrootR 2000000 1414214) = (1414214, 0) from by decide +kernel] at H4
  have H5 := hide (fun W : World => Fact_any 5000000 W)
  rw [show shown1 5000000 (mfactR 5000000) = (120000000, 0) from by decide +kernel] at H5
  have H6 := hide (fun (b : Nat) (W : World) (h : RowI W (some ⟨b, 0, none⟩) [4000000, 6000000]) => Lcm_any [4000000, 6000000] (some ⟨b, 0, none⟩) 2 W h)
  rw [show shownL [4000000, 6000000] (mmulR [4000000, 6000000]) = (12000000, 0) from by decide +kernel] at H6
  go_enter Try.func6, Try.ntmps6
  go_wp2_with (first
    | (go_at_call 12; refine (H1.out _).mono ?_; rintro e w1 ⟨rfl, hb1⟩; have HB1 := hide hb1; clear hb1)
    | (go_at_call 15; refine (H2.out _).mono ?_; rintro e w2 ⟨rfl, hb2⟩; have HB2 := hide (up HB1.out hb2); clear hb2)
    | (go_at_call 8; refine (H3.out _).mono ?_; rintro e w3 ⟨rfl, hb3⟩; have HB3 := hide (up HB2.out hb3); clear hb3)
    | (go_at_call 7; refine (H4.out _).mono ?_; rintro e w4 ⟨rfl, hb4⟩; have HB4 := hide (up HB3.out hb4); clear hb4)
    | (go_at_call 16; refine (H5.out _).mono ?_; rintro e w5 ⟨rfl, hb5⟩; have HB5 := hide (up HB4.out hb5); clear hb5)
    | (go_at_call 10; refine (H6.out _ _ (RowI.two (by simp [go_sem]) (by simp [go_sem]))).mono ?_; rintro e w6 ⟨rfl, hb6⟩; have HB6 := hide (up (HB5.out.alloc HB5.out.size _) hb6); clear hb6))
  go_ret
  exact ⟨rfl, HB6.out⟩
end Go.Proofs.Ytfopebfejmlhbab
