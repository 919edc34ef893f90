/-
  The walk of CritPatterns.
-/
import Derived.Test.YtpghgjibpbimeaaDoorRf4
namespace Go.Proofs.YtpghgjibpbimeaaDoor
open Go.RowKit
set_option linter.unusedSimpArgs false

set_option maxRecDepth 100000 in
set_option maxHeartbeats 4000000 in
theorem critPatterns_walk (p s : ByteArray) (w : World) (h : EnvK w) (hp : p.size ≤ reachBytes) (hs : s.size ≤ reachBytes) :
    Calls Tryd.prog 6 #[.string p, .string s] w fun e w' => e = .returned (.bool true) ∧ Below w.heap.size w w' := by
  have HL : Hid (∀ W : World, Below w.heap.size w W → Calls Tryd.prog 12 #[] W fun e w' => e = .returned (.bool true) ∧ Below W.heap.size W w') := fun W hW => lives13_any W (h.below hW)
  have HB := hide (Below.refl w.heap.size w)
  unfold reachBytes at hp hs
  have HW : Hid (∀ W : World, Calls Tryd.prog 15 #[.string p] W fun e w' => e = .returned (.bool (wildL p.data.toList)) ∧ Below W.heap.size W w') := fun W => Wild_any p W (by omega)
  have HV : Hid (∀ W : World, Calls Tryd.prog 16 #[.string p] W fun e w' => e = .returned (.bool (wildL p.data.toList)) ∧ Below W.heap.size W w') := fun W => rwild_any p W (by omega)
  clear h
  by_cases c : 300 < p.size ∨ 300 < s.size
  · generalize wildL p.data.toList = B at *
    by_cases c1 : 300 < p.size
    · have g1 : (300 : Int) < (p.size : Int) := by omega
      cases B
      · go_enter Tryd.func6, Tryd.ntmps6
        go_wp2_with (first | (go_at_call 15; refine (HW.out _).mono ?_; rintro e wz ⟨rfl, hz⟩; replace HB := hide (upR HB.out hz); clear hz) | (go_at_call 16; refine (HV.out _).mono ?_; rintro e wz ⟨rfl, hz⟩; replace HB := hide (upR HB.out hz); clear hz) | (go_at_call 12; refine (HL.out _ HB.out).mono ?_; rintro e wz ⟨rfl, hz⟩; replace HB := hide (upR HB.out hz); clear hz))
        go_ret
        exact ⟨rfl, HB.out⟩
      · go_enter Tryd.func6, Tryd.ntmps6
        go_wp2_with (first | (go_at_call 15; refine (HW.out _).mono ?_; rintro e wz ⟨rfl, hz⟩; replace HB := hide (upR HB.out hz); clear hz) | (go_at_call 16; refine (HV.out _).mono ?_; rintro e wz ⟨rfl, hz⟩; replace HB := hide (upR HB.out hz); clear hz) | (go_at_call 12; refine (HL.out _ HB.out).mono ?_; rintro e wz ⟨rfl, hz⟩; replace HB := hide (upR HB.out hz); clear hz))
        go_ret
        exact ⟨rfl, HB.out⟩
    · have g1 : ¬ (300 : Int) < (p.size : Int) := by omega
      have g2 : (300 : Int) < (s.size : Int) := by omega
      cases B
      · go_enter Tryd.func6, Tryd.ntmps6
        go_wp2_with (first | (go_at_call 15; refine (HW.out _).mono ?_; rintro e wz ⟨rfl, hz⟩; replace HB := hide (upR HB.out hz); clear hz) | (go_at_call 16; refine (HV.out _).mono ?_; rintro e wz ⟨rfl, hz⟩; replace HB := hide (upR HB.out hz); clear hz) | (go_at_call 12; refine (HL.out _ HB.out).mono ?_; rintro e wz ⟨rfl, hz⟩; replace HB := hide (upR HB.out hz); clear hz))
        go_ret
        exact ⟨rfl, HB.out⟩
      · go_enter Tryd.func6, Tryd.ntmps6
        go_wp2_with (first | (go_at_call 15; refine (HW.out _).mono ?_; rintro e wz ⟨rfl, hz⟩; replace HB := hide (upR HB.out hz); clear hz) | (go_at_call 16; refine (HV.out _).mono ?_; rintro e wz ⟨rfl, hz⟩; replace HB := hide (upR HB.out hz); clear hz) | (go_at_call 12; refine (HL.out _ HB.out).mono ?_; rintro e wz ⟨rfl, hz⟩; replace HB := hide (upR HB.out hz); clear hz))
        go_ret
        exact ⟨rfl, HB.out⟩
  · have g1 : ¬ (300 : Int) < (p.size : Int) := by omega
    have g2 : ¬ (300 : Int) < (s.size : Int) := by omega
    have HK : Hid (∀ W : World, Calls Tryd.prog 17 #[.string p, .string s] W fun e w' => e = .returned (.bool (likeR p.data.toList s.data.toList)) ∧ Below W.heap.size W w') := fun W => Like_any p s W (by omega) (by unfold maxLen; omega)
    have HJ : Hid (∀ W : World, Calls Tryd.prog 18 #[.string p, .string s] W fun e w' => e = .returned (.bool (likeR p.data.toList s.data.toList)) ∧ Below W.heap.size W w') := fun W => rLike_any p s W (by omega) (by omega)
    generalize wildL p.data.toList = B at *
    generalize likeR p.data.toList s.data.toList = C at *
    cases B <;> cases C
    · go_enter Tryd.func6, Tryd.ntmps6
      go_wp2_with (first | (go_at_call 17; refine (HK.out _).mono ?_; rintro e wz ⟨rfl, hz⟩; replace HB := hide (upR HB.out hz); clear hz) | (go_at_call 18; refine (HJ.out _).mono ?_; rintro e wz ⟨rfl, hz⟩; replace HB := hide (upR HB.out hz); clear hz) | (go_at_call 15; refine (HW.out _).mono ?_; rintro e wz ⟨rfl, hz⟩; replace HB := hide (upR HB.out hz); clear hz) | (go_at_call 16; refine (HV.out _).mono ?_; rintro e wz ⟨rfl, hz⟩; replace HB := hide (upR HB.out hz); clear hz) | (go_at_call 12; refine (HL.out _ HB.out).mono ?_; rintro e wz ⟨rfl, hz⟩; replace HB := hide (upR HB.out hz); clear hz))
      go_ret
      exact ⟨rfl, HB.out⟩
    · go_enter Tryd.func6, Tryd.ntmps6
      go_wp2_with (first | (go_at_call 17; refine (HK.out _).mono ?_; rintro e wz ⟨rfl, hz⟩; replace HB := hide (upR HB.out hz); clear hz) | (go_at_call 18; refine (HJ.out _).mono ?_; rintro e wz ⟨rfl, hz⟩; replace HB := hide (upR HB.out hz); clear hz) | (go_at_call 15; refine (HW.out _).mono ?_; rintro e wz ⟨rfl, hz⟩; replace HB := hide (upR HB.out hz); clear hz) | (go_at_call 16; refine (HV.out _).mono ?_; rintro e wz ⟨rfl, hz⟩; replace HB := hide (upR HB.out hz); clear hz) | (go_at_call 12; refine (HL.out _ HB.out).mono ?_; rintro e wz ⟨rfl, hz⟩; replace HB := hide (upR HB.out hz); clear hz))
      go_ret
      exact ⟨rfl, HB.out⟩
    · go_enter Tryd.func6, Tryd.ntmps6
      go_wp2_with (first | (go_at_call 17; refine (HK.out _).mono ?_; rintro e wz ⟨rfl, hz⟩; replace HB := hide (upR HB.out hz); clear hz) | (go_at_call 18; refine (HJ.out _).mono ?_; rintro e wz ⟨rfl, hz⟩; replace HB := hide (upR HB.out hz); clear hz) | (go_at_call 15; refine (HW.out _).mono ?_; rintro e wz ⟨rfl, hz⟩; replace HB := hide (upR HB.out hz); clear hz) | (go_at_call 16; refine (HV.out _).mono ?_; rintro e wz ⟨rfl, hz⟩; replace HB := hide (upR HB.out hz); clear hz) | (go_at_call 12; refine (HL.out _ HB.out).mono ?_; rintro e wz ⟨rfl, hz⟩; replace HB := hide (upR HB.out hz); clear hz))
      go_ret
      exact ⟨rfl, HB.out⟩
    · go_enter Tryd.func6, Tryd.ntmps6
      go_wp2_with (first | (go_at_call 17; refine (HK.out _).mono ?_; rintro e wz ⟨rfl, hz⟩; replace HB := hide (upR HB.out hz); clear hz) | (go_at_call 18; refine (HJ.out _).mono ?_; rintro e wz ⟨rfl, hz⟩; replace HB := hide (upR HB.out hz); clear hz) | (go_at_call 15; refine (HW.out _).mono ?_; rintro e wz ⟨rfl, hz⟩; replace HB := hide (upR HB.out hz); clear hz) | (go_at_call 16; refine (HV.out _).mono ?_; rintro e wz ⟨rfl, hz⟩; replace HB := hide (upR HB.out hz); clear hz) | (go_at_call 12; refine (HL.out _ HB.out).mono ?_; rintro e wz ⟨rfl, hz⟩; replace HB := hide (upR HB.out hz); clear hz))
      go_ret
      exact ⟨rfl, HB.out⟩
end Go.Proofs.YtpghgjibpbimeaaDoor
