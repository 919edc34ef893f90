/-
  The contract of layer 4's lives, walked.
-/
import Derived.Test.YtaokibkeoomfjaaDoorLives4
namespace Go.Proofs.YtaokibkeoomfjaaDoor
open Go.RowKit

theorem Box2.of {W w' : World} {p q : Nat} {k n : Int} {s : ByteArray} {b : Bool} {c : Int} {k' n' : Int} {s' : ByteArray} {b' : Bool} {c' : Int} (h : AtV w' p k n s b c) (h' : AtV w' q k' n' s' b' c') (hb : Below W.heap.size W w') :
    w'.cell? ⟨p, 0, none⟩ = some (.int .i64 k) ∧ w'.cell? ⟨p, 1, none⟩ = some (.int .i64 n) ∧ w'.cell? ⟨p, 2, none⟩ = some (.string s) ∧ w'.cell? ⟨p, 3, none⟩ = some (.bool b) ∧ w'.cell? ⟨p, 4, none⟩ = some (.int .i64 c) ∧ w'.cell? ⟨q, 0, none⟩ = some (.int .i64 k') ∧ w'.cell? ⟨q, 1, none⟩ = some (.int .i64 n') ∧ w'.cell? ⟨q, 2, none⟩ = some (.string s') ∧ w'.cell? ⟨q, 3, none⟩ = some (.bool b') ∧ w'.cell? ⟨q, 4, none⟩ = some (.int .i64 c') ∧ p < w'.heap.size ∧ q < w'.heap.size ∧ Below W.heap.size W w' := by
  obtain ⟨l, a0, a1, a2, a3, a4⟩ := h
  obtain ⟨m, b0, b1, b2, b3, b4⟩ := h'
  exact ⟨a0, a1, a2, a3, a4, b0, b1, b2, b3, b4, l, m, hb⟩

set_option maxRecDepth 100000 in
set_option maxHeartbeats 4000000 in
theorem lives4_any (w : World) (he : Env w) :
    Calls Tryd.prog 17 #[] w fun e w' => e = .returned (.bool true) ∧ Below w.heap.size w w' := by
  have HE := hide he
  clear he
  go_enter Tryd.func17, Tryd.ntmps17
  go_wp2_with fail
  refine (ltext_any _ _).mono ?_
  rintro e w1 ⟨rfl, hb⟩
  have HB := hide hb
  clear hb
  go_wp2_with fail
  refine (l4_1 _ (HE.out.below HB.out)).mono ?_
  rintro e w2 ⟨rfl, hb⟩
  have HB := hide (HB.out.trans (hb.mono HB.out.size))
  clear hb
  go_wp2_with fail
  refine (ltext_any _ _).mono ?_
  rintro e w3 ⟨rfl, hb⟩
  have HB := hide (HB.out.trans (hb.mono HB.out.size))
  clear hb
  go_wp2_with fail
  refine (l4_2 _ (HE.out.below HB.out)).mono ?_
  rintro e w4 ⟨rfl, hb⟩
  have HB := hide (HB.out.trans (hb.mono HB.out.size))
  clear hb
  go_wp2_with fail
  refine (lnumber_any _ _).mono ?_
  rintro e w5 ⟨rfl, hb⟩
  have HB := hide (HB.out.trans (hb.mono HB.out.size))
  clear hb
  go_wp2_with fail
  refine (l4_3 _).mono ?_
  rintro e w6 ⟨rfl, hb⟩
  have HB := hide (HB.out.trans (hb.mono HB.out.size))
  clear hb
  go_wp2_with fail
  refine (ltext_any _ _).mono ?_
  rintro e w7 ⟨rfl, hb⟩
  have HB := hide (HB.out.trans (hb.mono HB.out.size))
  clear hb
  go_wp2_with fail
  refine (ltext_any _ _).mono ?_
  rintro e w8 ⟨rfl, hb⟩
  have HB := hide (HB.out.trans (hb.mono HB.out.size))
  clear hb
  go_wp2_with fail
  refine (l4_4 _).mono ?_
  rintro e w9 ⟨rfl, hb⟩
  have HB := hide (HB.out.trans (hb.mono HB.out.size))
  clear hb
  go_wp2_with fail
  refine (l4_5 _ (HE.out.below HB.out)).mono ?_
  rintro e wa ⟨rfl, hb⟩
  have HB := hide (HB.out.trans (hb.mono HB.out.size))
  clear hb
  go_wp2_with fail
  refine (lnumber_any _ _).mono ?_
  rintro e wb ⟨rfl, hb⟩
  have HA := hide ((AtV.at wa wa.heap.size 4 0 ⟨#[]⟩ false 6 25 rfl).below hb)
  have HB := hide (HB.out.trans ((((Below.refl wa.heap.size wa).alloc (Nat.le_refl _) _).trans (hb.mono (by simp))).mono HB.out.size))
  clear hb
  go_wp2_with fail
  refine (l4_6 _ (HE.out.below HB.out)).mono ?_
  rintro e wc ⟨rfl, hb⟩
  have HA := hide (HA.out.below hb)
  have HB := hide (HB.out.trans (hb.mono HB.out.size))
  clear hb
  go_wp2_with fail
  refine (l4_7 _ (HE.out.below HB.out)).mono ?_
  rintro e wd ⟨rfl, hb⟩
  have HA := hide (HA.out.below hb)
  have HB := hide (HB.out.trans (hb.mono HB.out.size))
  clear hb
  go_wp2
  have HS := hide (Box2.of (HA.out.alloc (.cells #[.int .i64 1, .int .i64 7500000, .string ⟨#[]⟩, .bool false, .int .i64 0] 25)) (AtV.at wd wd.heap.size 1 7500000 ⟨#[]⟩ false 0 25 rfl) (HB.out.alloc HB.out.size _))
  clear HE HA HB
  go_region_held3 (fun w' => w'.cell? ⟨wa.heap.size, 0, none⟩ = some (.int .i64 4) ∧ w'.cell? ⟨wa.heap.size, 1, none⟩ = some (.int .i64 0) ∧ w'.cell? ⟨wa.heap.size, 2, none⟩ = some (.string ⟨#[]⟩) ∧ w'.cell? ⟨wa.heap.size, 3, none⟩ = some (.bool false) ∧ w'.cell? ⟨wa.heap.size, 4, none⟩ = some (.int .i64 6) ∧ w'.cell? ⟨wd.heap.size, 0, none⟩ = some (.int .i64 1) ∧ w'.cell? ⟨wd.heap.size, 1, none⟩ = some (.int .i64 7500000) ∧ w'.cell? ⟨wd.heap.size, 2, none⟩ = some (.string ⟨#[]⟩) ∧ w'.cell? ⟨wd.heap.size, 3, none⟩ = some (.bool false) ∧ w'.cell? ⟨wd.heap.size, 4, none⟩ = some (.int .i64 0) ∧ wa.heap.size < w'.heap.size ∧ wd.heap.size < w'.heap.size ∧ Below w.heap.size w w') (first | exact HS.out | assumption | exact Box2.drew (by assumption)) (first | (go_at_call 29; refine (lnumber_any _ _).mono ?_; rintro e w2 ⟨rfl, hb2⟩; have hs2 := Box2.below (by assumption) hb2))
  all_goals go_wp2
  all_goals go_ret
  all_goals exact ⟨rfl, Box2.out (by assumption)⟩
end Go.Proofs.YtaokibkeoomfjaaDoor
