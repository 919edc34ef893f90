/-
  The walk of MathsLists.
-/
import Derived.Test.YtfopebfejmlhbaaMa13
import Derived.Test.YtfopebfejmlhbaaMb5
import Derived.Test.YtfopebfejmlhbaaMaOpen
import Derived.Laws.AppendOwn
import Derived.OwnWalk
import Derived.Laws.AppendOwnNone
import Derived.Laws.OwnMore
namespace Go.Proofs.Ytfopebfejmlhbaa
open Go.RowKit Go.ChangeShapes Go.WideShapes Go.ChangeAt

theorem own_rowI {w : World} {b : Nat} {v : Value} {xs : List Int} (h : w.ownsRow b 3 1 v xs.length (xs.map (.int .i64))) (hl : xs.length ≤ maxLen) :
    ∃ (a : Option Addr) (cap : Nat), v = .slice a xs.length cap ∧ RowI w a xs := by
  have hm : xs.length ≤ 9223372036854775807 := by unfold maxLen at hl; omega
  rcases h.2 with ⟨rfl, hn⟩ | ⟨g, cap, cur, rfl, hb, hg, hc, hc2, hs, ht⟩
  · exact ⟨none, 0, by rw [hn], hm, fun i hi => absurd hi (by omega)⟩
  · refine ⟨_, cap, rfl, hm, fun i hi => ⟨_, rfl, ?_⟩⟩
    refine h.cells (g := g) rfl i _ ?_
    rw [List.getElem?_map, List.getElem?_eq_getElem hi, List.getD_eq_getElem?_getD, List.getElem?_eq_getElem hi]; rfl

theorem own_only {w : World} {b n : Nat} {v : Value} {xs : List Value} (h : w.ownsRow b 3 1 v (0 + n) ([] ++ xs)) : w.ownsRow b 3 1 v n xs := by
  rw [Nat.zero_add, List.nil_append] at h; exact h

set_option maxRecDepth 100000 in
set_option maxHeartbeats 4000000 in
theorem mathsLists_walk (a : Option Addr) (len cap : Nat) (zs : List Int) (w : World) (hr : IsRow w a len cap zs) (hs : len * 8 ≤ 140737488351232) :
    Calls Try.prog 6 #[.slice a len cap] w fun e w' => e = .returned (.bool true) ∧ Below w.heap.size w w' := by
  have HL := hide (fun W : World => lives_any W)
  have HB0 := hide (Below.refl w.heap.size w)
  obtain ⟨i0, hi, hz0, hz1, hz2⟩ := info_parts infoInt
  rcases hr with ⟨rfl, rfl, rfl, rfl⟩ | ⟨x, rfl, hl, hm, hz, hc, _⟩
  · have HG : Hid (∀ (a' : Option Addr) (cap' : Nat) (W : World), Calls Try.prog 34 #[.slice a' 0 cap'] W fun e w' => e = .returned (.tuple #[.int .i64 0, .int .i64 0]) ∧ Below W.heap.size W w') := fun a' cap' W => Gcd_any [] a' cap' W ⟨by decide, fun i hi => absurd hi (Nat.not_lt_zero _)⟩
    have HM : Hid (∀ (a' : Option Addr) (cap' : Nat) (W : World), Calls Try.prog 36 #[.slice a' 0 cap'] W fun e w' => e = .returned (.tuple #[.int .i64 1000000, .int .i64 0]) ∧ Below W.heap.size W w') := fun a' cap' W => Lcm_any [] a' cap' W ⟨by decide, fun i hi => absurd hi (Nat.not_lt_zero _)⟩
    have RG : Hid (∀ (a' : Option Addr) (cap' : Nat) (W : World), Calls Try.prog 35 #[.slice a' 0 cap'] W fun e w' => e = .returned (.tuple #[.int .i64 0, .int .i64 0]) ∧ Below W.heap.size W w') := fun a' cap' W => rGcd_any [] a' cap' W ⟨by decide, fun i hi => absurd hi (Nat.not_lt_zero _)⟩
    have RM : Hid (∀ (a' : Option Addr) (cap' : Nat) (W : World), Calls Try.prog 37 #[.slice a' 0 cap'] W fun e w' => e = .returned (.tuple #[.int .i64 1000000, .int .i64 0]) ∧ Below W.heap.size W w') := fun a' cap' W => rLcm_any [] a' cap' W ⟨by decide, fun i hi => absurd hi (Nat.not_lt_zero _)⟩
    go_enter Try.func6, Try.ntmps6
    go_wp2_with (first
      | (go_at_call 34; refine (HG.out _ _ _).mono ?_; rintro e v1 ⟨rfl, hb⟩; have HB1 := hide (up (HB0.out.alloc HB0.out.size _) hb); clear hb)
      | (go_at_call 35; refine (RG.out _ _ _).mono ?_; rintro e v2 ⟨rfl, hb⟩; have HB2 := hide (up HB1.out hb); clear hb)
      | (go_at_call 36; refine (HM.out _ _ _).mono ?_; rintro e v3 ⟨rfl, hb⟩; have HB3 := hide (up (HB2.out.alloc HB2.out.size _) hb); clear hb)
      | (go_at_call 37; refine (RM.out _ _ _).mono ?_; rintro e v4 ⟨rfl, hb⟩; have HB4 := hide (up HB3.out hb); clear hb)
      | (go_at_call 21; refine (HL.out _).mono ?_; rintro e v5 ⟨rfl, hb⟩; have HB5 := hide (up HB4.out hb); clear hb))
    go_ret
    exact ⟨rfl, HB5.out⟩
  · obtain ⟨xs, hxs⟩ : ∃ xs, xs = zs.take len := ⟨_, rfl⟩
    have hlen : xs.length = len := by rw [hxs, List.length_take]; omega
    have hrow : RowI w (some x) xs := by
      refine ⟨by unfold maxLen at hm; omega, fun i hi => ⟨x, rfl, ?_⟩⟩
      rw [hc i (by omega), hxs, List.getD_eq_getElem?_getD, List.getD_eq_getElem?_getD, List.getElem?_take_of_lt (by omega)]
    subst hlen
    have hmx : xs.length ≤ maxLen := Nat.le_trans hl hm
    have HG := hide (fun (a' : Option Addr) (cap' : Nat) (W : World) (h : RowI W a' xs) => Gcd_any xs a' cap' W h)
    have HM := hide (fun (a' : Option Addr) (cap' : Nat) (W : World) (h : RowI W a' xs) => Lcm_any xs a' cap' W h)
    have RG := hide (fun (W : World) (h : Below w.heap.size w W) => rGcd_any xs (some x) cap W (hrow.below h))
    have RM := hide (fun (W : World) (h : Below w.heap.size w W) => rLcm_any xs (some x) cap W (hrow.below h))
    have HN : Hid (∀ W : World, Below w.heap.size w W → ∀ j u, (xs.map (Value.int .i64))[j]? = some u → W.cell? (x.add j) = some u) := by
      intro W hB j u hj
      rw [List.getElem?_map] at hj
      have hjl : j < xs.length := by
        apply Classical.byContradiction
        intro h
        rw [List.getElem?_eq_none (by omega)] at hj; cases hj
      obtain ⟨_, hx, hcell⟩ := (hrow.below hB).2 j hjl
      cases hx
      rw [hcell, ← hj, List.getD_eq_getElem?_getD, List.getElem?_eq_getElem hjl]; rfl
    have HV : Hid (∀ u ∈ xs.map (Value.int .i64), u.oneCell' = true) := by
      intro u hu
      obtain ⟨n, _, rfl⟩ := List.mem_map.1 hu
      rfl
    clear hrow hc hxs hz hm hl
    generalize shownL xs (mdivR xs) = G at *
    generalize shownL xs (mmulR xs) = L at *
    obtain ⟨G1, G2⟩ := G
    obtain ⟨L1, L2⟩ := L
    go_enter Try.func6, Try.ntmps6
    go_wp2_with (first
      | (at_builtin; first
          | (refine wpList_append_own _ rfl _ _ 31 rfl w.heap.size 3 i0 (.int .i64 0) 1 8 Try.underlying31 hi hz0 hz1 hz2 rfl (by decide) _ 0 [] rfl (World.ownsRow_lit _ #[] 0 (Nat.le_refl _) (by decide) rfl) x xs.length cap (xs.map (Value.int .i64)) rfl (by simp) (HN.out _ (HB0.out.alloc HB0.out.size _)) HV.out (by omega) (by omega) (by have := HB0.out.size; simp <;> omega) ?_; intro v' w1 hown hgrow _; have hown2 := own_only hown; clear hown; obtain ⟨a1, c1, rfl, hrow⟩ := own_rowI hown2 hmx; clear hown2; have HW1 := hide hrow; clear hrow; have HA1 := hide ((HB0.out.alloc HB0.out.size (.cells #[] 3)).grown hgrow (by have := HB0.out.size; simp <;> omega) (fun k e => by cases e; exact HB0.out.size)); clear hgrow)
          | (refine wpList_append_own _ rfl _ _ 31 rfl w.heap.size 3 i0 (.int .i64 0) 1 8 Try.underlying31 hi hz0 hz1 hz2 rfl (by decide) _ 0 [] rfl (World.ownsRow_lit _ #[] 0 (HB2.out.size) (by decide) rfl) x xs.length cap (xs.map (Value.int .i64)) rfl (by simp) (HN.out _ (HB2.out.alloc HB2.out.size _)) HV.out (by omega) (by omega) (by have := HB2.out.size; simp <;> omega) ?_; intro v' w2 hown hgrow _; have hown2 := own_only hown; clear hown; obtain ⟨a2, c2, rfl, hrow⟩ := own_rowI hown2 hmx; clear hown2; have HW2 := hide hrow; clear hrow; have HA2 := hide ((HB2.out.alloc HB2.out.size (.cells #[] 3)).grown hgrow (by have := HB2.out.size; simp <;> omega) (fun k e => by cases e; exact HB2.out.size)); clear hgrow))
      | (go_at_call 34; refine (HG.out _ _ _ HW1.out).mono ?_; rintro e v1 ⟨rfl, hb⟩; have HB1 := hide (up HA1.out hb); clear hb)
      | (go_at_call 35; refine (RG.out _ HB1.out).mono ?_; rintro e v2 ⟨rfl, hb⟩; have HB2 := hide (up HB1.out hb); clear hb)
      | (go_at_call 36; refine (HM.out _ _ _ HW2.out).mono ?_; rintro e v3 ⟨rfl, hb⟩; have HB3 := hide (up HA2.out hb); clear hb)
      | (go_at_call 37; refine (RM.out _ HB3.out).mono ?_; rintro e v4 ⟨rfl, hb⟩; have HB4 := hide (up HB3.out hb); clear hb)
      | (go_at_call 21; refine (HL.out _).mono ?_; rintro e v5 ⟨rfl, hb⟩; have HB5 := hide (up HB4.out hb); clear hb))
    go_ret
    exact ⟨rfl, HB5.out⟩
end Go.Proofs.Ytfopebfejmlhbaa
