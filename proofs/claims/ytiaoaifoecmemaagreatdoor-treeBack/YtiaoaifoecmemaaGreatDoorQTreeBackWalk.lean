/-
  The walk of TreeBack: a formula that is printed is read as it was.
-/
import Derived.Test.YtiaoaifoecmemaaGreatDoorQ13
namespace Go.Proofs.YtiaoaifoecmemaaGreatDoor
open Go.RowKit

set_option maxRecDepth 100000 in
set_option maxHeartbeats 4000000 in
theorem treeBack_walk (D : Nat → Prop) (h : Hd) (k : Fo) (a : Option Addr) (n cap : Nat) (w : World) (he : Env8 w) (hD : ∀ c, D c → c < w.heap.size) (hk : Kv w D (.slice a n cap) k) (hv : h.vs.length ≤ maxLen) (ht : h.txt.length ≤ maxLen) (ho : okF k) :
    Calls Tryz.prog 5 #[.agg (hdC h (.slice a n cap)).toArray] w fun e w' => e = .returned (.bool true) ∧ Below w.heap.size w w' := by
  have HV : Hid (∀ W : World, Env8 W → Calls Tryz.prog 9 #[] W fun e w' => e = .returned (.bool true) ∧ Below W.heap.size W w') := lives8
  have HE := hide he
  have HN0 := hide (node_new h hk hD)
  have HB0 := hide (below_obj w (.cells (hdC h (.slice a n cap)).toArray 34))
  have HX0 := hide HN0.out.1
  have hde : ∀ W : World, Kv W (fun c => c < W.heap.size) (.slice a n cap) k → Calls Tryz.prog 13 #[.agg (hdC h (.slice a n cap)).toArray] W fun e w' => e = .returned (.int .i64 (depthN k : Int)) ∧ Below W.heap.size W w' := fun W hW => depth_any _ h k _ W (fun _ h => h) hW
  have hdn : depthN k = if k.many + 1 ≤ 4096 ∧ k.deep + 1 ≤ 160 then k.deep + 1 else 0 := rfl
  by_cases hq : k.many + 1 ≤ 4096 ∧ k.deep + 1 ≤ 160
  · rw [if_pos hq] at hdn
    have HD : Hid (∀ W : World, Kv W (fun c => c < W.heap.size) (.slice a n cap) k → Calls Tryz.prog 13 #[.agg (hdC h (.slice a n cap)).toArray] W fun e w' => e = .returned (.int .i64 (depthN k : Int)) ∧ Below W.heap.size W w') := hde
    have hd0 : ((depthN k : Int) == 0) = false := by rw [hdn, beq_eq_false_iff_ne]; omega
    have hpr : ∀ W : World, Env8 W → Kv W (fun c => c < W.heap.size) (.slice a n cap) k → Calls Tryz.prog 18 #[.agg (hdC h (.slice a n cap)).toArray] W fun e w' => e = .returned (.tuple #[.string ⟨(printN h k).1.toArray⟩, .int .i64 (printN h k).2]) ∧ Below W.heap.size W w' := fun W hW hkW => print_node _ h k a n cap W hW.2.1 (fun _ h => h) hkW hq.1 hv ht ho
    have HQ := hide hpr
    by_cases hc : (printN h k).2 = 0
    · have hck : checkN h k = 0 := by
        unfold printN at hc
        by_cases hz : checkN h k = 0
        · exact hz
        · rw [if_pos hz] at hc
          exact absurd hc hz
      have hr : rightN h k = true := by
        unfold checkN at hck
        split at hck
        · exact absurd hck (by decide)
        · split at hck
          · exact absurd hck (by decide)
          · rename_i h2; simpa using h2
      have h40 : k.deep + 1 ≤ 40 := by
        rw [check_right hr] at hck
        split at hck
        · exact absurd hck (by decide)
        · omega
      have hpf := print_fine hr h40
      have hlen : (textN h k).length ≤ 1023 := by
        by_cases hb : 1023 < (textN h k).length
        · rw [hpf, if_pos hb] at hc
          exact absurd hc (by decide)
        · omega
      rw [if_neg (by omega)] at hpf
      rw [hpf] at HQ
      simp only at HQ
      have hz : (⟨(textN h k).toArray⟩ : ByteArray).size ≤ maxLen := by
        show (textN h k).toArray.size ≤ maxLen
        have : (1023 : Nat) ≤ maxLen := by decide
        simp; omega
      have HP2 : Hid (∀ W : World, Env8 W → Calls Tryz.prog 10 #[.string ⟨(textN h k).toArray⟩] W fun e w' => ∃ a n cap, e = .returned (.tuple #[nodeV h (.slice a n cap), .int .i64 0, .int .i64 0]) ∧ NodeAt (w'.alloc (.cells (hdC h (.slice a n cap)).toArray 34)) w'.heap.size h (.slice a n cap) k ∧ Below W.heap.size W (w'.alloc (.cells (hdC h (.slice a n cap)).toArray 34))) := fun W hW => parsed_ok _ W hW hz h k (text_parse hr (by omega) h40)
      have HS : Hid (∀ (W : World) (v v2 : Value), Kv W (fun c => c < W.heap.size) v k → Kv W (fun c => c < W.heap.size) v2 k → Calls Tryz.prog 12 #[.agg (hdC h v).toArray, .agg (hdC h v2).toArray] W fun e w' => e = .returned (.bool true) ∧ Below W.heap.size W w') := fun W v v2 h1 h2 => same_any k _ _ h v v2 W (fun _ h => h) (fun _ h => h) h1 h2
      clear he hD hk hv ht ho hde hdn hq hpr hc hck hr h40 hpf hlen hz
      generalize textN h k = T at *
      generalize depthN k = d at *
      go_enter Tryz.func5, Tryz.ntmps5
      go_wp2_with (first | (with_reducible refine wpl_id ?_; refine wpl_newN rfl _ _ rfl rfl rfl rfl ?_) | (with_reducible refine wpl_id ?_; refine wpl_loadW rfl _ rfl _ rfl (by first | exact HX3.out | exact HY3.out | exact HX1.out | exact HX0.out) ?_) | (go_at_call 13; refine (HD.out _ HN0.out.2).mono ?_; rintro e w1 ⟨rfl, hb1⟩; have HB1 := hide (bar_below HB0.out (Bar.of hb1)); have HN1 := hide (HN0.out.below hb1); have HX1 := hide HN1.out.1; clear hb1) | (go_at_call 18; refine (HQ.out _ (HE.out.below HB1.out) HN1.out.2).mono ?_; rintro e w2 ⟨rfl, hb2⟩; have HB2 := hide (bar_below HB1.out (Bar.of hb2)); have HN2 := hide (HN1.out.below hb2); clear hb2) | (go_at_call 10; refine (HP2.out _ (HE.out.below HB2.out)).mono ?_; rintro e w3 ⟨a3, n3, c3, rfl, hn3, hb3⟩; have HM3 := hide hn3; have HY3 := hide hn3.1; have HN3 := hide (HN2.out.below hb3); have HX3 := hide HN3.out.1; have HB3 := hide (bar_below HB2.out (Bar.of hb3)); clear hn3 hb3) | (go_at_call 12; refine (HS.out _ _ _ HN3.out.2 HM3.out.2).mono ?_; rintro e w5 ⟨rfl, hb5⟩; have HB5 := hide (bar_below HB3.out (Bar.of hb5)); clear hb5) | (go_at_call 9; refine (HV.out _ (HE.out.below HB5.out)).mono ?_; rintro e w6 ⟨rfl, hb6⟩; have HB6 := hide (bar_below HB5.out (Bar.of hb6)); clear hb6))
      go_ret
      exact ⟨rfl, HB6.out⟩
    · have hp1 : (printN h k).1 = [] := by
        unfold printN at hc ⊢
        split
        · rfl
        · rename_i h1
          rw [if_neg h1] at hc
          split
          · rfl
          · rename_i h2
            rw [if_neg h2] at hc
            exact absurd rfl hc
      rw [hp1] at HQ
      have hc' : ((printN h k).2 == 0) = false := by rw [beq_eq_false_iff_ne]; exact hc
      clear he hD hk hv ht ho hde hdn hq hpr hc hp1
      generalize (printN h k).2 = C at *
      generalize depthN k = d at *
      go_enter Tryz.func5, Tryz.ntmps5
      go_wp2_with (first | (with_reducible refine wpl_id ?_; refine wpl_loadW rfl _ rfl _ rfl (by first | exact HX1.out | exact HX0.out) ?_) | (go_at_call 13; refine (HD.out _ HN0.out.2).mono ?_; rintro e w1 ⟨rfl, hb1⟩; have HB1 := hide (bar_below HB0.out (Bar.of hb1)); have HN1 := hide (HN0.out.below hb1); have HX1 := hide HN1.out.1; clear hb1) | (go_at_call 18; refine (HQ.out _ (HE.out.below HB1.out) HN1.out.2).mono ?_; rintro e w2 ⟨rfl, hb2⟩; have HB2 := hide (bar_below HB1.out (Bar.of hb2)); clear hb2) | (go_at_call 9; refine (HV.out _ (HE.out.below HB2.out)).mono ?_; rintro e w6 ⟨rfl, hb6⟩; have HB6 := hide (bar_below HB2.out (Bar.of hb6)); clear hb6))
      go_ret
      exact ⟨rfl, HB6.out⟩
  · rw [if_neg hq] at hdn
    have HD : Hid (∀ W : World, Kv W (fun c => c < W.heap.size) (.slice a n cap) k → Calls Tryz.prog 13 #[.agg (hdC h (.slice a n cap)).toArray] W fun e w' => e = .returned (.int .i64 0) ∧ Below W.heap.size W w') := fun W hW => by
      have := hde W hW
      rw [hdn] at this
      exact this
    clear he hD hk hv ht ho hde hdn hq
    go_enter Tryz.func5, Tryz.ntmps5
    go_wp2_with (first | (with_reducible refine wpl_id ?_; refine wpl_loadW rfl _ rfl _ rfl HX0.out ?_) | (go_at_call 13; refine (HD.out _ HN0.out.2).mono ?_; rintro e w1 ⟨rfl, hb1⟩; have HB1 := hide (bar_below HB0.out (Bar.of hb1)); clear hb1) | (go_at_call 9; refine (HV.out _ (HE.out.below HB1.out)).mono ?_; rintro e w2 ⟨rfl, hb2⟩; have HB2 := hide (bar_below HB1.out (Bar.of hb2)); clear hb2))
    go_ret
    exact ⟨rfl, HB2.out⟩
end Go.Proofs.YtiaoaifoecmemaaGreatDoor
