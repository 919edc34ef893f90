/-
  The walk of TreeParses: any text is read as the formula that the document says, or not, for its reason, at its byte.
-/
import Derived.Test.YtiaoaifoecmemaaGreatDoorRQ16
set_option maxRecDepth 100000
set_option maxHeartbeats 4000000
namespace Go.Proofs.YtiaoaifoecmemaaGreatDoor
open Go.RowKit
theorem rpar_ok (s : ByteArray) (w : World) (hs : s.size ≤ maxLen) (h : Hd) (k : Fo) (hp : parseN s.data.toList = .ok h k) :
  Calls Tryz.prog 11 #[.string s] w fun e w' => ∃ a n cap, e = .returned (.tuple #[nodeV h (.slice a n cap), .int .i64 0, .int .i64 0]) ∧ NodeAt (w'.alloc (.cells (hdC h (.slice a n cap)).toArray 34)) w'.heap.size h (.slice a n cap) k ∧ Below w.heap.size w (w'.alloc (.cells (hdC h (.slice a n cap)).toArray 34)) := by
 refine (rparsed_ok s w hs h k hp).mono ?_
 rintro e w' ⟨a, n, cap, rfl, hk, hb⟩
 exact ⟨a, n, cap, rfl, node_new h hk (fun c hc => hc.2), bar_below hb (Bar.of (below_obj w' _))⟩
theorem rpar_no (s : ByteArray) (w : World) (hs : s.size ≤ maxLen) (x y : Int) (hp : parseN s.data.toList = .no x y) :
  Calls Tryz.prog 11 #[.string s] w fun e w' => e = .returned (.tuple #[nodeV zh (.slice none 0 0), .int .i64 x, .int .i64 y]) ∧ NodeAt (w'.alloc (.cells (hdC zh (.slice none 0 0)).toArray 34)) w'.heap.size zh (.slice none 0 0) .nil ∧ Below w.heap.size w (w'.alloc (.cells (hdC zh (.slice none 0 0)).toArray 34)) := by
 refine (rparsed_no s w hs x y hp).mono ?_
 rintro e w' ⟨rfl, hb⟩
 exact ⟨rfl, node_new zh (kv_nil w' (fun _ => False) none 0) (fun c hc => hc.elim), bar_below hb (Bar.of (below_obj w' _))⟩
theorem treeParses_walk (s : ByteArray) (w : World) (he : Env8 w) (hs : s.size ≤ maxLen) :
    Calls Tryz.prog 3 #[.string s] w fun e w' => e = .returned (.bool true) ∧ Below w.heap.size w w' := by
  have HV : Hid (∀ W : World, Env8 W → Calls Tryz.prog 9 #[] W fun e w' => e = .returned (.bool true) ∧ Below W.heap.size W w') := lives8
  have HE := hide he
  by_cases hl : 1100 < s.size
  · have hl' : (1100 : Int) < (s.size : Int) := by omega
    clear he
    go_enter Tryz.func3, Tryz.ntmps3
    go_wp2_with (first | (go_at_call 9; refine (HV.out _ HE.out).mono ?_; rintro e w1 ⟨rfl, hb1⟩; have HB1 := hide hb1; clear hb1))
    go_ret
    exact ⟨rfl, HB1.out⟩
  have hl' : ¬ (1100 : Int) < (s.size : Int) := by omega
  cases hp : parseN s.data.toList with
  | no x y =>
    have HP := hide (parsed_no s w he hs x y hp)
    have HQ : Hid (∀ W : World, Calls Tryz.prog 11 #[.string s] W fun e w' => e = .returned (.tuple #[nodeV zh (.slice none 0 0), .int .i64 x, .int .i64 y]) ∧ NodeAt (w'.alloc (.cells (hdC zh (.slice none 0 0)).toArray 34)) w'.heap.size zh (.slice none 0 0) .nil ∧ Below W.heap.size W (w'.alloc (.cells (hdC zh (.slice none 0 0)).toArray 34))) := fun W => rpar_no s W hs x y hp
    have HS : Hid (∀ (W : World), Calls Tryz.prog 12 #[.agg (hdC zh (.slice none 0 0)).toArray, .agg (hdC zh (.slice none 0 0)).toArray] W fun e w' => e = .returned (.bool true) ∧ Below W.heap.size W w') := fun W => same_any .nil (fun _ => False) (fun _ => False) zh (.slice none 0 0) (.slice none 0 0) W (fun _ h => h.elim) (fun _ h => h.elim) (kv_nil _ _ _ _) (kv_nil _ _ _ _)
    clear he hp
    go_enter Tryz.func3, Tryz.ntmps3
    go_wp2_with (first | (go_at_call 10; refine HP.out.mono ?_; rintro e w1 ⟨rfl, hn1, hb1⟩; have HN1 := hide hn1; have HB1 := hide hb1; clear hn1 hb1) | (go_at_call 11; refine (HQ.out _).mono ?_; rintro e w2 ⟨rfl, hn2, hb2⟩; have HX2 := hide (HN1.out.below hb2).1; have HY2 := hide hn2.1; have HB2 := hide (bar_below HB1.out (Bar.of hb2)); clear hn2 hb2) | (with_reducible refine wpl_id ?_; refine wpl_newN rfl _ _ rfl rfl rfl rfl ?_) | (with_reducible refine wpl_id ?_; refine wpl_loadW rfl _ rfl _ rfl (by first | exact HX2.out | exact HY2.out) ?_) | (go_at_call 12; refine (HS.out _).mono ?_; rintro e w3 ⟨rfl, hb3⟩; have HB3 := hide (bar_below HB2.out (Bar.of hb3)); clear hb3) | (go_at_call 9; refine (HV.out _ (HE.out.below HB3.out)).mono ?_; rintro e w4 ⟨rfl, hb4⟩; have HB4 := hide (bar_below HB3.out (Bar.of hb4)); clear hb4))
    go_ret
    exact ⟨rfl, HB4.out⟩
  | ok h k =>
    have HP := hide (parsed_ok s w he hs h k hp)
    have HQ : Hid (∀ W : World, Calls Tryz.prog 11 #[.string s] W fun e w' => ∃ a n cap, e = .returned (.tuple #[nodeV h (.slice a n cap), .int .i64 0, .int .i64 0]) ∧ NodeAt (w'.alloc (.cells (hdC h (.slice a n cap)).toArray 34)) w'.heap.size h (.slice a n cap) k ∧ Below W.heap.size W (w'.alloc (.cells (hdC h (.slice a n cap)).toArray 34))) := fun W => rpar_ok s W hs h k hp
    have HS : Hid (∀ (W : World) (v v2 : Value), Kv W (fun c => c < W.heap.size) v k → Kv W (fun c => c < W.heap.size) v2 k → Calls Tryz.prog 12 #[.agg (hdC h v).toArray, .agg (hdC h v2).toArray] W fun e w' => e = .returned (.bool true) ∧ Below W.heap.size W w') := fun W v v2 h1 h2 => same_any k _ _ h v v2 W (fun _ h => h) (fun _ h => h) h1 h2
    clear he hp
    go_enter Tryz.func3, Tryz.ntmps3
    go_wp2_with (first | (go_at_call 10; refine HP.out.mono ?_; rintro e w1 ⟨a1, n1, c1, rfl, hn1, hb1⟩; have HN1 := hide hn1; have HB1 := hide hb1; clear hn1 hb1) | (go_at_call 11; refine (HQ.out _).mono ?_; rintro e w2 ⟨a2, n2, c2, rfl, hn2, hb2⟩; have HN2 := hide (HN1.out.below hb2); have HM2 := hide hn2; have HX2 := hide HN2.out.1; have HY2 := hide hn2.1; have HB2 := hide (bar_below HB1.out (Bar.of hb2)); clear hn2 hb2) | (with_reducible refine wpl_id ?_; refine wpl_newN rfl _ _ rfl rfl rfl rfl ?_) | (with_reducible refine wpl_id ?_; refine wpl_loadW rfl _ rfl _ rfl (by first | exact HX2.out | exact HY2.out) ?_) | (go_at_call 12; refine (HS.out _ _ _ HN2.out.2 HM2.out.2).mono ?_; rintro e w3 ⟨rfl, hb3⟩; have HB3 := hide (bar_below HB2.out (Bar.of hb3)); clear hb3) | (go_at_call 9; refine (HV.out _ (HE.out.below HB3.out)).mono ?_; rintro e w4 ⟨rfl, hb4⟩; have HB4 := hide (bar_below HB3.out (Bar.of hb4)); clear hb4))
    go_ret
    exact ⟨rfl, HB4.out⟩
end Go.Proofs.YtiaoaifoecmemaaGreatDoor
