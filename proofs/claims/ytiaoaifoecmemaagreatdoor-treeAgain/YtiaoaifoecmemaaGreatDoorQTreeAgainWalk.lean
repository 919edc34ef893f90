/-
  The walk of TreeAgain: what is read is printed, unless the text would be too long, and that is read as the same, and printed as the same.
-/
import Derived.Test.YtiaoaifoecmemaaGreatDoorQ13
namespace Go.Proofs.YtiaoaifoecmemaaGreatDoor
open Go.RowKit

set_option maxRecDepth 100000 in
set_option maxHeartbeats 4000000 in
theorem treeAgain_walk (s : ByteArray) (w : World) (he : Env8 w) (hs : s.size ≤ maxLen) :
    Calls Tryz.prog 6 #[.string s] w fun e w' => e = .returned (.bool true) ∧ Below w.heap.size w w' := by
  have HV : Hid (∀ W : World, Env8 W → Calls Tryz.prog 9 #[] W fun e w' => e = .returned (.bool true) ∧ Below W.heap.size W w') := lives8
  have HE := hide he
  by_cases hl : 1100 < s.size
  · have hl' : (1100 : Int) < (s.size : Int) := by omega
    clear he
    go_enter Tryz.func6, Tryz.ntmps6
    go_wp2_with (first | (go_at_call 9; refine (HV.out _ HE.out).mono ?_; rintro e w1 ⟨rfl, hb1⟩; have HB1 := hide hb1; clear hb1))
    go_ret
    exact ⟨rfl, HB1.out⟩
  have hl' : ¬ (1100 : Int) < (s.size : Int) := by omega
  cases hp : parseN s.data.toList with
  | no x y =>
    have hy := parse_err hp
    have HP := hide (parsed_no s w he hs x y hp)
    have HS : Hid (∀ (W : World), Calls Tryz.prog 12 #[.agg (hdC zh (.slice none 0 0)).toArray, .agg (hdC zh (.slice none 0 0)).toArray] W fun e w' => e = .returned (.bool true) ∧ Below W.heap.size W w') := fun W => same_any .nil (fun _ => False) (fun _ => False) zh (.slice none 0 0) (.slice none 0 0) W (fun _ h => h.elim) (fun _ h => h.elim) (kv_nil _ _ _ _) (kv_nil _ _ _ _)
    clear he hp
    go_enter Tryz.func6, Tryz.ntmps6
    go_wp2_with (first | (go_at_call 10; refine HP.out.mono ?_; rintro e w1 ⟨rfl, hn1, hb1⟩; have HN1 := hide hn1.1; have HB1 := hide hb1; clear hn1 hb1) | (with_reducible refine wpl_id ?_; refine wpl_newN rfl _ _ rfl rfl rfl rfl ?_) | (with_reducible refine wpl_id ?_; refine wpl_loadW rfl _ rfl _ rfl HN1.out ?_) | (go_at_call 12; refine (HS.out _).mono ?_; rintro e w2 ⟨rfl, hb2⟩; have HB2 := hide (bar_below HB1.out (Bar.of hb2)); clear hb2) | (go_at_call 9; refine (HV.out _ (HE.out.below HB2.out)).mono ?_; rintro e w3 ⟨rfl, hb3⟩; have HB3 := hide (bar_below HB2.out (Bar.of hb3)); clear hb3))
    go_ret
    exact ⟨rfl, HB3.out⟩
  | ok h k =>
    obtain ⟨f1, f2, f3⟩ := parse_fine hp
    have HP : Hid (∀ W : World, Env8 W → Calls Tryz.prog 10 #[.string s] W fun e w' => ∃ a n cap, e = .returned (.tuple #[nodeV h (.slice a n cap), .int .i64 0, .int .i64 0]) ∧ NodeAt (w'.alloc (.cells (hdC h (.slice a n cap)).toArray 34)) w'.heap.size h (.slice a n cap) k ∧ Below W.heap.size W (w'.alloc (.cells (hdC h (.slice a n cap)).toArray 34))) := fun W hW => parsed_ok s W hW hs h k hp
    have hpf := print_fine f1 f3
    by_cases hb : 1023 < (textN h k).length
    · rw [if_pos hb] at hpf
      have HQ : Hid (∀ (W : World) (a : Option Addr) (n cap : Nat), Env8 W → Kv W (fun c => c < W.heap.size) (.slice a n cap) k → Calls Tryz.prog 18 #[.agg (hdC h (.slice a n cap)).toArray] W fun e w' => e = .returned (.tuple #[.string ⟨#[]⟩, .int .i64 7]) ∧ Below W.heap.size W w') := fun W a n cap hW hk => by
        have := printed f1 (by omega) hW hk
        rw [hpf] at this
        exact this
      have HC : Hid (∀ (W : World) (a : Option Addr) (n cap : Nat), Kv W (fun c => c < W.heap.size) (.slice a n cap) k → Calls Tryz.prog 15 #[.agg (hdC h (.slice a n cap)).toArray] W fun e w' => e = .returned (.int .i64 0) ∧ Below W.heap.size W w') := fun W a n cap hk => checked f1 (by omega) f3 hk
      clear he hp f1 f2 f3 hpf hb
      go_enter Tryz.func6, Tryz.ntmps6
      go_wp2_with (first | (go_at_call 10; refine (HP.out _ HE.out).mono ?_; rintro e w1 ⟨a1, n1, c1, rfl, hn1, hb1⟩; have HN1 := hide hn1; have HX1 := hide hn1.1; have HB1 := hide hb1; clear hn1 hb1) | (with_reducible refine wpl_id ?_; refine wpl_newN rfl _ _ rfl rfl rfl rfl ?_) | (with_reducible refine wpl_id ?_; refine wpl_loadW rfl _ rfl _ rfl (by first | exact HX2.out | exact HX1.out) ?_) | (go_at_call 18; refine (HQ.out _ _ _ _ (HE.out.below HB1.out) HN1.out.2).mono ?_; rintro e w2 ⟨rfl, hb2⟩; have HB2 := hide (bar_below HB1.out (Bar.of hb2)); have HN2 := hide (HN1.out.below hb2); have HX2 := hide HN2.out.1; clear hb2) | (go_at_call 15; refine (HC.out _ _ _ _ HN2.out.2).mono ?_; rintro e w3 ⟨rfl, hb3⟩; have HB3 := hide (bar_below HB2.out (Bar.of hb3)); clear hb3) | (go_at_call 9; refine (HV.out _ (HE.out.below HB3.out)).mono ?_; rintro e w4 ⟨rfl, hb4⟩; have HB4 := hide (bar_below HB3.out (Bar.of hb4)); clear hb4))
      go_ret
      exact ⟨rfl, HB4.out⟩
    · rw [if_neg hb] at hpf
      have hp2 : parseN (textN h k) = .ok h k := text_parse f1 (by omega) f3
      have hz : (⟨(textN h k).toArray⟩ : ByteArray).size ≤ maxLen := by
        show (textN h k).toArray.size ≤ maxLen
        have : (1023 : Nat) ≤ maxLen := by decide
        simp; omega
      have HQ : Hid (∀ (W : World) (a : Option Addr) (n cap : Nat), Env8 W → Kv W (fun c => c < W.heap.size) (.slice a n cap) k → Calls Tryz.prog 18 #[.agg (hdC h (.slice a n cap)).toArray] W fun e w' => e = .returned (.tuple #[.string ⟨(textN h k).toArray⟩, .int .i64 0]) ∧ Below W.heap.size W w') := fun W a n cap hW hk => by
        have := printed f1 (by omega) hW hk
        rw [hpf] at this
        exact this
      have HP2 : Hid (∀ W : World, Env8 W → Calls Tryz.prog 10 #[.string ⟨(textN h k).toArray⟩] W fun e w' => ∃ a n cap, e = .returned (.tuple #[nodeV h (.slice a n cap), .int .i64 0, .int .i64 0]) ∧ NodeAt (w'.alloc (.cells (hdC h (.slice a n cap)).toArray 34)) w'.heap.size h (.slice a n cap) k ∧ Below W.heap.size W (w'.alloc (.cells (hdC h (.slice a n cap)).toArray 34))) := fun W hW => parsed_ok _ W hW hz h k hp2
      have HS : Hid (∀ (W : World) (v v2 : Value), Kv W (fun c => c < W.heap.size) v k → Kv W (fun c => c < W.heap.size) v2 k → Calls Tryz.prog 12 #[.agg (hdC h v).toArray, .agg (hdC h v2).toArray] W fun e w' => e = .returned (.bool true) ∧ Below W.heap.size W w') := fun W v v2 h1 h2 => same_any k _ _ h v v2 W (fun _ h => h) (fun _ h => h) h1 h2
      clear he hp f1 f2 f3 hpf hb hp2 hz
      generalize textN h k = T at *
      go_enter Tryz.func6, Tryz.ntmps6
      go_wp2_with (first | (go_at_call_of 10 [Value.string s]; refine (HP.out _ HE.out).mono ?_; rintro e w1 ⟨a1, n1, c1, rfl, hn1, hb1⟩; have HN1 := hide hn1; have HX1 := hide hn1.1; have HB1 := hide hb1; clear hn1 hb1) | (with_reducible refine wpl_id ?_; refine wpl_newN rfl _ _ rfl rfl rfl rfl ?_) | (with_reducible refine wpl_id ?_; refine wpl_loadW rfl _ rfl _ rfl (by first | exact HX4.out | exact HY4.out | exact HY3.out | exact HX1.out) ?_) | (go_at_call_of 18 [Value.agg (hdC h (.slice a1 n1 c1)).toArray]; refine (HQ.out _ _ _ _ (HE.out.below HB1.out) HN1.out.2).mono ?_; rintro e w2 ⟨rfl, hb2⟩; have HB2 := hide (bar_below HB1.out (Bar.of hb2)); have HN2 := hide (HN1.out.below hb2); clear hb2) | (go_at_call_of 10 [Value.string ⟨T.toArray⟩]; refine (HP2.out _ (HE.out.below HB2.out)).mono ?_; rintro e w3 ⟨a3, n3, c3, rfl, hn3, hb3⟩; have HM3 := hide hn3; have HY3 := hide hn3.1; have HN3 := hide (HN2.out.below hb3); have HB3 := hide (bar_below HB2.out (Bar.of hb3)); clear hn3 hb3) | (go_at_call_of 18 [Value.agg (hdC h (.slice a3 n3 c3)).toArray]; refine (HQ.out _ _ _ _ (HE.out.below HB3.out) HM3.out.2).mono ?_; rintro e w4 ⟨rfl, hb4⟩; have HB4 := hide (bar_below HB3.out (Bar.of hb4)); have HN4 := hide (HN3.out.below hb4); have HX4 := hide HN4.out.1; have HM4 := hide (HM3.out.below hb4); have HY4 := hide HM4.out.1; clear hb4) | (go_at_call 12; refine (HS.out _ _ _ HN4.out.2 HM4.out.2).mono ?_; rintro e w5 ⟨rfl, hb5⟩; have HB5 := hide (bar_below HB4.out (Bar.of hb5)); clear hb5) | (go_at_call 9; refine (HV.out _ (HE.out.below HB5.out)).mono ?_; rintro e w6 ⟨rfl, hb6⟩; have HB6 := hide (bar_below HB5.out (Bar.of hb6)); clear hb6))
      go_ret
      exact ⟨rfl, HB6.out⟩
end Go.Proofs.YtiaoaifoecmemaaGreatDoor
