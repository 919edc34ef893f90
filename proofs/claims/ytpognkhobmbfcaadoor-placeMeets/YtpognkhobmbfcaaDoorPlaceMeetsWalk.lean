/-
  The walk of PlaceMeets: for every two rectangles and every place it returns true.
-/
import Derived.Test.YtpognkhobmbfcaaDoorPlSt
namespace Go.Proofs.YtpognkhobmbfcaaDoor
open Go.RowKit

set_option maxRecDepth 100000 in
set_option maxHeartbeats 8000000 in
theorem placeMeets_walk (t l b r t' l' b' r' x y : Int) (w : World) (ht : TabOk w) :
    Calls Tryd.prog 8 #[.agg #[.int .i64 t, .int .i64 l, .int .i64 b, .int .i64 r], .agg #[.int .i64 t', .int .i64 l', .int .i64 b', .int .i64 r'], .agg #[.int .i64 x, .int .i64 y]] w fun e w' => e = .returned (.bool true) ∧ Below w.heap.size w w' := by
  have HT := hide ht
  clear ht
  have H0 : Hid (St w [(w.heap.size + 1, t', l', b', r'), (w.heap.size, t, l, b, r)] [(w.heap.size + 1 + 1, x, y)] [] (((w.alloc (.cells #[.int .i64 t, .int .i64 l, .int .i64 b, .int .i64 r] 45)).alloc (.cells #[.int .i64 t', .int .i64 l', .int .i64 b', .int .i64 r'] 45)).alloc (.cells #[.int .i64 x, .int .i64 y] 34))) := by
    have := (((St.nil w).box4 t l b r 45).box4 t' l' b' r' 45).box2 x y 34
    show St _ _ _ _ _
    simpa using this
  have HM : Hid (∀ W : World, Calls Tryd.prog 20 #[.agg #[.int .i64 t, .int .i64 l, .int .i64 b, .int .i64 r], .agg #[.int .i64 t', .int .i64 l', .int .i64 b', .int .i64 r']] W fun e w' => e = .returned (.tuple #[.agg #[.int .i64 ((meetR t l b r t' l' b' r').1), .int .i64 ((meetR t l b r t' l' b' r').2.1), .int .i64 ((meetR t l b r t' l' b' r').2.2.1), .int .i64 ((meetR t l b r t' l' b' r').2.2.2.1)], .bool (meetR t l b r t' l' b' r').2.2.2.2]) ∧ Below W.heap.size W w') := fun W => meet_any _ _ _ _ _ _ _ _ W
  have HN : Hid (∀ W : World, Calls Tryd.prog 20 #[.agg #[.int .i64 t', .int .i64 l', .int .i64 b', .int .i64 r'], .agg #[.int .i64 t, .int .i64 l, .int .i64 b, .int .i64 r]] W fun e w' => e = .returned (.tuple #[.agg #[.int .i64 ((meetR t l b r t' l' b' r').1), .int .i64 ((meetR t l b r t' l' b' r').2.1), .int .i64 ((meetR t l b r t' l' b' r').2.2.1), .int .i64 ((meetR t l b r t' l' b' r').2.2.2.1)], .bool (meetR t l b r t' l' b' r').2.2.2.2]) ∧ Below W.heap.size W w') := fun W => by have := meet_any t' l' b' r' t l b r W; rw [meet_comm] at this; exact this
  have HI : Hid (∀ W : World, Calls Tryd.prog 26 #[.agg #[.int .i64 t, .int .i64 l, .int .i64 b, .int .i64 r], .agg #[.int .i64 x, .int .i64 y]] W fun e w' => e = .returned (.bool (inB t l b r x y)) ∧ Below W.heap.size W w') := fun W => in_any _ _ _ _ _ _ W
  have HJ : Hid (∀ W : World, Calls Tryd.prog 26 #[.agg #[.int .i64 t', .int .i64 l', .int .i64 b', .int .i64 r'], .agg #[.int .i64 x, .int .i64 y]] W fun e w' => e = .returned (.bool (inB t' l' b' r' x y)) ∧ Below W.heap.size W w') := fun W => in_any _ _ _ _ _ _ W
  have HC : Hid (∀ W : World, Calls Tryd.prog 24 #[.agg #[.int .i64 t, .int .i64 l, .int .i64 b, .int .i64 r]] W fun e w' => e = .returned (.int .i64 (checkR t l b r)) ∧ Below W.heap.size W w') := fun W => check_any _ _ _ _ W
  have HD : Hid (∀ W : World, Calls Tryd.prog 24 #[.agg #[.int .i64 t', .int .i64 l', .int .i64 b', .int .i64 r']] W fun e w' => e = .returned (.int .i64 (checkR t' l' b' r')) ∧ Below W.heap.size W w') := fun W => check_any _ _ _ _ W
  cases hk : (meetR t l b r t' l' b' r').2.2.2.2
  · have HE : Hid (∀ W : World, Calls Tryd.prog 24 #[.agg #[.int .i64 0, .int .i64 0, .int .i64 0, .int .i64 0]] W fun e w' => e = .returned (.int .i64 2) ∧ Below W.heap.size W w') := fun W => check_any 0 0 0 0 W
    have HMB := hide (fun h1 => meet_both (x := x) (y := y) hk h1)
    rw [meet_none hk] at HM HN
    clear hk
    cases h1 : inB t l b r x y
    · rw [h1] at HI
      clear h1
      cases h3 : rightB t l b r
      · rw [checkR_no h3] at HC
        clear h3 HMB
        go_enter Tryd.func8, Tryd.ntmps8
        go_wp2_with fail
        refine (HM.out _).mono ?_
        rintro e w1 ⟨rfl, hb⟩
        have hs := St.below hb H0.out
        have ⟨⟨⟨za, ka0, ka1, ka2, ka3⟩, ⟨zb, kb0, kb1, kb2, kb3⟩, _⟩, ⟨⟨ze, ke0, ke1⟩, _⟩, _⟩ := hs
        have HS := hide hs
        clear hs hb
        go_wp2_with fail
        refine (HN.out _).mono ?_
        rintro e w2 ⟨rfl, hb⟩
        clear za ka0 ka1 ka2 ka3 zb kb0 kb1 kb2 kb3 ze ke0 ke1
        have hs0 := (St.below hb (HS.out.box4 0 0 0 0 45))
        have hs := hs0.box4 0 0 0 0 45
        clear HS
        have ⟨⟨⟨zb, kb0, kb1, kb2, kb3⟩, ⟨zc, kc0, kc1, kc2, kc3⟩, ⟨zd, kd0, kd1, kd2, kd3⟩, _⟩, ⟨⟨ze, ke0, ke1⟩, _⟩, _⟩ := hs0
        clear hs0 hb
        go_wp2_with (first | (go_at_call_of 26 [Value.agg #[Value.int IntKind.i64 t, Value.int IntKind.i64 l, Value.int IntKind.i64 b, Value.int IntKind.i64 r], Value.agg #[Value.int IntKind.i64 x, Value.int IntKind.i64 y]]; refine (HI.out _).mono ?_; rintro e wn ⟨rfl, hb⟩; have hs := St.below hb (by assumption); have ⟨⟨⟨za, ka0, ka1, ka2, ka3⟩, ⟨zb, kb0, kb1, kb2, kb3⟩, ⟨zc, kc0, kc1, kc2, kc3⟩, ⟨zd, kd0, kd1, kd2, kd3⟩, _⟩, ⟨⟨ze, ke0, ke1⟩, _⟩, _⟩ := hs) | (go_at_call_of 24 [Value.agg #[Value.int IntKind.i64 t, Value.int IntKind.i64 l, Value.int IntKind.i64 b, Value.int IntKind.i64 r]]; refine (HC.out _).mono ?_; rintro e wn ⟨rfl, hb⟩; have hs := St.below hb (by assumption); have ⟨⟨⟨za, ka0, ka1, ka2, ka3⟩, ⟨zb, kb0, kb1, kb2, kb3⟩, ⟨zc, kc0, kc1, kc2, kc3⟩, ⟨zd, kd0, kd1, kd2, kd3⟩, _⟩, ⟨⟨ze, ke0, ke1⟩, _⟩, _⟩ := hs) | (go_at_call 13; refine (lives5_any _ (tab_below HT.out (St.out (by assumption)))).mono ?_; rintro e wn ⟨rfl, hb⟩; have hs := St.below hb (by assumption)))
        go_ret
        exact ⟨rfl, St.out (by assumption)⟩
      · rw [checkR_yes h3] at HC
        cases h4 : rightB t' l' b' r'
        · rw [checkR_no h4] at HD
          clear h3 h4 HMB
          go_enter Tryd.func8, Tryd.ntmps8
          go_wp2_with fail
          refine (HM.out _).mono ?_
          rintro e w1 ⟨rfl, hb⟩
          have hs := St.below hb H0.out
          have ⟨⟨⟨za, ka0, ka1, ka2, ka3⟩, ⟨zb, kb0, kb1, kb2, kb3⟩, _⟩, ⟨⟨ze, ke0, ke1⟩, _⟩, _⟩ := hs
          have HS := hide hs
          clear hs hb
          go_wp2_with fail
          refine (HN.out _).mono ?_
          rintro e w2 ⟨rfl, hb⟩
          clear za ka0 ka1 ka2 ka3 zb kb0 kb1 kb2 kb3 ze ke0 ke1
          have hs0 := (St.below hb (HS.out.box4 0 0 0 0 45))
          have hs := hs0.box4 0 0 0 0 45
          clear HS
          have ⟨⟨⟨zb, kb0, kb1, kb2, kb3⟩, ⟨zc, kc0, kc1, kc2, kc3⟩, ⟨zd, kd0, kd1, kd2, kd3⟩, _⟩, ⟨⟨ze, ke0, ke1⟩, _⟩, _⟩ := hs0
          clear hs0 hb
          go_wp2_with (first | (go_at_call_of 26 [Value.agg #[Value.int IntKind.i64 t, Value.int IntKind.i64 l, Value.int IntKind.i64 b, Value.int IntKind.i64 r], Value.agg #[Value.int IntKind.i64 x, Value.int IntKind.i64 y]]; refine (HI.out _).mono ?_; rintro e wn ⟨rfl, hb⟩; have hs := St.below hb (by assumption); have ⟨⟨⟨za, ka0, ka1, ka2, ka3⟩, ⟨zb, kb0, kb1, kb2, kb3⟩, ⟨zc, kc0, kc1, kc2, kc3⟩, ⟨zd, kd0, kd1, kd2, kd3⟩, _⟩, ⟨⟨ze, ke0, ke1⟩, _⟩, _⟩ := hs) | (go_at_call_of 24 [Value.agg #[Value.int IntKind.i64 t, Value.int IntKind.i64 l, Value.int IntKind.i64 b, Value.int IntKind.i64 r]]; refine (HC.out _).mono ?_; rintro e wn ⟨rfl, hb⟩; have hs := St.below hb (by assumption); have ⟨⟨⟨za, ka0, ka1, ka2, ka3⟩, ⟨zb, kb0, kb1, kb2, kb3⟩, ⟨zc, kc0, kc1, kc2, kc3⟩, ⟨zd, kd0, kd1, kd2, kd3⟩, _⟩, ⟨⟨ze, ke0, ke1⟩, _⟩, _⟩ := hs) | (go_at_call_of 24 [Value.agg #[Value.int IntKind.i64 t', Value.int IntKind.i64 l', Value.int IntKind.i64 b', Value.int IntKind.i64 r']]; refine (HD.out _).mono ?_; rintro e wn ⟨rfl, hb⟩; have hs := St.below hb (by assumption); have ⟨⟨⟨za, ka0, ka1, ka2, ka3⟩, ⟨zb, kb0, kb1, kb2, kb3⟩, ⟨zc, kc0, kc1, kc2, kc3⟩, ⟨zd, kd0, kd1, kd2, kd3⟩, _⟩, ⟨⟨ze, ke0, ke1⟩, _⟩, _⟩ := hs) | (go_at_call 13; refine (lives5_any _ (tab_below HT.out (St.out (by assumption)))).mono ?_; rintro e wn ⟨rfl, hb⟩; have hs := St.below hb (by assumption)))
          go_ret
          exact ⟨rfl, St.out (by assumption)⟩
        · rw [checkR_yes h4] at HD
          clear h3 h4 HMB
          go_enter Tryd.func8, Tryd.ntmps8
          go_wp2_with fail
          refine (HM.out _).mono ?_
          rintro e w1 ⟨rfl, hb⟩
          have hs := St.below hb H0.out
          have ⟨⟨⟨za, ka0, ka1, ka2, ka3⟩, ⟨zb, kb0, kb1, kb2, kb3⟩, _⟩, ⟨⟨ze, ke0, ke1⟩, _⟩, _⟩ := hs
          have HS := hide hs
          clear hs hb
          go_wp2_with fail
          refine (HN.out _).mono ?_
          rintro e w2 ⟨rfl, hb⟩
          clear za ka0 ka1 ka2 ka3 zb kb0 kb1 kb2 kb3 ze ke0 ke1
          have hs0 := (St.below hb (HS.out.box4 0 0 0 0 45))
          have hs := hs0.box4 0 0 0 0 45
          clear HS
          have ⟨⟨⟨zb, kb0, kb1, kb2, kb3⟩, ⟨zc, kc0, kc1, kc2, kc3⟩, ⟨zd, kd0, kd1, kd2, kd3⟩, _⟩, ⟨⟨ze, ke0, ke1⟩, _⟩, _⟩ := hs0
          clear hs0 hb
          go_wp2_with (first | (go_at_call_of 26 [Value.agg #[Value.int IntKind.i64 t, Value.int IntKind.i64 l, Value.int IntKind.i64 b, Value.int IntKind.i64 r], Value.agg #[Value.int IntKind.i64 x, Value.int IntKind.i64 y]]; refine (HI.out _).mono ?_; rintro e wn ⟨rfl, hb⟩; have hs := St.below hb (by assumption); have ⟨⟨⟨za, ka0, ka1, ka2, ka3⟩, ⟨zb, kb0, kb1, kb2, kb3⟩, ⟨zc, kc0, kc1, kc2, kc3⟩, ⟨zd, kd0, kd1, kd2, kd3⟩, _⟩, ⟨⟨ze, ke0, ke1⟩, _⟩, _⟩ := hs) | (go_at_call_of 24 [Value.agg #[Value.int IntKind.i64 t, Value.int IntKind.i64 l, Value.int IntKind.i64 b, Value.int IntKind.i64 r]]; refine (HC.out _).mono ?_; rintro e wn ⟨rfl, hb⟩; have hs := St.below hb (by assumption); have ⟨⟨⟨za, ka0, ka1, ka2, ka3⟩, ⟨zb, kb0, kb1, kb2, kb3⟩, ⟨zc, kc0, kc1, kc2, kc3⟩, ⟨zd, kd0, kd1, kd2, kd3⟩, _⟩, ⟨⟨ze, ke0, ke1⟩, _⟩, _⟩ := hs) | (go_at_call_of 24 [Value.agg #[Value.int IntKind.i64 t', Value.int IntKind.i64 l', Value.int IntKind.i64 b', Value.int IntKind.i64 r']]; refine (HD.out _).mono ?_; rintro e wn ⟨rfl, hb⟩; have hs := St.below hb (by assumption); have ⟨⟨⟨za, ka0, ka1, ka2, ka3⟩, ⟨zb, kb0, kb1, kb2, kb3⟩, ⟨zc, kc0, kc1, kc2, kc3⟩, ⟨zd, kd0, kd1, kd2, kd3⟩, _⟩, ⟨⟨ze, ke0, ke1⟩, _⟩, _⟩ := hs) | (go_at_call_of 24 [Value.agg #[Value.int IntKind.i64 0, Value.int IntKind.i64 0, Value.int IntKind.i64 0, Value.int IntKind.i64 0]]; refine (HE.out _).mono ?_; rintro e wn ⟨rfl, hb⟩; have hs := St.below hb (by assumption); have ⟨⟨⟨za, ka0, ka1, ka2, ka3⟩, ⟨zb, kb0, kb1, kb2, kb3⟩, ⟨zc, kc0, kc1, kc2, kc3⟩, ⟨zd, kd0, kd1, kd2, kd3⟩, _⟩, ⟨⟨ze, ke0, ke1⟩, _⟩, _⟩ := hs) | (go_at_call 13; refine (lives5_any _ (tab_below HT.out (St.out (by assumption)))).mono ?_; rintro e wn ⟨rfl, hb⟩; have hs := St.below hb (by assumption)))
          go_ret
          exact ⟨rfl, St.out (by assumption)⟩
    · have h2 := HMB.out h1
      rw [h1] at HI
      rw [h2] at HJ
      clear h1 h2
      cases h3 : rightB t l b r
      · rw [checkR_no h3] at HC
        clear h3 HMB
        go_enter Tryd.func8, Tryd.ntmps8
        go_wp2_with fail
        refine (HM.out _).mono ?_
        rintro e w1 ⟨rfl, hb⟩
        have hs := St.below hb H0.out
        have ⟨⟨⟨za, ka0, ka1, ka2, ka3⟩, ⟨zb, kb0, kb1, kb2, kb3⟩, _⟩, ⟨⟨ze, ke0, ke1⟩, _⟩, _⟩ := hs
        have HS := hide hs
        clear hs hb
        go_wp2_with fail
        refine (HN.out _).mono ?_
        rintro e w2 ⟨rfl, hb⟩
        clear za ka0 ka1 ka2 ka3 zb kb0 kb1 kb2 kb3 ze ke0 ke1
        have hs0 := (St.below hb (HS.out.box4 0 0 0 0 45))
        have hs := hs0.box4 0 0 0 0 45
        clear HS
        have ⟨⟨⟨zb, kb0, kb1, kb2, kb3⟩, ⟨zc, kc0, kc1, kc2, kc3⟩, ⟨zd, kd0, kd1, kd2, kd3⟩, _⟩, ⟨⟨ze, ke0, ke1⟩, _⟩, _⟩ := hs0
        clear hs0 hb
        go_wp2_with (first | (go_at_call_of 26 [Value.agg #[Value.int IntKind.i64 t, Value.int IntKind.i64 l, Value.int IntKind.i64 b, Value.int IntKind.i64 r], Value.agg #[Value.int IntKind.i64 x, Value.int IntKind.i64 y]]; refine (HI.out _).mono ?_; rintro e wn ⟨rfl, hb⟩; have hs := St.below hb (by assumption); have ⟨⟨⟨za, ka0, ka1, ka2, ka3⟩, ⟨zb, kb0, kb1, kb2, kb3⟩, ⟨zc, kc0, kc1, kc2, kc3⟩, ⟨zd, kd0, kd1, kd2, kd3⟩, _⟩, ⟨⟨ze, ke0, ke1⟩, _⟩, _⟩ := hs) | (go_at_call_of 26 [Value.agg #[Value.int IntKind.i64 t', Value.int IntKind.i64 l', Value.int IntKind.i64 b', Value.int IntKind.i64 r'], Value.agg #[Value.int IntKind.i64 x, Value.int IntKind.i64 y]]; refine (HJ.out _).mono ?_; rintro e wn ⟨rfl, hb⟩; have hs := St.below hb (by assumption); have ⟨⟨⟨za, ka0, ka1, ka2, ka3⟩, ⟨zb, kb0, kb1, kb2, kb3⟩, ⟨zc, kc0, kc1, kc2, kc3⟩, ⟨zd, kd0, kd1, kd2, kd3⟩, _⟩, ⟨⟨ze, ke0, ke1⟩, _⟩, _⟩ := hs) | (go_at_call_of 24 [Value.agg #[Value.int IntKind.i64 t, Value.int IntKind.i64 l, Value.int IntKind.i64 b, Value.int IntKind.i64 r]]; refine (HC.out _).mono ?_; rintro e wn ⟨rfl, hb⟩; have hs := St.below hb (by assumption); have ⟨⟨⟨za, ka0, ka1, ka2, ka3⟩, ⟨zb, kb0, kb1, kb2, kb3⟩, ⟨zc, kc0, kc1, kc2, kc3⟩, ⟨zd, kd0, kd1, kd2, kd3⟩, _⟩, ⟨⟨ze, ke0, ke1⟩, _⟩, _⟩ := hs) | (go_at_call 13; refine (lives5_any _ (tab_below HT.out (St.out (by assumption)))).mono ?_; rintro e wn ⟨rfl, hb⟩; have hs := St.below hb (by assumption)))
        go_ret
        exact ⟨rfl, St.out (by assumption)⟩
      · rw [checkR_yes h3] at HC
        cases h4 : rightB t' l' b' r'
        · rw [checkR_no h4] at HD
          clear h3 h4 HMB
          go_enter Tryd.func8, Tryd.ntmps8
          go_wp2_with fail
          refine (HM.out _).mono ?_
          rintro e w1 ⟨rfl, hb⟩
          have hs := St.below hb H0.out
          have ⟨⟨⟨za, ka0, ka1, ka2, ka3⟩, ⟨zb, kb0, kb1, kb2, kb3⟩, _⟩, ⟨⟨ze, ke0, ke1⟩, _⟩, _⟩ := hs
          have HS := hide hs
          clear hs hb
          go_wp2_with fail
          refine (HN.out _).mono ?_
          rintro e w2 ⟨rfl, hb⟩
          clear za ka0 ka1 ka2 ka3 zb kb0 kb1 kb2 kb3 ze ke0 ke1
          have hs0 := (St.below hb (HS.out.box4 0 0 0 0 45))
          have hs := hs0.box4 0 0 0 0 45
          clear HS
          have ⟨⟨⟨zb, kb0, kb1, kb2, kb3⟩, ⟨zc, kc0, kc1, kc2, kc3⟩, ⟨zd, kd0, kd1, kd2, kd3⟩, _⟩, ⟨⟨ze, ke0, ke1⟩, _⟩, _⟩ := hs0
          clear hs0 hb
          go_wp2_with (first | (go_at_call_of 26 [Value.agg #[Value.int IntKind.i64 t, Value.int IntKind.i64 l, Value.int IntKind.i64 b, Value.int IntKind.i64 r], Value.agg #[Value.int IntKind.i64 x, Value.int IntKind.i64 y]]; refine (HI.out _).mono ?_; rintro e wn ⟨rfl, hb⟩; have hs := St.below hb (by assumption); have ⟨⟨⟨za, ka0, ka1, ka2, ka3⟩, ⟨zb, kb0, kb1, kb2, kb3⟩, ⟨zc, kc0, kc1, kc2, kc3⟩, ⟨zd, kd0, kd1, kd2, kd3⟩, _⟩, ⟨⟨ze, ke0, ke1⟩, _⟩, _⟩ := hs) | (go_at_call_of 26 [Value.agg #[Value.int IntKind.i64 t', Value.int IntKind.i64 l', Value.int IntKind.i64 b', Value.int IntKind.i64 r'], Value.agg #[Value.int IntKind.i64 x, Value.int IntKind.i64 y]]; refine (HJ.out _).mono ?_; rintro e wn ⟨rfl, hb⟩; have hs := St.below hb (by assumption); have ⟨⟨⟨za, ka0, ka1, ka2, ka3⟩, ⟨zb, kb0, kb1, kb2, kb3⟩, ⟨zc, kc0, kc1, kc2, kc3⟩, ⟨zd, kd0, kd1, kd2, kd3⟩, _⟩, ⟨⟨ze, ke0, ke1⟩, _⟩, _⟩ := hs) | (go_at_call_of 24 [Value.agg #[Value.int IntKind.i64 t, Value.int IntKind.i64 l, Value.int IntKind.i64 b, Value.int IntKind.i64 r]]; refine (HC.out _).mono ?_; rintro e wn ⟨rfl, hb⟩; have hs := St.below hb (by assumption); have ⟨⟨⟨za, ka0, ka1, ka2, ka3⟩, ⟨zb, kb0, kb1, kb2, kb3⟩, ⟨zc, kc0, kc1, kc2, kc3⟩, ⟨zd, kd0, kd1, kd2, kd3⟩, _⟩, ⟨⟨ze, ke0, ke1⟩, _⟩, _⟩ := hs) | (go_at_call_of 24 [Value.agg #[Value.int IntKind.i64 t', Value.int IntKind.i64 l', Value.int IntKind.i64 b', Value.int IntKind.i64 r']]; refine (HD.out _).mono ?_; rintro e wn ⟨rfl, hb⟩; have hs := St.below hb (by assumption); have ⟨⟨⟨za, ka0, ka1, ka2, ka3⟩, ⟨zb, kb0, kb1, kb2, kb3⟩, ⟨zc, kc0, kc1, kc2, kc3⟩, ⟨zd, kd0, kd1, kd2, kd3⟩, _⟩, ⟨⟨ze, ke0, ke1⟩, _⟩, _⟩ := hs) | (go_at_call 13; refine (lives5_any _ (tab_below HT.out (St.out (by assumption)))).mono ?_; rintro e wn ⟨rfl, hb⟩; have hs := St.below hb (by assumption)))
          go_ret
          exact ⟨rfl, St.out (by assumption)⟩
        · rw [checkR_yes h4] at HD
          clear h3 h4 HMB
          go_enter Tryd.func8, Tryd.ntmps8
          go_wp2_with fail
          refine (HM.out _).mono ?_
          rintro e w1 ⟨rfl, hb⟩
          have hs := St.below hb H0.out
          have ⟨⟨⟨za, ka0, ka1, ka2, ka3⟩, ⟨zb, kb0, kb1, kb2, kb3⟩, _⟩, ⟨⟨ze, ke0, ke1⟩, _⟩, _⟩ := hs
          have HS := hide hs
          clear hs hb
          go_wp2_with fail
          refine (HN.out _).mono ?_
          rintro e w2 ⟨rfl, hb⟩
          clear za ka0 ka1 ka2 ka3 zb kb0 kb1 kb2 kb3 ze ke0 ke1
          have hs0 := (St.below hb (HS.out.box4 0 0 0 0 45))
          have hs := hs0.box4 0 0 0 0 45
          clear HS
          have ⟨⟨⟨zb, kb0, kb1, kb2, kb3⟩, ⟨zc, kc0, kc1, kc2, kc3⟩, ⟨zd, kd0, kd1, kd2, kd3⟩, _⟩, ⟨⟨ze, ke0, ke1⟩, _⟩, _⟩ := hs0
          clear hs0 hb
          go_wp2_with (first | (go_at_call_of 26 [Value.agg #[Value.int IntKind.i64 t, Value.int IntKind.i64 l, Value.int IntKind.i64 b, Value.int IntKind.i64 r], Value.agg #[Value.int IntKind.i64 x, Value.int IntKind.i64 y]]; refine (HI.out _).mono ?_; rintro e wn ⟨rfl, hb⟩; have hs := St.below hb (by assumption); have ⟨⟨⟨za, ka0, ka1, ka2, ka3⟩, ⟨zb, kb0, kb1, kb2, kb3⟩, ⟨zc, kc0, kc1, kc2, kc3⟩, ⟨zd, kd0, kd1, kd2, kd3⟩, _⟩, ⟨⟨ze, ke0, ke1⟩, _⟩, _⟩ := hs) | (go_at_call_of 26 [Value.agg #[Value.int IntKind.i64 t', Value.int IntKind.i64 l', Value.int IntKind.i64 b', Value.int IntKind.i64 r'], Value.agg #[Value.int IntKind.i64 x, Value.int IntKind.i64 y]]; refine (HJ.out _).mono ?_; rintro e wn ⟨rfl, hb⟩; have hs := St.below hb (by assumption); have ⟨⟨⟨za, ka0, ka1, ka2, ka3⟩, ⟨zb, kb0, kb1, kb2, kb3⟩, ⟨zc, kc0, kc1, kc2, kc3⟩, ⟨zd, kd0, kd1, kd2, kd3⟩, _⟩, ⟨⟨ze, ke0, ke1⟩, _⟩, _⟩ := hs) | (go_at_call_of 24 [Value.agg #[Value.int IntKind.i64 t, Value.int IntKind.i64 l, Value.int IntKind.i64 b, Value.int IntKind.i64 r]]; refine (HC.out _).mono ?_; rintro e wn ⟨rfl, hb⟩; have hs := St.below hb (by assumption); have ⟨⟨⟨za, ka0, ka1, ka2, ka3⟩, ⟨zb, kb0, kb1, kb2, kb3⟩, ⟨zc, kc0, kc1, kc2, kc3⟩, ⟨zd, kd0, kd1, kd2, kd3⟩, _⟩, ⟨⟨ze, ke0, ke1⟩, _⟩, _⟩ := hs) | (go_at_call_of 24 [Value.agg #[Value.int IntKind.i64 t', Value.int IntKind.i64 l', Value.int IntKind.i64 b', Value.int IntKind.i64 r']]; refine (HD.out _).mono ?_; rintro e wn ⟨rfl, hb⟩; have hs := St.below hb (by assumption); have ⟨⟨⟨za, ka0, ka1, ka2, ka3⟩, ⟨zb, kb0, kb1, kb2, kb3⟩, ⟨zc, kc0, kc1, kc2, kc3⟩, ⟨zd, kd0, kd1, kd2, kd3⟩, _⟩, ⟨⟨ze, ke0, ke1⟩, _⟩, _⟩ := hs) | (go_at_call_of 24 [Value.agg #[Value.int IntKind.i64 0, Value.int IntKind.i64 0, Value.int IntKind.i64 0, Value.int IntKind.i64 0]]; refine (HE.out _).mono ?_; rintro e wn ⟨rfl, hb⟩; have hs := St.below hb (by assumption); have ⟨⟨⟨za, ka0, ka1, ka2, ka3⟩, ⟨zb, kb0, kb1, kb2, kb3⟩, ⟨zc, kc0, kc1, kc2, kc3⟩, ⟨zd, kd0, kd1, kd2, kd3⟩, _⟩, ⟨⟨ze, ke0, ke1⟩, _⟩, _⟩ := hs) | (go_at_call 13; refine (lives5_any _ (tab_below HT.out (St.out (by assumption)))).mono ?_; rintro e wn ⟨rfl, hb⟩; have hs := St.below hb (by assumption)))
          go_ret
          exact ⟨rfl, St.out (by assumption)⟩
  · obtain ⟨g1, g2, g3, g4⟩ := in_meet hk x y
    have HF : Hid (∀ W : World, Calls Tryd.prog 26 #[.agg #[.int .i64 ((meetR t l b r t' l' b' r').1), .int .i64 ((meetR t l b r t' l' b' r').2.1), .int .i64 ((meetR t l b r t' l' b' r').2.2.1), .int .i64 ((meetR t l b r t' l' b' r').2.2.2.1)], .agg #[.int .i64 x, .int .i64 y]] W fun e w' => e = .returned (.bool (inB t l b r x y && inB t' l' b' r' x y)) ∧ Below W.heap.size W w') := fun W => by have := in_any ((meetR t l b r t' l' b' r').1) ((meetR t l b r t' l' b' r').2.1) ((meetR t l b r t' l' b' r').2.2.1) ((meetR t l b r t' l' b' r').2.2.2.1) x y W; rw [g1] at this; exact this
    have HE : Hid (∀ W : World, Calls Tryd.prog 24 #[.agg #[.int .i64 ((meetR t l b r t' l' b' r').1), .int .i64 ((meetR t l b r t' l' b' r').2.1), .int .i64 ((meetR t l b r t' l' b' r').2.2.1), .int .i64 ((meetR t l b r t' l' b' r').2.2.2.1)]] W fun e w' => e = .returned (.int .i64 0) ∧ Below W.heap.size W w') := fun W => by have := check_any ((meetR t l b r t' l' b' r').1) ((meetR t l b r t' l' b' r').2.1) ((meetR t l b r t' l' b' r').2.2.1) ((meetR t l b r t' l' b' r').2.2.2.1) W; rw [checkR_yes g2] at this; exact this
    rw [checkR_yes g3] at HC
    rw [checkR_yes g4] at HD
    rw [hk] at HM HN
    clear g1 g2 g3 g4 hk
    generalize (meetR t l b r t' l' b' r').1 = m1 at *
    generalize (meetR t l b r t' l' b' r').2.1 = m2 at *
    generalize (meetR t l b r t' l' b' r').2.2.1 = m3 at *
    generalize (meetR t l b r t' l' b' r').2.2.2.1 = m4 at *
    have e1 : (m1 == m1) = true := by simp
    have e2 : (m2 == m2) = true := by simp
    have e3 : (m3 == m3) = true := by simp
    have e4 : (m4 == m4) = true := by simp
    cases h1 : inB t l b r x y
    · rw [h1] at HI
      rw [h1, Bool.false_and] at HF
      clear h1
      go_enter Tryd.func8, Tryd.ntmps8
      go_wp2_with fail
      refine (HM.out _).mono ?_
      rintro e w1 ⟨rfl, hb⟩
      have hs := St.below hb H0.out
      have ⟨⟨⟨za, ka0, ka1, ka2, ka3⟩, ⟨zb, kb0, kb1, kb2, kb3⟩, _⟩, ⟨⟨ze, ke0, ke1⟩, _⟩, _⟩ := hs
      have HS := hide hs
      clear hs hb
      go_wp2_with fail
      refine (HN.out _).mono ?_
      rintro e w2 ⟨rfl, hb⟩
      clear za ka0 ka1 ka2 ka3 zb kb0 kb1 kb2 kb3 ze ke0 ke1
      have hs0 := (St.below hb (HS.out.box4 m1 m2 m3 m4 45))
      have hs := hs0.box4 m1 m2 m3 m4 45
      clear HS
      have ⟨⟨⟨zb, kb0, kb1, kb2, kb3⟩, ⟨zc, kc0, kc1, kc2, kc3⟩, ⟨zd, kd0, kd1, kd2, kd3⟩, _⟩, ⟨⟨ze, ke0, ke1⟩, _⟩, _⟩ := hs0
      clear hs0 hb
      go_wp2_with (first | (go_at_call_of 26 [Value.agg #[Value.int IntKind.i64 t, Value.int IntKind.i64 l, Value.int IntKind.i64 b, Value.int IntKind.i64 r], Value.agg #[Value.int IntKind.i64 x, Value.int IntKind.i64 y]]; refine (HI.out _).mono ?_; rintro e wn ⟨rfl, hb⟩; have hs := St.below hb (by assumption); have ⟨⟨⟨za, ka0, ka1, ka2, ka3⟩, ⟨zb, kb0, kb1, kb2, kb3⟩, ⟨zc, kc0, kc1, kc2, kc3⟩, ⟨zd, kd0, kd1, kd2, kd3⟩, _⟩, ⟨⟨ze, ke0, ke1⟩, _⟩, _⟩ := hs) | (go_at_call_of 26 [Value.agg #[Value.int IntKind.i64 m1, Value.int IntKind.i64 m2, Value.int IntKind.i64 m3, Value.int IntKind.i64 m4], Value.agg #[Value.int IntKind.i64 x, Value.int IntKind.i64 y]]; refine (HF.out _).mono ?_; rintro e wn ⟨rfl, hb⟩; have hs := St.below hb (by assumption); have ⟨⟨⟨za, ka0, ka1, ka2, ka3⟩, ⟨zb, kb0, kb1, kb2, kb3⟩, ⟨zc, kc0, kc1, kc2, kc3⟩, ⟨zd, kd0, kd1, kd2, kd3⟩, _⟩, ⟨⟨ze, ke0, ke1⟩, _⟩, _⟩ := hs) | (go_at_call_of 24 [Value.agg #[Value.int IntKind.i64 t, Value.int IntKind.i64 l, Value.int IntKind.i64 b, Value.int IntKind.i64 r]]; refine (HC.out _).mono ?_; rintro e wn ⟨rfl, hb⟩; have hs := St.below hb (by assumption); have ⟨⟨⟨za, ka0, ka1, ka2, ka3⟩, ⟨zb, kb0, kb1, kb2, kb3⟩, ⟨zc, kc0, kc1, kc2, kc3⟩, ⟨zd, kd0, kd1, kd2, kd3⟩, _⟩, ⟨⟨ze, ke0, ke1⟩, _⟩, _⟩ := hs) | (go_at_call_of 24 [Value.agg #[Value.int IntKind.i64 t', Value.int IntKind.i64 l', Value.int IntKind.i64 b', Value.int IntKind.i64 r']]; refine (HD.out _).mono ?_; rintro e wn ⟨rfl, hb⟩; have hs := St.below hb (by assumption); have ⟨⟨⟨za, ka0, ka1, ka2, ka3⟩, ⟨zb, kb0, kb1, kb2, kb3⟩, ⟨zc, kc0, kc1, kc2, kc3⟩, ⟨zd, kd0, kd1, kd2, kd3⟩, _⟩, ⟨⟨ze, ke0, ke1⟩, _⟩, _⟩ := hs) | (go_at_call_of 24 [Value.agg #[Value.int IntKind.i64 m1, Value.int IntKind.i64 m2, Value.int IntKind.i64 m3, Value.int IntKind.i64 m4]]; refine (HE.out _).mono ?_; rintro e wn ⟨rfl, hb⟩; have hs := St.below hb (by assumption); have ⟨⟨⟨za, ka0, ka1, ka2, ka3⟩, ⟨zb, kb0, kb1, kb2, kb3⟩, ⟨zc, kc0, kc1, kc2, kc3⟩, ⟨zd, kd0, kd1, kd2, kd3⟩, _⟩, ⟨⟨ze, ke0, ke1⟩, _⟩, _⟩ := hs) | (go_at_call 13; refine (lives5_any _ (tab_below HT.out (St.out (by assumption)))).mono ?_; rintro e wn ⟨rfl, hb⟩; have hs := St.below hb (by assumption)))
      go_ret
      exact ⟨rfl, St.out (by assumption)⟩
    · cases h2 : inB t' l' b' r' x y
      · rw [h1] at HI
        rw [h2] at HJ
        rw [h1, h2, Bool.and_false] at HF
        clear h1 h2
        go_enter Tryd.func8, Tryd.ntmps8
        go_wp2_with fail
        refine (HM.out _).mono ?_
        rintro e w1 ⟨rfl, hb⟩
        have hs := St.below hb H0.out
        have ⟨⟨⟨za, ka0, ka1, ka2, ka3⟩, ⟨zb, kb0, kb1, kb2, kb3⟩, _⟩, ⟨⟨ze, ke0, ke1⟩, _⟩, _⟩ := hs
        have HS := hide hs
        clear hs hb
        go_wp2_with fail
        refine (HN.out _).mono ?_
        rintro e w2 ⟨rfl, hb⟩
        clear za ka0 ka1 ka2 ka3 zb kb0 kb1 kb2 kb3 ze ke0 ke1
        have hs0 := (St.below hb (HS.out.box4 m1 m2 m3 m4 45))
        have hs := hs0.box4 m1 m2 m3 m4 45
        clear HS
        have ⟨⟨⟨zb, kb0, kb1, kb2, kb3⟩, ⟨zc, kc0, kc1, kc2, kc3⟩, ⟨zd, kd0, kd1, kd2, kd3⟩, _⟩, ⟨⟨ze, ke0, ke1⟩, _⟩, _⟩ := hs0
        clear hs0 hb
        go_wp2_with (first | (go_at_call_of 26 [Value.agg #[Value.int IntKind.i64 t, Value.int IntKind.i64 l, Value.int IntKind.i64 b, Value.int IntKind.i64 r], Value.agg #[Value.int IntKind.i64 x, Value.int IntKind.i64 y]]; refine (HI.out _).mono ?_; rintro e wn ⟨rfl, hb⟩; have hs := St.below hb (by assumption); have ⟨⟨⟨za, ka0, ka1, ka2, ka3⟩, ⟨zb, kb0, kb1, kb2, kb3⟩, ⟨zc, kc0, kc1, kc2, kc3⟩, ⟨zd, kd0, kd1, kd2, kd3⟩, _⟩, ⟨⟨ze, ke0, ke1⟩, _⟩, _⟩ := hs) | (go_at_call_of 26 [Value.agg #[Value.int IntKind.i64 t', Value.int IntKind.i64 l', Value.int IntKind.i64 b', Value.int IntKind.i64 r'], Value.agg #[Value.int IntKind.i64 x, Value.int IntKind.i64 y]]; refine (HJ.out _).mono ?_; rintro e wn ⟨rfl, hb⟩; have hs := St.below hb (by assumption); have ⟨⟨⟨za, ka0, ka1, ka2, ka3⟩, ⟨zb, kb0, kb1, kb2, kb3⟩, ⟨zc, kc0, kc1, kc2, kc3⟩, ⟨zd, kd0, kd1, kd2, kd3⟩, _⟩, ⟨⟨ze, ke0, ke1⟩, _⟩, _⟩ := hs) | (go_at_call_of 26 [Value.agg #[Value.int IntKind.i64 m1, Value.int IntKind.i64 m2, Value.int IntKind.i64 m3, Value.int IntKind.i64 m4], Value.agg #[Value.int IntKind.i64 x, Value.int IntKind.i64 y]]; refine (HF.out _).mono ?_; rintro e wn ⟨rfl, hb⟩; have hs := St.below hb (by assumption); have ⟨⟨⟨za, ka0, ka1, ka2, ka3⟩, ⟨zb, kb0, kb1, kb2, kb3⟩, ⟨zc, kc0, kc1, kc2, kc3⟩, ⟨zd, kd0, kd1, kd2, kd3⟩, _⟩, ⟨⟨ze, ke0, ke1⟩, _⟩, _⟩ := hs) | (go_at_call_of 24 [Value.agg #[Value.int IntKind.i64 t, Value.int IntKind.i64 l, Value.int IntKind.i64 b, Value.int IntKind.i64 r]]; refine (HC.out _).mono ?_; rintro e wn ⟨rfl, hb⟩; have hs := St.below hb (by assumption); have ⟨⟨⟨za, ka0, ka1, ka2, ka3⟩, ⟨zb, kb0, kb1, kb2, kb3⟩, ⟨zc, kc0, kc1, kc2, kc3⟩, ⟨zd, kd0, kd1, kd2, kd3⟩, _⟩, ⟨⟨ze, ke0, ke1⟩, _⟩, _⟩ := hs) | (go_at_call_of 24 [Value.agg #[Value.int IntKind.i64 t', Value.int IntKind.i64 l', Value.int IntKind.i64 b', Value.int IntKind.i64 r']]; refine (HD.out _).mono ?_; rintro e wn ⟨rfl, hb⟩; have hs := St.below hb (by assumption); have ⟨⟨⟨za, ka0, ka1, ka2, ka3⟩, ⟨zb, kb0, kb1, kb2, kb3⟩, ⟨zc, kc0, kc1, kc2, kc3⟩, ⟨zd, kd0, kd1, kd2, kd3⟩, _⟩, ⟨⟨ze, ke0, ke1⟩, _⟩, _⟩ := hs) | (go_at_call_of 24 [Value.agg #[Value.int IntKind.i64 m1, Value.int IntKind.i64 m2, Value.int IntKind.i64 m3, Value.int IntKind.i64 m4]]; refine (HE.out _).mono ?_; rintro e wn ⟨rfl, hb⟩; have hs := St.below hb (by assumption); have ⟨⟨⟨za, ka0, ka1, ka2, ka3⟩, ⟨zb, kb0, kb1, kb2, kb3⟩, ⟨zc, kc0, kc1, kc2, kc3⟩, ⟨zd, kd0, kd1, kd2, kd3⟩, _⟩, ⟨⟨ze, ke0, ke1⟩, _⟩, _⟩ := hs) | (go_at_call 13; refine (lives5_any _ (tab_below HT.out (St.out (by assumption)))).mono ?_; rintro e wn ⟨rfl, hb⟩; have hs := St.below hb (by assumption)))
        go_ret
        exact ⟨rfl, St.out (by assumption)⟩
      · rw [h1] at HI
        rw [h2] at HJ
        rw [h1, h2, Bool.and_self] at HF
        clear h1 h2
        go_enter Tryd.func8, Tryd.ntmps8
        go_wp2_with fail
        refine (HM.out _).mono ?_
        rintro e w1 ⟨rfl, hb⟩
        have hs := St.below hb H0.out
        have ⟨⟨⟨za, ka0, ka1, ka2, ka3⟩, ⟨zb, kb0, kb1, kb2, kb3⟩, _⟩, ⟨⟨ze, ke0, ke1⟩, _⟩, _⟩ := hs
        have HS := hide hs
        clear hs hb
        go_wp2_with fail
        refine (HN.out _).mono ?_
        rintro e w2 ⟨rfl, hb⟩
        clear za ka0 ka1 ka2 ka3 zb kb0 kb1 kb2 kb3 ze ke0 ke1
        have hs0 := (St.below hb (HS.out.box4 m1 m2 m3 m4 45))
        have hs := hs0.box4 m1 m2 m3 m4 45
        clear HS
        have ⟨⟨⟨zb, kb0, kb1, kb2, kb3⟩, ⟨zc, kc0, kc1, kc2, kc3⟩, ⟨zd, kd0, kd1, kd2, kd3⟩, _⟩, ⟨⟨ze, ke0, ke1⟩, _⟩, _⟩ := hs0
        clear hs0 hb
        go_wp2_with (first | (go_at_call_of 26 [Value.agg #[Value.int IntKind.i64 t, Value.int IntKind.i64 l, Value.int IntKind.i64 b, Value.int IntKind.i64 r], Value.agg #[Value.int IntKind.i64 x, Value.int IntKind.i64 y]]; refine (HI.out _).mono ?_; rintro e wn ⟨rfl, hb⟩; have hs := St.below hb (by assumption); have ⟨⟨⟨za, ka0, ka1, ka2, ka3⟩, ⟨zb, kb0, kb1, kb2, kb3⟩, ⟨zc, kc0, kc1, kc2, kc3⟩, ⟨zd, kd0, kd1, kd2, kd3⟩, _⟩, ⟨⟨ze, ke0, ke1⟩, _⟩, _⟩ := hs) | (go_at_call_of 26 [Value.agg #[Value.int IntKind.i64 t', Value.int IntKind.i64 l', Value.int IntKind.i64 b', Value.int IntKind.i64 r'], Value.agg #[Value.int IntKind.i64 x, Value.int IntKind.i64 y]]; refine (HJ.out _).mono ?_; rintro e wn ⟨rfl, hb⟩; have hs := St.below hb (by assumption); have ⟨⟨⟨za, ka0, ka1, ka2, ka3⟩, ⟨zb, kb0, kb1, kb2, kb3⟩, ⟨zc, kc0, kc1, kc2, kc3⟩, ⟨zd, kd0, kd1, kd2, kd3⟩, _⟩, ⟨⟨ze, ke0, ke1⟩, _⟩, _⟩ := hs) | (go_at_call_of 26 [Value.agg #[Value.int IntKind.i64 m1, Value.int IntKind.i64 m2, Value.int IntKind.i64 m3, Value.int IntKind.i64 m4], Value.agg #[Value.int IntKind.i64 x, Value.int IntKind.i64 y]]; refine (HF.out _).mono ?_; rintro e wn ⟨rfl, hb⟩; have hs := St.below hb (by assumption); have ⟨⟨⟨za, ka0, ka1, ka2, ka3⟩, ⟨zb, kb0, kb1, kb2, kb3⟩, ⟨zc, kc0, kc1, kc2, kc3⟩, ⟨zd, kd0, kd1, kd2, kd3⟩, _⟩, ⟨⟨ze, ke0, ke1⟩, _⟩, _⟩ := hs) | (go_at_call_of 24 [Value.agg #[Value.int IntKind.i64 t, Value.int IntKind.i64 l, Value.int IntKind.i64 b, Value.int IntKind.i64 r]]; refine (HC.out _).mono ?_; rintro e wn ⟨rfl, hb⟩; have hs := St.below hb (by assumption); have ⟨⟨⟨za, ka0, ka1, ka2, ka3⟩, ⟨zb, kb0, kb1, kb2, kb3⟩, ⟨zc, kc0, kc1, kc2, kc3⟩, ⟨zd, kd0, kd1, kd2, kd3⟩, _⟩, ⟨⟨ze, ke0, ke1⟩, _⟩, _⟩ := hs) | (go_at_call_of 24 [Value.agg #[Value.int IntKind.i64 t', Value.int IntKind.i64 l', Value.int IntKind.i64 b', Value.int IntKind.i64 r']]; refine (HD.out _).mono ?_; rintro e wn ⟨rfl, hb⟩; have hs := St.below hb (by assumption); have ⟨⟨⟨za, ka0, ka1, ka2, ka3⟩, ⟨zb, kb0, kb1, kb2, kb3⟩, ⟨zc, kc0, kc1, kc2, kc3⟩, ⟨zd, kd0, kd1, kd2, kd3⟩, _⟩, ⟨⟨ze, ke0, ke1⟩, _⟩, _⟩ := hs) | (go_at_call_of 24 [Value.agg #[Value.int IntKind.i64 m1, Value.int IntKind.i64 m2, Value.int IntKind.i64 m3, Value.int IntKind.i64 m4]]; refine (HE.out _).mono ?_; rintro e wn ⟨rfl, hb⟩; have hs := St.below hb (by assumption); have ⟨⟨⟨za, ka0, ka1, ka2, ka3⟩, ⟨zb, kb0, kb1, kb2, kb3⟩, ⟨zc, kc0, kc1, kc2, kc3⟩, ⟨zd, kd0, kd1, kd2, kd3⟩, _⟩, ⟨⟨ze, ke0, ke1⟩, _⟩, _⟩ := hs) | (go_at_call 13; refine (lives5_any _ (tab_below HT.out (St.out (by assumption)))).mono ?_; rintro e wn ⟨rfl, hb⟩; have hs := St.below hb (by assumption)))
        go_ret
        exact ⟨rfl, St.out (by assumption)⟩
end Go.Proofs.YtpognkhobmbfcaaDoor
