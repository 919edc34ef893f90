/-
  The walk of ValueTexts: for every value and text it returns true.
-/
import Derived.Test.YtaokibkeoomfjaaDoorLives5
import Derived.Test.YtaokibkeoomfjaaDoorRefRead
namespace Go.Proofs.YtaokibkeoomfjaaDoor
open Go.RowKit

set_option maxRecDepth 100000 in
set_option maxHeartbeats 4000000 in
theorem texts_all (k n : Int) (s : ByteArray) (b : Bool) (c : Int) (S T U : ByteArray) (e1 e2 xk xn : Int) (xs : ByteArray) (xb : Bool) (xc : Int) (w : World) (he : Env w) (H1 : Hid (∀ W : World, Env W → Calls Tryd.prog 22 #[.agg #[.int .i64 k, .int .i64 n, .string s, .bool b, .int .i64 c]] W fun e w' => e = .returned (.tuple #[.string T, .int .i64 e1]) ∧ Below W.heap.size W w')) (H2 : Hid (∀ W : World, Calls Tryd.prog 23 #[.agg #[.int .i64 k, .int .i64 n, .string s, .bool b, .int .i64 c]] W fun e w' => e = .returned (.tuple #[.string T, .int .i64 e1]) ∧ Below W.heap.size W w')) (H3 : Hid (∀ W : World, Env W → Calls Tryd.prog 24 #[.string S] W fun e w' => e = .returned (.tuple #[.agg #[.int .i64 xk, .int .i64 xn, .string xs, .bool xb, .int .i64 xc], .int .i64 e2]) ∧ Below W.heap.size W w')) (H4 : Hid (∀ W : World, Calls Tryd.prog 25 #[.string S] W fun e w' => e = .returned (.tuple #[.agg #[.int .i64 xk, .int .i64 xn, .string xs, .bool xb, .int .i64 xc], .int .i64 e2]) ∧ Below W.heap.size W w')) (H5 : Hid (∀ W : World, Calls Tryd.prog 26 #[.string S] W fun e w' => e = .returned (.string U) ∧ Below W.heap.size W w')) (H6 : Hid (∀ W : World, Calls Tryd.prog 27 #[.string S] W fun e w' => e = .returned (.string U) ∧ Below W.heap.size W w')) :
    Calls Tryd.prog 5 #[.agg #[.int .i64 k, .int .i64 n, .string s, .bool b, .int .i64 c], .string S] w fun e w' => e = .returned (.bool true) ∧ Below w.heap.size w w' := by
  have HE := hide he
  clear he
  have HA := hide (AtV.at w w.heap.size k n s b c 25 rfl)
  have HB := hide ((Below.refl w.heap.size w).alloc (Nat.le_refl _) (.cells #[.int .i64 k, .int .i64 n, .string s, .bool b, .int .i64 c] 25))
  go_enter Tryd.func5, Tryd.ntmps5
  go_wp2_with fail
  refine (H1.out _ (HE.out.below HB.out)).mono ?_
  rintro e w1 ⟨rfl, hb⟩
  have HA := hide (HA.out.below hb)
  have HB := hide (HB.out.trans (hb.mono HB.out.size))
  clear hb 
  obtain ⟨al, a0, a1, a2, a3, a4⟩ := HA.out
  go_wp2_with fail
  refine (H2.out _).mono ?_
  rintro e w2 ⟨rfl, hb⟩
  have HA := hide (HA.out.below hb)
  have HB := hide (HB.out.trans (hb.mono HB.out.size))
  clear hb al a0 a1 a2 a3 a4
  clear HA
  go_wp2_with fail
  refine (H3.out _ (HE.out.below HB.out)).mono ?_
  rintro e w3 ⟨rfl, hb⟩
  have HB := hide (HB.out.trans (hb.mono HB.out.size))
  clear hb 
  have HX := hide (AtV.at w3 w3.heap.size xk xn xs xb xc 25 rfl)
  have HB := hide (HB.out.alloc HB.out.size (.cells #[.int .i64 xk, .int .i64 xn, .string xs, .bool xb, .int .i64 xc] 25))
  go_wp2_with fail
  refine (H4.out _).mono ?_
  rintro e w4 ⟨rfl, hb⟩
  have HX := hide (HX.out.below hb)
  have HB := hide (HB.out.trans (hb.mono HB.out.size))
  clear hb 
  have HY := hide (AtV.at w4 w4.heap.size xk xn xs xb xc 25 rfl)
  have HX := hide (HX.out.alloc (.cells #[.int .i64 xk, .int .i64 xn, .string xs, .bool xb, .int .i64 xc] 25))
  have HB := hide (HB.out.alloc HB.out.size (.cells #[.int .i64 xk, .int .i64 xn, .string xs, .bool xb, .int .i64 xc] 25))
  obtain ⟨ul, u0, u1, u2, u3, u4⟩ := HX.out
  go_wp2_with fail
  refine (H5.out _).mono ?_
  rintro e w5 ⟨rfl, hb⟩
  have HB := hide (HB.out.trans (hb.mono HB.out.size))
  clear hb ul u0 u1 u2 u3 u4
  go_wp2_with fail
  refine (H6.out _).mono ?_
  rintro e w6 ⟨rfl, hb⟩
  have HB := hide (HB.out.trans (hb.mono HB.out.size))
  clear hb 
  go_wp2_with fail
  refine (lives4_any _ (HE.out.below HB.out)).mono ?_
  rintro e w7 ⟨rfl, hb⟩
  have HB := hide (HB.out.trans (hb.mono HB.out.size))
  clear hb 
  go_wp2
  go_ret
  exact ⟨rfl, HB.out⟩
theorem valueTexts_walk (k n : Int) (s : ByteArray) (b : Bool) (c : Int) (S : ByteArray) (w : World) (he : Env w) (hz : s.size ≤ maxLen) (hS : S.size ≤ maxLen) :
    Calls Tryd.prog 5 #[.agg #[.int .i64 k, .int .i64 n, .string s, .bool b, .int .i64 c], .string S] w fun e w' => e = .returned (.bool true) ∧ Below w.heap.size w w' :=
  texts_all k n s b c S _ _ _ _ _ _ _ _ _ w he (fun W hW => showV_any k n s b c W hW.1 hW.2.2 hz) (fun W => rshowV_any k n s b c W hz) (fun W hW => readV_any S W hW.2.1 hW.2.2 hS) (fun W => rreadV_any S W hS) (fun W => fold_any S W) (fun W => rfold_any S W hS)
end Go.Proofs.YtaokibkeoomfjaaDoor
