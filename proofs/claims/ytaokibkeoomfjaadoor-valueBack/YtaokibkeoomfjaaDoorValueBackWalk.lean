/-
  The walk of ValueBack: for every value and text it returns true.
-/
import Derived.Test.YtaokibkeoomfjaaDoorLives5
import Derived.Test.YtaokibkeoomfjaaDoorBackMath
namespace Go.Proofs.YtaokibkeoomfjaaDoor
open Go.RowKit

theorem right_size {k n : Int} {s : ByteArray} {b : Bool} {c : Int} (h : rightB k n s b c = true) : s.size ≤ maxLen := by
  unfold maxLen
  rcases right_cases h with ⟨_, _, rfl, _⟩ | ⟨_, _, rfl, _⟩ | ⟨_, _, hl, _⟩ | ⟨_, _, rfl, _⟩ | ⟨_, _, rfl, _⟩
  · decide
  · decide
  · omega
  · decide
  · decide
theorem HA2_of {k n : Int} {s : ByteArray} {b : Bool} {c : Int} (h : rightB k n s b c = true) (hk : k ≠ 2) :
    Hid (∀ W : World, Env W → Calls Tryd.prog 24 #[.string ⟨(showV k n s b c).1.toArray⟩] W fun e w' => e = .returned (.tuple #[.agg #[.int .i64 k, .int .i64 n, .string s, .bool b, .int .i64 c], .int .i64 0]) ∧ Below W.heap.size W w') := fun W hW => by
  have := readV_any ⟨(showV k n s b c).1.toArray⟩ W hW.2.1 hW.2.2 show_size
  rw [show (⟨(showV k n s b c).1.toArray⟩ : ByteArray).data.toList = (showV k n s b c).1 from rfl, read_show h hk] at this
  simp only [ba_eta] at this
  exact this
set_option maxRecDepth 100000 in
set_option maxHeartbeats 4000000 in
theorem back_11 (k n : Int) (s : ByteArray) (b : Bool) (c : Int) (S T : ByteArray) (w : World) (he : Env w) (HA1 : Hid (∀ W : World, Env W → Calls Tryd.prog 22 #[.agg #[.int .i64 k, .int .i64 n, .string s, .bool b, .int .i64 c]] W fun e w' => e = .returned (.tuple #[.string T, .int .i64 2]) ∧ Below W.heap.size W w')) (g : Int) (hg : (g != 0) = true) (HB1 : Hid (∀ W : World, Env W → Calls Tryd.prog 24 #[.string S] W fun e w' => e = .returned (.tuple #[.agg #[.int .i64 0, .int .i64 0, .string ⟨#[]⟩, .bool false, .int .i64 0], .int .i64 g]) ∧ Below W.heap.size W w')) :
    Calls Tryd.prog 6 #[.agg #[.int .i64 k, .int .i64 n, .string s, .bool b, .int .i64 c], .string S] w fun e w' => e = .returned (.bool true) ∧ Below w.heap.size w w' := by
  have HE := hide he
  clear he
  have HA := hide (AtV.at w w.heap.size k n s b c 25 rfl)
  have HB := hide ((Below.refl w.heap.size w).alloc (Nat.le_refl _) (.cells #[.int .i64 k, .int .i64 n, .string s, .bool b, .int .i64 c] 25))
  go_enter Tryd.func6, Tryd.ntmps6
  go_wp2_with fail
  refine (HA1.out _ (HE.out.below HB.out)).mono ?_
  rintro e w1 ⟨rfl, hb⟩
  have HA := hide (HA.out.below hb)
  have HB := hide (HB.out.trans (hb.mono HB.out.size))
  clear hb 
  obtain ⟨al, a0, a1, a2, a3, a4⟩ := HA.out
  go_wp2_with fail
  refine (HB1.out _ (HE.out.below HB.out)).mono ?_
  rintro e w3 ⟨rfl, hb⟩
  have HB := hide (HB.out.trans (hb.mono HB.out.size))
  clear hb al a0 a1 a2 a3 a4
  go_wp2_with fail
  have HB := hide (HB.out.alloc HB.out.size (.cells #[.int .i64 0, .int .i64 0, .string ⟨#[]⟩, .bool false, .int .i64 0] 25))
  refine (lives4_any _ (HE.out.below HB.out)).mono ?_
  rintro e w4 ⟨rfl, hb⟩
  have HB := hide (HB.out.trans (hb.mono HB.out.size))
  clear hb
  go_wp2
  go_ret
  exact ⟨rfl, HB.out⟩
set_option maxRecDepth 100000 in
set_option maxHeartbeats 4000000 in
theorem back_12 (k n : Int) (s : ByteArray) (b : Bool) (c : Int) (S T : ByteArray) (w : World) (he : Env w) (HA1 : Hid (∀ W : World, Env W → Calls Tryd.prog 22 #[.agg #[.int .i64 k, .int .i64 n, .string s, .bool b, .int .i64 c]] W fun e w' => e = .returned (.tuple #[.string T, .int .i64 2]) ∧ Below W.heap.size W w')) (xk xn : Int) (xs : ByteArray) (xb : Bool) (xc : Int) (U : ByteArray) (HB1 : Hid (∀ W : World, Env W → Calls Tryd.prog 24 #[.string S] W fun e w' => e = .returned (.tuple #[.agg #[.int .i64 xk, .int .i64 xn, .string xs, .bool xb, .int .i64 xc], .int .i64 0]) ∧ Below W.heap.size W w')) (HB2 : Hid (∀ W : World, Env W → Calls Tryd.prog 22 #[.agg #[.int .i64 xk, .int .i64 xn, .string xs, .bool xb, .int .i64 xc]] W fun e w' => e = .returned (.tuple #[.string U, .int .i64 0]) ∧ Below W.heap.size W w')) (HB3 : Hid (∀ W : World, Env W → Calls Tryd.prog 24 #[.string U] W fun e w' => e = .returned (.tuple #[.agg #[.int .i64 xk, .int .i64 xn, .string xs, .bool xb, .int .i64 xc], .int .i64 0]) ∧ Below W.heap.size W w')) (HB4 : Hid (∀ W : World, Env W → Calls Tryd.prog 15 #[.agg #[.int .i64 xk, .int .i64 xn, .string xs, .bool xb, .int .i64 xc]] W fun e w' => e = .returned (.int .i64 0) ∧ Below W.heap.size W w')) :
    Calls Tryd.prog 6 #[.agg #[.int .i64 k, .int .i64 n, .string s, .bool b, .int .i64 c], .string S] w fun e w' => e = .returned (.bool true) ∧ Below w.heap.size w w' := by
  have HE := hide he
  clear he
  have HA := hide (AtV.at w w.heap.size k n s b c 25 rfl)
  have HB := hide ((Below.refl w.heap.size w).alloc (Nat.le_refl _) (.cells #[.int .i64 k, .int .i64 n, .string s, .bool b, .int .i64 c] 25))
  go_enter Tryd.func6, Tryd.ntmps6
  go_wp2_with fail
  refine (HA1.out _ (HE.out.below HB.out)).mono ?_
  rintro e w1 ⟨rfl, hb⟩
  have HA := hide (HA.out.below hb)
  have HB := hide (HB.out.trans (hb.mono HB.out.size))
  clear hb 
  obtain ⟨al, a0, a1, a2, a3, a4⟩ := HA.out
  go_wp2_with fail
  refine (HB1.out _ (HE.out.below HB.out)).mono ?_
  rintro e w3 ⟨rfl, hb⟩
  have HB := hide (HB.out.trans (hb.mono HB.out.size))
  clear hb al a0 a1 a2 a3 a4
  have HX := hide (AtV.at w3 w3.heap.size xk xn xs xb xc 25 rfl)
  have HB := hide (HB.out.alloc HB.out.size (.cells #[.int .i64 xk, .int .i64 xn, .string xs, .bool xb, .int .i64 xc] 25))
  go_wp2_with fail
  refine (HB2.out _ (HE.out.below HB.out)).mono ?_
  rintro e w4 ⟨rfl, hb⟩
  have HX := hide (HX.out.below hb)
  have HB := hide (HB.out.trans (hb.mono HB.out.size))
  clear hb 
  obtain ⟨xl, x0, x1, x2, x3, x4⟩ := HX.out
  go_wp2_with fail
  refine (HB3.out _ (HE.out.below HB.out)).mono ?_
  rintro e w5 ⟨rfl, hb⟩
  have HX := hide (HX.out.below hb)
  have HB := hide (HB.out.trans (hb.mono HB.out.size))
  clear hb xl x0 x1 x2 x3 x4
  have HY := hide (AtV.at w5 w5.heap.size xk xn xs xb xc 25 rfl)
  have HX := hide (HX.out.alloc (.cells #[.int .i64 xk, .int .i64 xn, .string xs, .bool xb, .int .i64 xc] 25))
  have HB := hide (HB.out.alloc HB.out.size (.cells #[.int .i64 xk, .int .i64 xn, .string xs, .bool xb, .int .i64 xc] 25))
  obtain ⟨ul, u0, u1, u2, u3, u4⟩ := HX.out
  go_wp2_with fail
  refine (HB4.out _ (HE.out.below HB.out)).mono ?_
  rintro e w6 ⟨rfl, hb⟩
  have HX := hide (HX.out.below hb)
  have HY := hide (HY.out.below hb)
  have HB := hide (HB.out.trans (hb.mono HB.out.size))
  clear hb ul u0 u1 u2 u3 u4
  obtain ⟨ul, u0, u1, u2, u3, u4⟩ := HX.out
  obtain ⟨yl, y0, y1, y2, y3, y4⟩ := HY.out
  go_wp2_with fail
  refine (lives4_any _ (HE.out.below HB.out)).mono ?_
  rintro e w7 ⟨rfl, hb⟩
  have HB := hide (HB.out.trans (hb.mono HB.out.size))
  clear hb ul u0 u1 u2 u3 u4 yl y0 y1 y2 y3 y4
  go_wp2
  go_ret
  exact ⟨rfl, HB.out⟩
set_option maxRecDepth 100000 in
set_option maxHeartbeats 4000000 in
theorem back_21 (k n : Int) (s : ByteArray) (b : Bool) (c : Int) (S T : ByteArray) (w : World) (he : Env w) (HA1 : Hid (∀ W : World, Env W → Calls Tryd.prog 22 #[.agg #[.int .i64 k, .int .i64 n, .string s, .bool b, .int .i64 c]] W fun e w' => e = .returned (.tuple #[.string T, .int .i64 0]) ∧ Below W.heap.size W w')) (hk : k = 2) (g : Int) (hg : (g != 0) = true) (HB1 : Hid (∀ W : World, Env W → Calls Tryd.prog 24 #[.string S] W fun e w' => e = .returned (.tuple #[.agg #[.int .i64 0, .int .i64 0, .string ⟨#[]⟩, .bool false, .int .i64 0], .int .i64 g]) ∧ Below W.heap.size W w')) :
    Calls Tryd.prog 6 #[.agg #[.int .i64 k, .int .i64 n, .string s, .bool b, .int .i64 c], .string S] w fun e w' => e = .returned (.bool true) ∧ Below w.heap.size w w' := by
  have HE := hide he
  clear he
  subst hk
  have HA := hide (AtV.at w w.heap.size 2 n s b c 25 rfl)
  have HB := hide ((Below.refl w.heap.size w).alloc (Nat.le_refl _) (.cells #[.int .i64 2, .int .i64 n, .string s, .bool b, .int .i64 c] 25))
  go_enter Tryd.func6, Tryd.ntmps6
  go_wp2_with fail
  refine (HA1.out _ (HE.out.below HB.out)).mono ?_
  rintro e w1 ⟨rfl, hb⟩
  have HA := hide (HA.out.below hb)
  have HB := hide (HB.out.trans (hb.mono HB.out.size))
  clear hb 
  obtain ⟨al, a0, a1, a2, a3, a4⟩ := HA.out
  go_wp2_with fail
  refine (HB1.out _ (HE.out.below HB.out)).mono ?_
  rintro e w3 ⟨rfl, hb⟩
  have HB := hide (HB.out.trans (hb.mono HB.out.size))
  clear hb al a0 a1 a2 a3 a4
  go_wp2_with fail
  have HB := hide (HB.out.alloc HB.out.size (.cells #[.int .i64 0, .int .i64 0, .string ⟨#[]⟩, .bool false, .int .i64 0] 25))
  refine (lives4_any _ (HE.out.below HB.out)).mono ?_
  rintro e w4 ⟨rfl, hb⟩
  have HB := hide (HB.out.trans (hb.mono HB.out.size))
  clear hb
  go_wp2
  go_ret
  exact ⟨rfl, HB.out⟩
set_option maxRecDepth 100000 in
set_option maxHeartbeats 4000000 in
theorem back_22 (k n : Int) (s : ByteArray) (b : Bool) (c : Int) (S T : ByteArray) (w : World) (he : Env w) (HA1 : Hid (∀ W : World, Env W → Calls Tryd.prog 22 #[.agg #[.int .i64 k, .int .i64 n, .string s, .bool b, .int .i64 c]] W fun e w' => e = .returned (.tuple #[.string T, .int .i64 0]) ∧ Below W.heap.size W w')) (hk : k = 2) (xk xn : Int) (xs : ByteArray) (xb : Bool) (xc : Int) (U : ByteArray) (HB1 : Hid (∀ W : World, Env W → Calls Tryd.prog 24 #[.string S] W fun e w' => e = .returned (.tuple #[.agg #[.int .i64 xk, .int .i64 xn, .string xs, .bool xb, .int .i64 xc], .int .i64 0]) ∧ Below W.heap.size W w')) (HB2 : Hid (∀ W : World, Env W → Calls Tryd.prog 22 #[.agg #[.int .i64 xk, .int .i64 xn, .string xs, .bool xb, .int .i64 xc]] W fun e w' => e = .returned (.tuple #[.string U, .int .i64 0]) ∧ Below W.heap.size W w')) (HB3 : Hid (∀ W : World, Env W → Calls Tryd.prog 24 #[.string U] W fun e w' => e = .returned (.tuple #[.agg #[.int .i64 xk, .int .i64 xn, .string xs, .bool xb, .int .i64 xc], .int .i64 0]) ∧ Below W.heap.size W w')) (HB4 : Hid (∀ W : World, Env W → Calls Tryd.prog 15 #[.agg #[.int .i64 xk, .int .i64 xn, .string xs, .bool xb, .int .i64 xc]] W fun e w' => e = .returned (.int .i64 0) ∧ Below W.heap.size W w')) :
    Calls Tryd.prog 6 #[.agg #[.int .i64 k, .int .i64 n, .string s, .bool b, .int .i64 c], .string S] w fun e w' => e = .returned (.bool true) ∧ Below w.heap.size w w' := by
  have HE := hide he
  clear he
  subst hk
  have HA := hide (AtV.at w w.heap.size 2 n s b c 25 rfl)
  have HB := hide ((Below.refl w.heap.size w).alloc (Nat.le_refl _) (.cells #[.int .i64 2, .int .i64 n, .string s, .bool b, .int .i64 c] 25))
  go_enter Tryd.func6, Tryd.ntmps6
  go_wp2_with fail
  refine (HA1.out _ (HE.out.below HB.out)).mono ?_
  rintro e w1 ⟨rfl, hb⟩
  have HA := hide (HA.out.below hb)
  have HB := hide (HB.out.trans (hb.mono HB.out.size))
  clear hb 
  obtain ⟨al, a0, a1, a2, a3, a4⟩ := HA.out
  go_wp2_with fail
  refine (HB1.out _ (HE.out.below HB.out)).mono ?_
  rintro e w3 ⟨rfl, hb⟩
  have HB := hide (HB.out.trans (hb.mono HB.out.size))
  clear hb al a0 a1 a2 a3 a4
  have HX := hide (AtV.at w3 w3.heap.size xk xn xs xb xc 25 rfl)
  have HB := hide (HB.out.alloc HB.out.size (.cells #[.int .i64 xk, .int .i64 xn, .string xs, .bool xb, .int .i64 xc] 25))
  go_wp2_with fail
  refine (HB2.out _ (HE.out.below HB.out)).mono ?_
  rintro e w4 ⟨rfl, hb⟩
  have HX := hide (HX.out.below hb)
  have HB := hide (HB.out.trans (hb.mono HB.out.size))
  clear hb 
  obtain ⟨xl, x0, x1, x2, x3, x4⟩ := HX.out
  go_wp2_with fail
  refine (HB3.out _ (HE.out.below HB.out)).mono ?_
  rintro e w5 ⟨rfl, hb⟩
  have HX := hide (HX.out.below hb)
  have HB := hide (HB.out.trans (hb.mono HB.out.size))
  clear hb xl x0 x1 x2 x3 x4
  have HY := hide (AtV.at w5 w5.heap.size xk xn xs xb xc 25 rfl)
  have HX := hide (HX.out.alloc (.cells #[.int .i64 xk, .int .i64 xn, .string xs, .bool xb, .int .i64 xc] 25))
  have HB := hide (HB.out.alloc HB.out.size (.cells #[.int .i64 xk, .int .i64 xn, .string xs, .bool xb, .int .i64 xc] 25))
  obtain ⟨ul, u0, u1, u2, u3, u4⟩ := HX.out
  go_wp2_with fail
  refine (HB4.out _ (HE.out.below HB.out)).mono ?_
  rintro e w6 ⟨rfl, hb⟩
  have HX := hide (HX.out.below hb)
  have HY := hide (HY.out.below hb)
  have HB := hide (HB.out.trans (hb.mono HB.out.size))
  clear hb ul u0 u1 u2 u3 u4
  obtain ⟨ul, u0, u1, u2, u3, u4⟩ := HX.out
  obtain ⟨yl, y0, y1, y2, y3, y4⟩ := HY.out
  go_wp2_with fail
  refine (lives4_any _ (HE.out.below HB.out)).mono ?_
  rintro e w7 ⟨rfl, hb⟩
  have HB := hide (HB.out.trans (hb.mono HB.out.size))
  clear hb ul u0 u1 u2 u3 u4 yl y0 y1 y2 y3 y4
  go_wp2
  go_ret
  exact ⟨rfl, HB.out⟩
set_option maxRecDepth 100000 in
set_option maxHeartbeats 4000000 in
theorem back_31 (k n : Int) (s : ByteArray) (b : Bool) (c : Int) (S T : ByteArray) (w : World) (he : Env w) (HA1 : Hid (∀ W : World, Env W → Calls Tryd.prog 22 #[.agg #[.int .i64 k, .int .i64 n, .string s, .bool b, .int .i64 c]] W fun e w' => e = .returned (.tuple #[.string T, .int .i64 0]) ∧ Below W.heap.size W w')) (hk : (k != 2) = true) (HA2 : Hid (∀ W : World, Env W → Calls Tryd.prog 24 #[.string T] W fun e w' => e = .returned (.tuple #[.agg #[.int .i64 k, .int .i64 n, .string s, .bool b, .int .i64 c], .int .i64 0]) ∧ Below W.heap.size W w')) (g : Int) (hg : (g != 0) = true) (HB1 : Hid (∀ W : World, Env W → Calls Tryd.prog 24 #[.string S] W fun e w' => e = .returned (.tuple #[.agg #[.int .i64 0, .int .i64 0, .string ⟨#[]⟩, .bool false, .int .i64 0], .int .i64 g]) ∧ Below W.heap.size W w')) :
    Calls Tryd.prog 6 #[.agg #[.int .i64 k, .int .i64 n, .string s, .bool b, .int .i64 c], .string S] w fun e w' => e = .returned (.bool true) ∧ Below w.heap.size w w' := by
  have HE := hide he
  clear he
  have HA := hide (AtV.at w w.heap.size k n s b c 25 rfl)
  have HB := hide ((Below.refl w.heap.size w).alloc (Nat.le_refl _) (.cells #[.int .i64 k, .int .i64 n, .string s, .bool b, .int .i64 c] 25))
  go_enter Tryd.func6, Tryd.ntmps6
  go_wp2_with fail
  refine (HA1.out _ (HE.out.below HB.out)).mono ?_
  rintro e w1 ⟨rfl, hb⟩
  have HA := hide (HA.out.below hb)
  have HB := hide (HB.out.trans (hb.mono HB.out.size))
  clear hb 
  obtain ⟨al, a0, a1, a2, a3, a4⟩ := HA.out
  go_wp2_with fail
  refine (HA2.out _ (HE.out.below HB.out)).mono ?_
  rintro e w2 ⟨rfl, hb⟩
  have HA := hide (HA.out.below hb)
  have HB := hide (HB.out.trans (hb.mono HB.out.size))
  clear hb al a0 a1 a2 a3 a4
  obtain ⟨al, a0, a1, a2, a3, a4⟩ := HA.out
  go_wp2_with fail
  have HB := hide (HB.out.alloc HB.out.size (.cells #[.int .i64 k, .int .i64 n, .string s, .bool b, .int .i64 c] 25))
  refine (HB1.out _ (HE.out.below HB.out)).mono ?_
  rintro e w3 ⟨rfl, hb⟩
  have HB := hide (HB.out.trans (hb.mono HB.out.size))
  clear hb al a0 a1 a2 a3 a4
  go_wp2_with fail
  have HB := hide (HB.out.alloc HB.out.size (.cells #[.int .i64 0, .int .i64 0, .string ⟨#[]⟩, .bool false, .int .i64 0] 25))
  refine (lives4_any _ (HE.out.below HB.out)).mono ?_
  rintro e w4 ⟨rfl, hb⟩
  have HB := hide (HB.out.trans (hb.mono HB.out.size))
  clear hb
  go_wp2
  go_ret
  exact ⟨rfl, HB.out⟩
set_option maxRecDepth 100000 in
set_option maxHeartbeats 4000000 in
theorem back_32 (k n : Int) (s : ByteArray) (b : Bool) (c : Int) (S T : ByteArray) (w : World) (he : Env w) (HA1 : Hid (∀ W : World, Env W → Calls Tryd.prog 22 #[.agg #[.int .i64 k, .int .i64 n, .string s, .bool b, .int .i64 c]] W fun e w' => e = .returned (.tuple #[.string T, .int .i64 0]) ∧ Below W.heap.size W w')) (hk : (k != 2) = true) (HA2 : Hid (∀ W : World, Env W → Calls Tryd.prog 24 #[.string T] W fun e w' => e = .returned (.tuple #[.agg #[.int .i64 k, .int .i64 n, .string s, .bool b, .int .i64 c], .int .i64 0]) ∧ Below W.heap.size W w')) (xk xn : Int) (xs : ByteArray) (xb : Bool) (xc : Int) (U : ByteArray) (HB1 : Hid (∀ W : World, Env W → Calls Tryd.prog 24 #[.string S] W fun e w' => e = .returned (.tuple #[.agg #[.int .i64 xk, .int .i64 xn, .string xs, .bool xb, .int .i64 xc], .int .i64 0]) ∧ Below W.heap.size W w')) (HB2 : Hid (∀ W : World, Env W → Calls Tryd.prog 22 #[.agg #[.int .i64 xk, .int .i64 xn, .string xs, .bool xb, .int .i64 xc]] W fun e w' => e = .returned (.tuple #[.string U, .int .i64 0]) ∧ Below W.heap.size W w')) (HB3 : Hid (∀ W : World, Env W → Calls Tryd.prog 24 #[.string U] W fun e w' => e = .returned (.tuple #[.agg #[.int .i64 xk, .int .i64 xn, .string xs, .bool xb, .int .i64 xc], .int .i64 0]) ∧ Below W.heap.size W w')) (HB4 : Hid (∀ W : World, Env W → Calls Tryd.prog 15 #[.agg #[.int .i64 xk, .int .i64 xn, .string xs, .bool xb, .int .i64 xc]] W fun e w' => e = .returned (.int .i64 0) ∧ Below W.heap.size W w')) :
    Calls Tryd.prog 6 #[.agg #[.int .i64 k, .int .i64 n, .string s, .bool b, .int .i64 c], .string S] w fun e w' => e = .returned (.bool true) ∧ Below w.heap.size w w' := by
  have HE := hide he
  clear he
  have HA := hide (AtV.at w w.heap.size k n s b c 25 rfl)
  have HB := hide ((Below.refl w.heap.size w).alloc (Nat.le_refl _) (.cells #[.int .i64 k, .int .i64 n, .string s, .bool b, .int .i64 c] 25))
  go_enter Tryd.func6, Tryd.ntmps6
  go_wp2_with fail
  refine (HA1.out _ (HE.out.below HB.out)).mono ?_
  rintro e w1 ⟨rfl, hb⟩
  have HA := hide (HA.out.below hb)
  have HB := hide (HB.out.trans (hb.mono HB.out.size))
  clear hb 
  obtain ⟨al, a0, a1, a2, a3, a4⟩ := HA.out
  go_wp2_with fail
  refine (HA2.out _ (HE.out.below HB.out)).mono ?_
  rintro e w2 ⟨rfl, hb⟩
  have HA := hide (HA.out.below hb)
  have HB := hide (HB.out.trans (hb.mono HB.out.size))
  clear hb al a0 a1 a2 a3 a4
  obtain ⟨al, a0, a1, a2, a3, a4⟩ := HA.out
  go_wp2_with fail
  have HB := hide (HB.out.alloc HB.out.size (.cells #[.int .i64 k, .int .i64 n, .string s, .bool b, .int .i64 c] 25))
  refine (HB1.out _ (HE.out.below HB.out)).mono ?_
  rintro e w3 ⟨rfl, hb⟩
  have HB := hide (HB.out.trans (hb.mono HB.out.size))
  clear hb al a0 a1 a2 a3 a4
  have HX := hide (AtV.at w3 w3.heap.size xk xn xs xb xc 25 rfl)
  have HB := hide (HB.out.alloc HB.out.size (.cells #[.int .i64 xk, .int .i64 xn, .string xs, .bool xb, .int .i64 xc] 25))
  go_wp2_with fail
  refine (HB2.out _ (HE.out.below HB.out)).mono ?_
  rintro e w4 ⟨rfl, hb⟩
  have HX := hide (HX.out.below hb)
  have HB := hide (HB.out.trans (hb.mono HB.out.size))
  clear hb 
  obtain ⟨xl, x0, x1, x2, x3, x4⟩ := HX.out
  go_wp2_with fail
  refine (HB3.out _ (HE.out.below HB.out)).mono ?_
  rintro e w5 ⟨rfl, hb⟩
  have HX := hide (HX.out.below hb)
  have HB := hide (HB.out.trans (hb.mono HB.out.size))
  clear hb xl x0 x1 x2 x3 x4
  have HY := hide (AtV.at w5 w5.heap.size xk xn xs xb xc 25 rfl)
  have HX := hide (HX.out.alloc (.cells #[.int .i64 xk, .int .i64 xn, .string xs, .bool xb, .int .i64 xc] 25))
  have HB := hide (HB.out.alloc HB.out.size (.cells #[.int .i64 xk, .int .i64 xn, .string xs, .bool xb, .int .i64 xc] 25))
  obtain ⟨ul, u0, u1, u2, u3, u4⟩ := HX.out
  go_wp2_with fail
  refine (HB4.out _ (HE.out.below HB.out)).mono ?_
  rintro e w6 ⟨rfl, hb⟩
  have HX := hide (HX.out.below hb)
  have HY := hide (HY.out.below hb)
  have HB := hide (HB.out.trans (hb.mono HB.out.size))
  clear hb ul u0 u1 u2 u3 u4
  obtain ⟨ul, u0, u1, u2, u3, u4⟩ := HX.out
  obtain ⟨yl, y0, y1, y2, y3, y4⟩ := HY.out
  go_wp2_with fail
  refine (lives4_any _ (HE.out.below HB.out)).mono ?_
  rintro e w7 ⟨rfl, hb⟩
  have HB := hide (HB.out.trans (hb.mono HB.out.size))
  clear hb ul u0 u1 u2 u3 u4 yl y0 y1 y2 y3 y4
  go_wp2
  go_ret
  exact ⟨rfl, HB.out⟩
theorem valueBack_walk (k n : Int) (s : ByteArray) (b : Bool) (c : Int) (S : ByteArray) (w : World) (he : Env w) (hz : s.size ≤ maxLen) (hS : S.size ≤ maxLen) :
    Calls Tryd.prog 6 #[.agg #[.int .i64 k, .int .i64 n, .string s, .bool b, .int .i64 c], .string S] w fun e w' => e = .returned (.bool true) ∧ Below w.heap.size w w' := by
  have HA1 : Hid (∀ W : World, Env W → Calls Tryd.prog 22 #[.agg #[.int .i64 k, .int .i64 n, .string s, .bool b, .int .i64 c]] W fun e w' => e = .returned (.tuple #[.string ⟨(showV k n s b c).1.toArray⟩, .int .i64 (showV k n s b c).2]) ∧ Below W.heap.size W w') := fun W hW => showV_any k n s b c W hW.1 hW.2.2 hz
  have HB1 : Hid (∀ W : World, Env W → Calls Tryd.prog 24 #[.string S] W fun e w' => e = .returned (.tuple #[.agg #[.int .i64 (readR S.data.toList).1.k, .int .i64 (readR S.data.toList).1.n, .string ⟨(readR S.data.toList).1.s.toArray⟩, .bool (readR S.data.toList).1.b, .int .i64 (readR S.data.toList).1.c], .int .i64 (readR S.data.toList).2]) ∧ Below W.heap.size W w') := fun W hW => readV_any S W hW.2.1 hW.2.2 hS
  by_cases hg : (readR S.data.toList).2 = 0
  · obtain ⟨hr, hq⟩ := read_back hg
    rw [hg] at HB1
    generalize (readR S.data.toList).1 = v at *
    obtain ⟨xk, xn, xl, xb, xc⟩ := v
    have HB2 : Hid (∀ W : World, Env W → Calls Tryd.prog 22 #[.agg #[.int .i64 xk, .int .i64 xn, .string ⟨xl.toArray⟩, .bool xb, .int .i64 xc]] W fun e w' => e = .returned (.tuple #[.string ⟨(showV xk xn ⟨xl.toArray⟩ xb xc).1.toArray⟩, .int .i64 0]) ∧ Below W.heap.size W w') := fun W hW => by
      have := showV_any xk xn ⟨xl.toArray⟩ xb xc W hW.1 hW.2.2 (right_size hr)
      rw [show_ok hr] at this; exact this
    have HB3 : Hid (∀ W : World, Env W → Calls Tryd.prog 24 #[.string ⟨(showV xk xn ⟨xl.toArray⟩ xb xc).1.toArray⟩] W fun e w' => e = .returned (.tuple #[.agg #[.int .i64 xk, .int .i64 xn, .string ⟨xl.toArray⟩, .bool xb, .int .i64 xc], .int .i64 0]) ∧ Below W.heap.size W w') := fun W hW => by
      have := readV_any ⟨(showV xk xn ⟨xl.toArray⟩ xb xc).1.toArray⟩ W hW.2.1 hW.2.2 show_size
      rw [show (⟨(showV xk xn ⟨xl.toArray⟩ xb xc).1.toArray⟩ : ByteArray).data.toList = (showV xk xn ⟨xl.toArray⟩ xb xc).1 from rfl, hq] at this
      exact this
    have HB4 : Hid (∀ W : World, Env W → Calls Tryd.prog 15 #[.agg #[.int .i64 xk, .int .i64 xn, .string ⟨xl.toArray⟩, .bool xb, .int .i64 xc]] W fun e w' => e = .returned (.int .i64 0) ∧ Below W.heap.size W w') := fun W _ => by
      have := checkV_any xk xn ⟨xl.toArray⟩ xb xc W (right_size hr)
      rw [show checkV xk xn ⟨xl.toArray⟩ xb xc = 0 by have hr' : rightB xk xn ⟨xl.toArray⟩ xb xc = true := hr
                                                      simp [checkV, hr']] at this
      exact this
    cases ha : rightB k n s b c
    · rw [show_no ha] at HA1
      exact back_12 k n s b c S _ w he HA1 xk xn _ xb xc _ HB1 HB2 HB3 HB4
    · rw [show_ok ha] at HA1
      by_cases hk : k = 2
      · exact back_22 k n s b c S _ w he HA1 hk xk xn _ xb xc _ HB1 HB2 HB3 HB4
      · exact back_32 k n s b c S _ w he HA1 (by simpa using hk) (HA2_of ha hk) xk xn _ xb xc _ HB1 HB2 HB3 HB4
  · rw [read_bad hg] at HB1
    have hg' : ((readR S.data.toList).2 != 0) = true := by simpa using hg
    cases ha : rightB k n s b c
    · rw [show_no ha] at HA1
      exact back_11 k n s b c S _ w he HA1 _ hg' HB1
    · rw [show_ok ha] at HA1
      by_cases hk : k = 2
      · exact back_21 k n s b c S _ w he HA1 hk _ hg' HB1
      · exact back_31 k n s b c S _ w he HA1 (by simpa using hk) (HA2_of ha hk) _ hg' HB1
end Go.Proofs.YtaokibkeoomfjaaDoor
