/-
  The walk of ValueOrder: for every three values it returns true.
-/
import Derived.Test.YtaokibkeoomfjaaDoorLives5
import Derived.Test.YtaokibkeoomfjaaDoorComp4
import Derived.Test.YtaokibkeoomfjaaDoorOrderMath
namespace Go.Proofs.YtaokibkeoomfjaaDoor
open Go.RowKit

set_option maxHeartbeats 1000000 in
theorem plain_any (k n : Int) (s : ByteArray) (b : Bool) (c : Int) (w : World) (hz : s.size ≤ maxLen) :
    Calls Tryd.prog 28 #[.agg #[.int .i64 k, .int .i64 n, .string s, .bool b, .int .i64 c]] w fun e w' => e = .returned (.bool (plainB k n s b c)) ∧ Below w.heap.size w w' := by
  have HC : Hid (∀ W : World, Calls Tryd.prog 15 #[.agg #[.int .i64 k, .int .i64 n, .string s, .bool b, .int .i64 c]] W fun e w' => e = .returned (.int .i64 (checkV k n s b c)) ∧ Below W.heap.size W w') := fun W => checkV_any k n s b c W hz
  clear hz
  cases hr : rightB k n s b c
  · rw [show checkV k n s b c = 2 by simp [checkV, hr]] at HC
    rw [show plainB k n s b c = false by simp [plainB, hr]]
    clear hr
    go_enter Tryd.func28, Tryd.ntmps28
    go_wp2_with (go_at_call 15; refine (HC.out _).mono ?_; rintro e w1 ⟨rfl, hb1⟩; obtain ⟨q0, q1, q2, q3, q4, q5, q6⟩ := box_cells hb1)
    go_ret
    exact ⟨rfl, q6⟩
  · rw [show checkV k n s b c = 0 by simp [checkV, hr]] at HC
    by_cases h4 : k = 4
    · subst h4
      rw [show plainB 4 n s b c = false by simp [plainB]]
      clear hr
      go_enter Tryd.func28, Tryd.ntmps28
      go_wp2_with (go_at_call 15; refine (HC.out _).mono ?_; rintro e w1 ⟨rfl, hb1⟩; obtain ⟨q0, q1, q2, q3, q4, q5, q6⟩ := box_cells hb1)
      go_ret
      exact ⟨rfl, q6⟩
    · by_cases h0 : k = 0
      · subst h0
        rw [show plainB 0 n s b c = false by simp [plainB]]
        clear hr h4
        go_enter Tryd.func28, Tryd.ntmps28
        go_wp2_with (go_at_call 15; refine (HC.out _).mono ?_; rintro e w1 ⟨rfl, hb1⟩; obtain ⟨q0, q1, q2, q3, q4, q5, q6⟩ := box_cells hb1)
        go_ret
        exact ⟨rfl, q6⟩
      · rw [show plainB k n s b c = true by simp [plainB, hr, h4, h0]]
        have t4 : (k != 4) = true := by simpa using h4
        have t0 : (k != 0) = true := by simpa using h0
        clear hr h4 h0
        go_enter Tryd.func28, Tryd.ntmps28
        go_wp2_with (go_at_call 15; refine (HC.out _).mono ?_; rintro e w1 ⟨rfl, hb1⟩; obtain ⟨q0, q1, q2, q3, q4, q5, q6⟩ := box_cells hb1)
        go_ret
        exact ⟨rfl, q6⟩
set_option maxRecDepth 100000 in
set_option maxHeartbeats 4000000 in
theorem order_no1 (k n : Int) (s : ByteArray) (b : Bool) (c : Int) (k' n' : Int) (s' : ByteArray) (b' : Bool) (c' : Int) (l m : Int) (t : ByteArray) (d : Bool) (g : Int) (w : World) (he : Env w) (H1 : Hid (∀ W : World, Calls Tryd.prog 28 #[.agg #[.int .i64 k, .int .i64 n, .string s, .bool b, .int .i64 c]] W fun e w' => e = .returned (.bool false) ∧ Below W.heap.size W w')) :
    Calls Tryd.prog 7 #[.agg #[.int .i64 k, .int .i64 n, .string s, .bool b, .int .i64 c], .agg #[.int .i64 k', .int .i64 n', .string s', .bool b', .int .i64 c'], .agg #[.int .i64 l, .int .i64 m, .string t, .bool d, .int .i64 g]] w fun e w' => e = .returned (.bool true) ∧ Below w.heap.size w w' := by
  have HE := hide he
  clear he
  have HA := hide (((AtV.at w w.heap.size k n s b c 25 rfl).alloc (.cells #[.int .i64 k', .int .i64 n', .string s', .bool b', .int .i64 c'] 25)).alloc (.cells #[.int .i64 l, .int .i64 m, .string t, .bool d, .int .i64 g] 25))
  have HQ := hide ((AtV.at (w.alloc (.cells #[.int .i64 k, .int .i64 n, .string s, .bool b, .int .i64 c] 25)) (w.heap.size + 1) k' n' s' b' c' 25 (by simp)).alloc (.cells #[.int .i64 l, .int .i64 m, .string t, .bool d, .int .i64 g] 25))
  have HR := hide (AtV.at ((w.alloc (.cells #[.int .i64 k, .int .i64 n, .string s, .bool b, .int .i64 c] 25)).alloc (.cells #[.int .i64 k', .int .i64 n', .string s', .bool b', .int .i64 c'] 25)) (w.heap.size + 2) l m t d g 25 (by simp))
  have HB := hide ((((Below.refl w.heap.size w).alloc (Nat.le_refl _) (.cells #[.int .i64 k, .int .i64 n, .string s, .bool b, .int .i64 c] 25)).alloc (by simp) (.cells #[.int .i64 k', .int .i64 n', .string s', .bool b', .int .i64 c'] 25)).alloc (by simp; omega) (.cells #[.int .i64 l, .int .i64 m, .string t, .bool d, .int .i64 g] 25))
  go_enter Tryd.func7, Tryd.ntmps7
  go_wp2_with fail
  refine (H1.out _).mono ?_
  rintro e w1 ⟨rfl, hb⟩
  have HA := hide (HA.out.below hb)
  have HQ := hide (HQ.out.below hb)
  have HR := hide (HR.out.below hb)
  have HB := hide (HB.out.trans (hb.mono HB.out.size))
  clear hb
  obtain ⟨al, a0, a1, a2, a3, a4⟩ := HA.out
  obtain ⟨zl, z0, z1, z2, z3, z4⟩ := HQ.out
  obtain ⟨yl, y0, y1, y2, y3, y4⟩ := HR.out
  go_wp2_with fail
  refine (lives4_any _ (HE.out.below HB.out)).mono ?_
  rintro e wl ⟨rfl, hb⟩
  have HA := hide (HA.out.below hb)
  have HQ := hide (HQ.out.below hb)
  have HR := hide (HR.out.below hb)
  have HB := hide (HB.out.trans (hb.mono HB.out.size))
  clear hb al a0 a1 a2 a3 a4 zl z0 z1 z2 z3 z4 yl y0 y1 y2 y3 y4
  obtain ⟨al, a0, a1, a2, a3, a4⟩ := HA.out
  obtain ⟨zl, z0, z1, z2, z3, z4⟩ := HQ.out
  obtain ⟨yl, y0, y1, y2, y3, y4⟩ := HR.out
  go_wp2
  go_ret
  exact ⟨rfl, HB.out⟩
set_option maxRecDepth 100000 in
set_option maxHeartbeats 4000000 in
theorem order_no2 (k n : Int) (s : ByteArray) (b : Bool) (c : Int) (k' n' : Int) (s' : ByteArray) (b' : Bool) (c' : Int) (l m : Int) (t : ByteArray) (d : Bool) (g : Int) (w : World) (he : Env w) (H1 : Hid (∀ W : World, Calls Tryd.prog 28 #[.agg #[.int .i64 k, .int .i64 n, .string s, .bool b, .int .i64 c]] W fun e w' => e = .returned (.bool true) ∧ Below W.heap.size W w')) (H2 : Hid (∀ W : World, Calls Tryd.prog 28 #[.agg #[.int .i64 k', .int .i64 n', .string s', .bool b', .int .i64 c']] W fun e w' => e = .returned (.bool false) ∧ Below W.heap.size W w')) :
    Calls Tryd.prog 7 #[.agg #[.int .i64 k, .int .i64 n, .string s, .bool b, .int .i64 c], .agg #[.int .i64 k', .int .i64 n', .string s', .bool b', .int .i64 c'], .agg #[.int .i64 l, .int .i64 m, .string t, .bool d, .int .i64 g]] w fun e w' => e = .returned (.bool true) ∧ Below w.heap.size w w' := by
  have HE := hide he
  clear he
  have HA := hide (((AtV.at w w.heap.size k n s b c 25 rfl).alloc (.cells #[.int .i64 k', .int .i64 n', .string s', .bool b', .int .i64 c'] 25)).alloc (.cells #[.int .i64 l, .int .i64 m, .string t, .bool d, .int .i64 g] 25))
  have HQ := hide ((AtV.at (w.alloc (.cells #[.int .i64 k, .int .i64 n, .string s, .bool b, .int .i64 c] 25)) (w.heap.size + 1) k' n' s' b' c' 25 (by simp)).alloc (.cells #[.int .i64 l, .int .i64 m, .string t, .bool d, .int .i64 g] 25))
  have HR := hide (AtV.at ((w.alloc (.cells #[.int .i64 k, .int .i64 n, .string s, .bool b, .int .i64 c] 25)).alloc (.cells #[.int .i64 k', .int .i64 n', .string s', .bool b', .int .i64 c'] 25)) (w.heap.size + 2) l m t d g 25 (by simp))
  have HB := hide ((((Below.refl w.heap.size w).alloc (Nat.le_refl _) (.cells #[.int .i64 k, .int .i64 n, .string s, .bool b, .int .i64 c] 25)).alloc (by simp) (.cells #[.int .i64 k', .int .i64 n', .string s', .bool b', .int .i64 c'] 25)).alloc (by simp; omega) (.cells #[.int .i64 l, .int .i64 m, .string t, .bool d, .int .i64 g] 25))
  go_enter Tryd.func7, Tryd.ntmps7
  go_wp2_with fail
  refine (H1.out _).mono ?_
  rintro e w1 ⟨rfl, hb⟩
  have HA := hide (HA.out.below hb)
  have HQ := hide (HQ.out.below hb)
  have HR := hide (HR.out.below hb)
  have HB := hide (HB.out.trans (hb.mono HB.out.size))
  clear hb
  obtain ⟨al, a0, a1, a2, a3, a4⟩ := HA.out
  obtain ⟨zl, z0, z1, z2, z3, z4⟩ := HQ.out
  obtain ⟨yl, y0, y1, y2, y3, y4⟩ := HR.out
  go_wp2_with fail
  refine (H2.out _).mono ?_
  rintro e w2 ⟨rfl, hb⟩
  have HA := hide (HA.out.below hb)
  have HQ := hide (HQ.out.below hb)
  have HR := hide (HR.out.below hb)
  have HB := hide (HB.out.trans (hb.mono HB.out.size))
  clear hb al a0 a1 a2 a3 a4 zl z0 z1 z2 z3 z4 yl y0 y1 y2 y3 y4
  obtain ⟨al, a0, a1, a2, a3, a4⟩ := HA.out
  obtain ⟨zl, z0, z1, z2, z3, z4⟩ := HQ.out
  obtain ⟨yl, y0, y1, y2, y3, y4⟩ := HR.out
  go_wp2_with fail
  refine (lives4_any _ (HE.out.below HB.out)).mono ?_
  rintro e wl ⟨rfl, hb⟩
  have HA := hide (HA.out.below hb)
  have HQ := hide (HQ.out.below hb)
  have HR := hide (HR.out.below hb)
  have HB := hide (HB.out.trans (hb.mono HB.out.size))
  clear hb al a0 a1 a2 a3 a4 zl z0 z1 z2 z3 z4 yl y0 y1 y2 y3 y4
  obtain ⟨al, a0, a1, a2, a3, a4⟩ := HA.out
  obtain ⟨zl, z0, z1, z2, z3, z4⟩ := HQ.out
  obtain ⟨yl, y0, y1, y2, y3, y4⟩ := HR.out
  go_wp2
  go_ret
  exact ⟨rfl, HB.out⟩
set_option maxRecDepth 100000 in
set_option maxHeartbeats 4000000 in
theorem order_no3 (k n : Int) (s : ByteArray) (b : Bool) (c : Int) (k' n' : Int) (s' : ByteArray) (b' : Bool) (c' : Int) (l m : Int) (t : ByteArray) (d : Bool) (g : Int) (w : World) (he : Env w) (H1 : Hid (∀ W : World, Calls Tryd.prog 28 #[.agg #[.int .i64 k, .int .i64 n, .string s, .bool b, .int .i64 c]] W fun e w' => e = .returned (.bool true) ∧ Below W.heap.size W w')) (H2 : Hid (∀ W : World, Calls Tryd.prog 28 #[.agg #[.int .i64 k', .int .i64 n', .string s', .bool b', .int .i64 c']] W fun e w' => e = .returned (.bool true) ∧ Below W.heap.size W w')) (H3 : Hid (∀ W : World, Calls Tryd.prog 28 #[.agg #[.int .i64 l, .int .i64 m, .string t, .bool d, .int .i64 g]] W fun e w' => e = .returned (.bool false) ∧ Below W.heap.size W w')) :
    Calls Tryd.prog 7 #[.agg #[.int .i64 k, .int .i64 n, .string s, .bool b, .int .i64 c], .agg #[.int .i64 k', .int .i64 n', .string s', .bool b', .int .i64 c'], .agg #[.int .i64 l, .int .i64 m, .string t, .bool d, .int .i64 g]] w fun e w' => e = .returned (.bool true) ∧ Below w.heap.size w w' := by
  have HE := hide he
  clear he
  have HA := hide (((AtV.at w w.heap.size k n s b c 25 rfl).alloc (.cells #[.int .i64 k', .int .i64 n', .string s', .bool b', .int .i64 c'] 25)).alloc (.cells #[.int .i64 l, .int .i64 m, .string t, .bool d, .int .i64 g] 25))
  have HQ := hide ((AtV.at (w.alloc (.cells #[.int .i64 k, .int .i64 n, .string s, .bool b, .int .i64 c] 25)) (w.heap.size + 1) k' n' s' b' c' 25 (by simp)).alloc (.cells #[.int .i64 l, .int .i64 m, .string t, .bool d, .int .i64 g] 25))
  have HR := hide (AtV.at ((w.alloc (.cells #[.int .i64 k, .int .i64 n, .string s, .bool b, .int .i64 c] 25)).alloc (.cells #[.int .i64 k', .int .i64 n', .string s', .bool b', .int .i64 c'] 25)) (w.heap.size + 2) l m t d g 25 (by simp))
  have HB := hide ((((Below.refl w.heap.size w).alloc (Nat.le_refl _) (.cells #[.int .i64 k, .int .i64 n, .string s, .bool b, .int .i64 c] 25)).alloc (by simp) (.cells #[.int .i64 k', .int .i64 n', .string s', .bool b', .int .i64 c'] 25)).alloc (by simp; omega) (.cells #[.int .i64 l, .int .i64 m, .string t, .bool d, .int .i64 g] 25))
  go_enter Tryd.func7, Tryd.ntmps7
  go_wp2_with fail
  refine (H1.out _).mono ?_
  rintro e w1 ⟨rfl, hb⟩
  have HA := hide (HA.out.below hb)
  have HQ := hide (HQ.out.below hb)
  have HR := hide (HR.out.below hb)
  have HB := hide (HB.out.trans (hb.mono HB.out.size))
  clear hb
  obtain ⟨al, a0, a1, a2, a3, a4⟩ := HA.out
  obtain ⟨zl, z0, z1, z2, z3, z4⟩ := HQ.out
  obtain ⟨yl, y0, y1, y2, y3, y4⟩ := HR.out
  go_wp2_with fail
  refine (H2.out _).mono ?_
  rintro e w2 ⟨rfl, hb⟩
  have HA := hide (HA.out.below hb)
  have HQ := hide (HQ.out.below hb)
  have HR := hide (HR.out.below hb)
  have HB := hide (HB.out.trans (hb.mono HB.out.size))
  clear hb al a0 a1 a2 a3 a4 zl z0 z1 z2 z3 z4 yl y0 y1 y2 y3 y4
  obtain ⟨al, a0, a1, a2, a3, a4⟩ := HA.out
  obtain ⟨zl, z0, z1, z2, z3, z4⟩ := HQ.out
  obtain ⟨yl, y0, y1, y2, y3, y4⟩ := HR.out
  go_wp2_with fail
  refine (H3.out _).mono ?_
  rintro e w3 ⟨rfl, hb⟩
  have HA := hide (HA.out.below hb)
  have HQ := hide (HQ.out.below hb)
  have HR := hide (HR.out.below hb)
  have HB := hide (HB.out.trans (hb.mono HB.out.size))
  clear hb al a0 a1 a2 a3 a4 zl z0 z1 z2 z3 z4 yl y0 y1 y2 y3 y4
  obtain ⟨al, a0, a1, a2, a3, a4⟩ := HA.out
  obtain ⟨zl, z0, z1, z2, z3, z4⟩ := HQ.out
  obtain ⟨yl, y0, y1, y2, y3, y4⟩ := HR.out
  go_wp2_with fail
  refine (lives4_any _ (HE.out.below HB.out)).mono ?_
  rintro e wl ⟨rfl, hb⟩
  have HA := hide (HA.out.below hb)
  have HQ := hide (HQ.out.below hb)
  have HR := hide (HR.out.below hb)
  have HB := hide (HB.out.trans (hb.mono HB.out.size))
  clear hb al a0 a1 a2 a3 a4 zl z0 z1 z2 z3 z4 yl y0 y1 y2 y3 y4
  obtain ⟨al, a0, a1, a2, a3, a4⟩ := HA.out
  obtain ⟨zl, z0, z1, z2, z3, z4⟩ := HQ.out
  obtain ⟨yl, y0, y1, y2, y3, y4⟩ := HR.out
  go_wp2
  go_ret
  exact ⟨rfl, HB.out⟩
set_option maxRecDepth 100000 in
set_option maxHeartbeats 8000000 in
theorem order_yes (k n : Int) (s : ByteArray) (b : Bool) (c : Int) (k' n' : Int) (s' : ByteArray) (b' : Bool) (c' : Int) (l m : Int) (t : ByteArray) (d : Bool) (g : Int) (p q r v : Int) (al : Bool) (w : World) (he : Env w) (h : (p = 1 ∧ q = -1 ∧ al = false) ∨ (p = 0 ∧ q = 0 ∧ al = true ∧ r = 1) ∨ (p = 0 ∧ q = 0 ∧ al = true ∧ r = 0 ∧ v = 0) ∨ (p = 0 ∧ q = 0 ∧ al = true ∧ r = -1 ∧ v = -1) ∨ (p = -1 ∧ q = 1 ∧ al = false ∧ r = 1) ∨ (p = -1 ∧ q = 1 ∧ al = false ∧ r = 0 ∧ v = -1) ∨ (p = -1 ∧ q = 1 ∧ al = false ∧ r = -1 ∧ v = -1)) (H1 : Hid (∀ W : World, Calls Tryd.prog 28 #[.agg #[.int .i64 k, .int .i64 n, .string s, .bool b, .int .i64 c]] W fun e w' => e = .returned (.bool true) ∧ Below W.heap.size W w')) (H2 : Hid (∀ W : World, Calls Tryd.prog 28 #[.agg #[.int .i64 k', .int .i64 n', .string s', .bool b', .int .i64 c']] W fun e w' => e = .returned (.bool true) ∧ Below W.heap.size W w')) (H3 : Hid (∀ W : World, Calls Tryd.prog 28 #[.agg #[.int .i64 l, .int .i64 m, .string t, .bool d, .int .i64 g]] W fun e w' => e = .returned (.bool true) ∧ Below W.heap.size W w')) (H4 : Hid (∀ W : World, Calls Tryd.prog 18 #[.agg #[.int .i64 k, .int .i64 n, .string s, .bool b, .int .i64 c], .agg #[.int .i64 k', .int .i64 n', .string s', .bool b', .int .i64 c']] W fun e w' => e = .returned (.tuple #[.int .i64 p, .int .i64 0]) ∧ Below W.heap.size W w')) (H5 : Hid (∀ W : World, Calls Tryd.prog 18 #[.agg #[.int .i64 k', .int .i64 n', .string s', .bool b', .int .i64 c'], .agg #[.int .i64 k, .int .i64 n, .string s, .bool b, .int .i64 c]] W fun e w' => e = .returned (.tuple #[.int .i64 q, .int .i64 0]) ∧ Below W.heap.size W w')) (H6 : Hid (∀ W : World, Calls Tryd.prog 18 #[.agg #[.int .i64 k', .int .i64 n', .string s', .bool b', .int .i64 c'], .agg #[.int .i64 l, .int .i64 m, .string t, .bool d, .int .i64 g]] W fun e w' => e = .returned (.tuple #[.int .i64 r, .int .i64 0]) ∧ Below W.heap.size W w')) (H7 : Hid (∀ W : World, Calls Tryd.prog 18 #[.agg #[.int .i64 k, .int .i64 n, .string s, .bool b, .int .i64 c], .agg #[.int .i64 l, .int .i64 m, .string t, .bool d, .int .i64 g]] W fun e w' => e = .returned (.tuple #[.int .i64 v, .int .i64 0]) ∧ Below W.heap.size W w')) (H8 : Hid (∀ W : World, Calls Tryd.prog 20 #[.agg #[.int .i64 k, .int .i64 n, .string s, .bool b, .int .i64 c], .agg #[.int .i64 k', .int .i64 n', .string s', .bool b', .int .i64 c']] W fun e w' => e = .returned (.bool al) ∧ Below W.heap.size W w')) :
    Calls Tryd.prog 7 #[.agg #[.int .i64 k, .int .i64 n, .string s, .bool b, .int .i64 c], .agg #[.int .i64 k', .int .i64 n', .string s', .bool b', .int .i64 c'], .agg #[.int .i64 l, .int .i64 m, .string t, .bool d, .int .i64 g]] w fun e w' => e = .returned (.bool true) ∧ Below w.heap.size w w' := by
  have HE := hide he
  clear he
  rcases h with ⟨rfl, rfl, rfl⟩ | ⟨rfl, rfl, rfl, rfl⟩ | ⟨rfl, rfl, rfl, rfl, rfl⟩ | ⟨rfl, rfl, rfl, rfl, rfl⟩ | ⟨rfl, rfl, rfl, rfl⟩ | ⟨rfl, rfl, rfl, rfl, rfl⟩ | ⟨rfl, rfl, rfl, rfl, rfl⟩
  all_goals
    have HA := hide (((AtV.at w w.heap.size k n s b c 25 rfl).alloc (.cells #[.int .i64 k', .int .i64 n', .string s', .bool b', .int .i64 c'] 25)).alloc (.cells #[.int .i64 l, .int .i64 m, .string t, .bool d, .int .i64 g] 25))
    have HQ := hide ((AtV.at (w.alloc (.cells #[.int .i64 k, .int .i64 n, .string s, .bool b, .int .i64 c] 25)) (w.heap.size + 1) k' n' s' b' c' 25 (by simp)).alloc (.cells #[.int .i64 l, .int .i64 m, .string t, .bool d, .int .i64 g] 25))
    have HR := hide (AtV.at ((w.alloc (.cells #[.int .i64 k, .int .i64 n, .string s, .bool b, .int .i64 c] 25)).alloc (.cells #[.int .i64 k', .int .i64 n', .string s', .bool b', .int .i64 c'] 25)) (w.heap.size + 2) l m t d g 25 (by simp))
    have HB := hide ((((Below.refl w.heap.size w).alloc (Nat.le_refl _) (.cells #[.int .i64 k, .int .i64 n, .string s, .bool b, .int .i64 c] 25)).alloc (by simp) (.cells #[.int .i64 k', .int .i64 n', .string s', .bool b', .int .i64 c'] 25)).alloc (by simp; omega) (.cells #[.int .i64 l, .int .i64 m, .string t, .bool d, .int .i64 g] 25))
    go_enter Tryd.func7, Tryd.ntmps7
    go_wp2_with fail
    refine (H1.out _).mono ?_
    rintro e w1 ⟨rfl, hb⟩
    have HA := hide (HA.out.below hb)
    have HQ := hide (HQ.out.below hb)
    have HR := hide (HR.out.below hb)
    have HB := hide (HB.out.trans (hb.mono HB.out.size))
    clear hb
    obtain ⟨al, a0, a1, a2, a3, a4⟩ := HA.out
    obtain ⟨zl, z0, z1, z2, z3, z4⟩ := HQ.out
    obtain ⟨yl, y0, y1, y2, y3, y4⟩ := HR.out
    go_wp2_with fail
    refine (H2.out _).mono ?_
    rintro e w2 ⟨rfl, hb⟩
    have HA := hide (HA.out.below hb)
    have HQ := hide (HQ.out.below hb)
    have HR := hide (HR.out.below hb)
    have HB := hide (HB.out.trans (hb.mono HB.out.size))
    clear hb al a0 a1 a2 a3 a4 zl z0 z1 z2 z3 z4 yl y0 y1 y2 y3 y4
    obtain ⟨al, a0, a1, a2, a3, a4⟩ := HA.out
    obtain ⟨zl, z0, z1, z2, z3, z4⟩ := HQ.out
    obtain ⟨yl, y0, y1, y2, y3, y4⟩ := HR.out
    go_wp2_with fail
    refine (H3.out _).mono ?_
    rintro e w3 ⟨rfl, hb⟩
    have HA := hide (HA.out.below hb)
    have HQ := hide (HQ.out.below hb)
    have HR := hide (HR.out.below hb)
    have HB := hide (HB.out.trans (hb.mono HB.out.size))
    clear hb al a0 a1 a2 a3 a4 zl z0 z1 z2 z3 z4 yl y0 y1 y2 y3 y4
    obtain ⟨al, a0, a1, a2, a3, a4⟩ := HA.out
    obtain ⟨zl, z0, z1, z2, z3, z4⟩ := HQ.out
    obtain ⟨yl, y0, y1, y2, y3, y4⟩ := HR.out
    go_wp2_with fail
    refine (H4.out _).mono ?_
    rintro e w4 ⟨rfl, hb⟩
    have HA := hide (HA.out.below hb)
    have HQ := hide (HQ.out.below hb)
    have HR := hide (HR.out.below hb)
    have HB := hide (HB.out.trans (hb.mono HB.out.size))
    clear hb al a0 a1 a2 a3 a4 zl z0 z1 z2 z3 z4 yl y0 y1 y2 y3 y4
    obtain ⟨al, a0, a1, a2, a3, a4⟩ := HA.out
    obtain ⟨zl, z0, z1, z2, z3, z4⟩ := HQ.out
    obtain ⟨yl, y0, y1, y2, y3, y4⟩ := HR.out
    go_wp2_with fail
    refine (H5.out _).mono ?_
    rintro e w5 ⟨rfl, hb⟩
    have HA := hide (HA.out.below hb)
    have HQ := hide (HQ.out.below hb)
    have HR := hide (HR.out.below hb)
    have HB := hide (HB.out.trans (hb.mono HB.out.size))
    clear hb al a0 a1 a2 a3 a4 zl z0 z1 z2 z3 z4 yl y0 y1 y2 y3 y4
    obtain ⟨al, a0, a1, a2, a3, a4⟩ := HA.out
    obtain ⟨zl, z0, z1, z2, z3, z4⟩ := HQ.out
    obtain ⟨yl, y0, y1, y2, y3, y4⟩ := HR.out
    go_wp2_with fail
    refine (H6.out _).mono ?_
    rintro e w6 ⟨rfl, hb⟩
    have HA := hide (HA.out.below hb)
    have HQ := hide (HQ.out.below hb)
    have HR := hide (HR.out.below hb)
    have HB := hide (HB.out.trans (hb.mono HB.out.size))
    clear hb al a0 a1 a2 a3 a4 zl z0 z1 z2 z3 z4 yl y0 y1 y2 y3 y4
    obtain ⟨al, a0, a1, a2, a3, a4⟩ := HA.out
    obtain ⟨zl, z0, z1, z2, z3, z4⟩ := HQ.out
    obtain ⟨yl, y0, y1, y2, y3, y4⟩ := HR.out
    go_wp2_with fail
    refine (H7.out _).mono ?_
    rintro e w7 ⟨rfl, hb⟩
    have HA := hide (HA.out.below hb)
    have HQ := hide (HQ.out.below hb)
    have HR := hide (HR.out.below hb)
    have HB := hide (HB.out.trans (hb.mono HB.out.size))
    clear hb al a0 a1 a2 a3 a4 zl z0 z1 z2 z3 z4 yl y0 y1 y2 y3 y4
    obtain ⟨al, a0, a1, a2, a3, a4⟩ := HA.out
    obtain ⟨zl, z0, z1, z2, z3, z4⟩ := HQ.out
    obtain ⟨yl, y0, y1, y2, y3, y4⟩ := HR.out
    go_wp2_with fail
    refine (H8.out _).mono ?_
    rintro e w8 ⟨rfl, hb⟩
    have HA := hide (HA.out.below hb)
    have HQ := hide (HQ.out.below hb)
    have HR := hide (HR.out.below hb)
    have HB := hide (HB.out.trans (hb.mono HB.out.size))
    clear hb al a0 a1 a2 a3 a4 zl z0 z1 z2 z3 z4 yl y0 y1 y2 y3 y4
    obtain ⟨al, a0, a1, a2, a3, a4⟩ := HA.out
    obtain ⟨zl, z0, z1, z2, z3, z4⟩ := HQ.out
    obtain ⟨yl, y0, y1, y2, y3, y4⟩ := HR.out
    go_wp2_with fail
    refine (lives4_any _ (HE.out.below HB.out)).mono ?_
    rintro e wl ⟨rfl, hb⟩
    have HA := hide (HA.out.below hb)
    have HQ := hide (HQ.out.below hb)
    have HR := hide (HR.out.below hb)
    have HB := hide (HB.out.trans (hb.mono HB.out.size))
    clear hb al a0 a1 a2 a3 a4 zl z0 z1 z2 z3 z4 yl y0 y1 y2 y3 y4
    obtain ⟨al, a0, a1, a2, a3, a4⟩ := HA.out
    obtain ⟨zl, z0, z1, z2, z3, z4⟩ := HQ.out
    obtain ⟨yl, y0, y1, y2, y3, y4⟩ := HR.out
    go_wp2
    go_ret
    exact ⟨rfl, HB.out⟩
theorem valueOrder_walk (k n : Int) (s : ByteArray) (b : Bool) (c : Int) (k' n' : Int) (s' : ByteArray) (b' : Bool) (c' : Int) (l m : Int) (t : ByteArray) (d : Bool) (g : Int) (w : World) (he : Env w) (hz : s.size ≤ maxLen) (hz' : s'.size ≤ maxLen) (hy : t.size ≤ maxLen) :
    Calls Tryd.prog 7 #[.agg #[.int .i64 k, .int .i64 n, .string s, .bool b, .int .i64 c], .agg #[.int .i64 k', .int .i64 n', .string s', .bool b', .int .i64 c'], .agg #[.int .i64 l, .int .i64 m, .string t, .bool d, .int .i64 g]] w fun e w' => e = .returned (.bool true) ∧ Below w.heap.size w w' := by
  cases h1 : plainB k n s b c
  · exact order_no1 k n s b c k' n' s' b' c' l m t d g w he (fun W => by have := plain_any k n s b c W hz; rw [h1] at this; exact this)
  · have H1 : Hid (∀ W : World, Calls Tryd.prog 28 #[.agg #[.int .i64 k, .int .i64 n, .string s, .bool b, .int .i64 c]] W fun e w' => e = .returned (.bool true) ∧ Below W.heap.size W w') := fun W => by have := plain_any k n s b c W hz; rw [h1] at this; exact this
    cases h2 : plainB k' n' s' b' c'
    · exact order_no2 k n s b c k' n' s' b' c' l m t d g w he H1 (fun W => by have := plain_any k' n' s' b' c' W hz'; rw [h2] at this; exact this)
    · have H2 : Hid (∀ W : World, Calls Tryd.prog 28 #[.agg #[.int .i64 k', .int .i64 n', .string s', .bool b', .int .i64 c']] W fun e w' => e = .returned (.bool true) ∧ Below W.heap.size W w') := fun W => by have := plain_any k' n' s' b' c' W hz'; rw [h2] at this; exact this
      cases h3 : plainB l m t d g
      · exact order_no3 k n s b c k' n' s' b' c' l m t d g w he H1 H2 (fun W => by have := plain_any l m t d g W hy; rw [h3] at this; exact this)
      · have H3 : Hid (∀ W : World, Calls Tryd.prog 28 #[.agg #[.int .i64 l, .int .i64 m, .string t, .bool d, .int .i64 g]] W fun e w' => e = .returned (.bool true) ∧ Below W.heap.size W w') := fun W => by have := plain_any l m t d g W hy; rw [h3] at this; exact this
        exact order_yes k n s b c k' n' s' b' c' l m t d g (ordV k n s b k' n' s' b') (ordV k' n' s' b' k n s b) (ordV k' n' s' b' l m t d) (ordV k n s b l m t d) (decide (ordV k n s b k' n' s' b' = 0)) w he
          (order_ways _ _ _ _ _ (ordV_turn _ _ _ _ _ _ _ _) (ordV_one _ _ _ _ _ _ _ _) (ordV_one _ _ _ _ _ _ _ _) (ordV_one _ _ _ _ _ _ _ _) rfl (ordV_stands _ _ _ _ _ _ _ _ _ _ _ _))
          H1 H2 H3
          (fun W => by have := compareV_any k n s b c k' n' s' b' c' W hz hz'; rw [compare_plain h1 h2] at this; exact this)
          (fun W => by have := compareV_any k' n' s' b' c' k n s b c W hz' hz; rw [compare_plain h2 h1] at this; exact this)
          (fun W => by have := compareV_any k' n' s' b' c' l m t d g W hz' hy; rw [compare_plain h2 h3] at this; exact this)
          (fun W => by have := compareV_any k n s b c l m t d g W hz hy; rw [compare_plain h1 h3] at this; exact this)
          (fun W => by have := alikeV_any k n s b c k' n' s' b' c' W hz hz'; rw [alike_plain h1 h2] at this; exact this)
end Go.Proofs.YtaokibkeoomfjaaDoor
