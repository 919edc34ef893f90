/-
  The walk of ValueBlank: for every value it returns true.
-/
import Derived.Test.YtaokibkeoomfjabDoorLives5
import Derived.Test.YtaokibkeoomfjabDoorBlankMath
namespace Go.Proofs.YtaokibkeoomfjabDoor
open Go.RowKit

set_option maxRecDepth 100000 in
set_option maxHeartbeats 4000000 in
theorem blank_no (k n : Int) (s : ByteArray) (b : Bool) (c : Int) (x y : Int) (w : World) (he : Env w) (H1 : Hid (∀ W : World, Calls Tryd.prog 7 #[.agg #[.int .i64 0, .int .i64 0, .string ⟨#[]⟩, .bool false, .int .i64 0], .agg #[.int .i64 k, .int .i64 n, .string s, .bool b, .int .i64 c]] W fun e w' => e = .returned (.tuple #[.int .i64 x, .int .i64 2]) ∧ Below W.heap.size W w')) (H2 : Hid (∀ W : World, Calls Tryd.prog 7 #[.agg #[.int .i64 k, .int .i64 n, .string s, .bool b, .int .i64 c], .agg #[.int .i64 0, .int .i64 0, .string ⟨#[]⟩, .bool false, .int .i64 0]] W fun e w' => e = .returned (.tuple #[.int .i64 y, .int .i64 2]) ∧ Below W.heap.size W w')) (H3 : Hid (∀ W : World, Calls Tryd.prog 11 #[.agg #[.int .i64 k, .int .i64 n, .string s, .bool b, .int .i64 c]] W fun e w' => e = .returned (.int .i64 2) ∧ Below W.heap.size W w')) :
    Calls Tryd.prog 4 #[.agg #[.int .i64 k, .int .i64 n, .string s, .bool b, .int .i64 c]] w fun e w' => e = .returned (.bool true) ∧ Below w.heap.size w w' := by
  have HE := hide he
  clear he
  have HS := hide (BoxS.new w k n s b c 29)
  go_enter Tryd.func4, Tryd.ntmps4
  go_wp2_with fail
  refine (H1.out _).mono ?_
  rintro e w1 ⟨rfl, hb⟩
  have HS := hide (BoxS.below HS.out hb)
  clear hb
  obtain ⟨q0, q1, q2, q3, q4, q5, q6⟩ := HS.out
  go_wp2_with fail
  refine (H2.out _).mono ?_
  rintro e w2 ⟨rfl, hb⟩
  have HS := hide (BoxS.below HS.out hb)
  clear hb q0 q1 q2 q3 q4 q5 q6
  obtain ⟨q0, q1, q2, q3, q4, q5, q6⟩ := HS.out
  go_wp2_with fail
  refine (H3.out _).mono ?_
  rintro e w3 ⟨rfl, hb⟩
  have HS := hide (BoxS.below HS.out hb)
  clear hb q0 q1 q2 q3 q4 q5 q6
  obtain ⟨q0, q1, q2, q3, q4, q5, q6⟩ := HS.out
  go_wp2_with fail
  refine (lives4_any _ (HE.out.below (BoxS.out HS.out))).mono ?_
  rintro e w4 ⟨rfl, hb⟩
  have HS := hide (BoxS.below HS.out hb)
  clear hb q0 q1 q2 q3 q4 q5 q6
  obtain ⟨q0, q1, q2, q3, q4, q5, q6⟩ := HS.out
  go_wp2
  go_ret
  exact ⟨rfl, BoxS.out HS.out⟩
set_option maxRecDepth 100000 in
set_option maxHeartbeats 4000000 in
theorem blank_0 (w : World) (he : Env w) (H1 : Hid (∀ W : World, Calls Tryd.prog 7 #[.agg #[.int .i64 0, .int .i64 0, .string ⟨#[]⟩, .bool false, .int .i64 0], .agg #[.int .i64 0, .int .i64 0, .string ⟨#[]⟩, .bool false, .int .i64 0]] W fun e w' => e = .returned (.tuple #[.int .i64 0, .int .i64 0]) ∧ Below W.heap.size W w')) (H2 : Hid (∀ W : World, Calls Tryd.prog 7 #[.agg #[.int .i64 0, .int .i64 0, .string ⟨#[]⟩, .bool false, .int .i64 0], .agg #[.int .i64 0, .int .i64 0, .string ⟨#[]⟩, .bool false, .int .i64 0]] W fun e w' => e = .returned (.tuple #[.int .i64 0, .int .i64 0]) ∧ Below W.heap.size W w')) (H3 : Hid (∀ W : World, Calls Tryd.prog 11 #[.agg #[.int .i64 0, .int .i64 0, .string ⟨#[]⟩, .bool false, .int .i64 0]] W fun e w' => e = .returned (.int .i64 0) ∧ Below W.heap.size W w')) :
    Calls Tryd.prog 4 #[.agg #[.int .i64 0, .int .i64 0, .string ⟨#[]⟩, .bool false, .int .i64 0]] w fun e w' => e = .returned (.bool true) ∧ Below w.heap.size w w' := by
  have HE := hide he
  clear he
  have HS := hide (BoxS.new w 0 0 ⟨#[]⟩ false 0 29)
  go_enter Tryd.func4, Tryd.ntmps4
  go_wp2_with fail
  refine (H1.out _).mono ?_
  rintro e w1 ⟨rfl, hb⟩
  have HS := hide (BoxS.below HS.out hb)
  clear hb
  obtain ⟨q0, q1, q2, q3, q4, q5, q6⟩ := HS.out
  go_wp2_with fail
  refine (H2.out _).mono ?_
  rintro e w2 ⟨rfl, hb⟩
  have HS := hide (BoxS.below HS.out hb)
  clear hb q0 q1 q2 q3 q4 q5 q6
  obtain ⟨q0, q1, q2, q3, q4, q5, q6⟩ := HS.out
  go_wp2_with fail
  refine (H3.out _).mono ?_
  rintro e w3 ⟨rfl, hb⟩
  have HS := hide (BoxS.below HS.out hb)
  clear hb q0 q1 q2 q3 q4 q5 q6
  obtain ⟨q0, q1, q2, q3, q4, q5, q6⟩ := HS.out
  go_wp2_with fail
  refine (lives4_any _ (HE.out.below (BoxS.out HS.out))).mono ?_
  rintro e w4 ⟨rfl, hb⟩
  have HS := hide (BoxS.below HS.out hb)
  clear hb q0 q1 q2 q3 q4 q5 q6
  obtain ⟨q0, q1, q2, q3, q4, q5, q6⟩ := HS.out
  go_wp2
  go_ret
  exact ⟨rfl, BoxS.out HS.out⟩
set_option maxRecDepth 100000 in
set_option maxHeartbeats 4000000 in
theorem blank_1n (n : Int) (w : World) (he : Env w) (n1 : -1000000000000000000 ≤ n) (hn : n < 0) (H1 : Hid (∀ W : World, Calls Tryd.prog 7 #[.agg #[.int .i64 0, .int .i64 0, .string ⟨#[]⟩, .bool false, .int .i64 0], .agg #[.int .i64 1, .int .i64 n, .string ⟨#[]⟩, .bool false, .int .i64 0]] W fun e w' => e = .returned (.tuple #[.int .i64 1, .int .i64 0]) ∧ Below W.heap.size W w')) (H2 : Hid (∀ W : World, Calls Tryd.prog 7 #[.agg #[.int .i64 1, .int .i64 n, .string ⟨#[]⟩, .bool false, .int .i64 0], .agg #[.int .i64 0, .int .i64 0, .string ⟨#[]⟩, .bool false, .int .i64 0]] W fun e w' => e = .returned (.tuple #[.int .i64 (-1), .int .i64 0]) ∧ Below W.heap.size W w')) (H3 : Hid (∀ W : World, Calls Tryd.prog 11 #[.agg #[.int .i64 1, .int .i64 n, .string ⟨#[]⟩, .bool false, .int .i64 0]] W fun e w' => e = .returned (.int .i64 0) ∧ Below W.heap.size W w')) :
    Calls Tryd.prog 4 #[.agg #[.int .i64 1, .int .i64 n, .string ⟨#[]⟩, .bool false, .int .i64 0]] w fun e w' => e = .returned (.bool true) ∧ Below w.heap.size w w' := by
  have HE := hide he
  clear he
  have m1 : max (-1) (-n) = -n := by omega
  have m2 : min 1 (-n) = 1 := by omega
  have HS := hide (BoxS.new w 1 n ⟨#[]⟩ false 0 29)
  go_enter Tryd.func4, Tryd.ntmps4
  go_wp2_with fail
  refine (H1.out _).mono ?_
  rintro e w1 ⟨rfl, hb⟩
  have HS := hide (BoxS.below HS.out hb)
  clear hb
  obtain ⟨q0, q1, q2, q3, q4, q5, q6⟩ := HS.out
  go_wp2_with fail
  refine (H2.out _).mono ?_
  rintro e w2 ⟨rfl, hb⟩
  have HS := hide (BoxS.below HS.out hb)
  clear hb q0 q1 q2 q3 q4 q5 q6
  obtain ⟨q0, q1, q2, q3, q4, q5, q6⟩ := HS.out
  go_wp2_with fail
  refine (H3.out _).mono ?_
  rintro e w3 ⟨rfl, hb⟩
  have HS := hide (BoxS.below HS.out hb)
  clear hb q0 q1 q2 q3 q4 q5 q6
  obtain ⟨q0, q1, q2, q3, q4, q5, q6⟩ := HS.out
  go_wp2_with fail
  refine (lives4_any _ (HE.out.below (BoxS.out HS.out))).mono ?_
  rintro e w4 ⟨rfl, hb⟩
  have HS := hide (BoxS.below HS.out hb)
  clear hb q0 q1 q2 q3 q4 q5 q6
  obtain ⟨q0, q1, q2, q3, q4, q5, q6⟩ := HS.out
  go_wp2
  go_ret
  exact ⟨rfl, BoxS.out HS.out⟩
set_option maxRecDepth 100000 in
set_option maxHeartbeats 4000000 in
theorem blank_1z (w : World) (he : Env w) (H1 : Hid (∀ W : World, Calls Tryd.prog 7 #[.agg #[.int .i64 0, .int .i64 0, .string ⟨#[]⟩, .bool false, .int .i64 0], .agg #[.int .i64 1, .int .i64 0, .string ⟨#[]⟩, .bool false, .int .i64 0]] W fun e w' => e = .returned (.tuple #[.int .i64 0, .int .i64 0]) ∧ Below W.heap.size W w')) (H2 : Hid (∀ W : World, Calls Tryd.prog 7 #[.agg #[.int .i64 1, .int .i64 0, .string ⟨#[]⟩, .bool false, .int .i64 0], .agg #[.int .i64 0, .int .i64 0, .string ⟨#[]⟩, .bool false, .int .i64 0]] W fun e w' => e = .returned (.tuple #[.int .i64 0, .int .i64 0]) ∧ Below W.heap.size W w')) (H3 : Hid (∀ W : World, Calls Tryd.prog 11 #[.agg #[.int .i64 1, .int .i64 0, .string ⟨#[]⟩, .bool false, .int .i64 0]] W fun e w' => e = .returned (.int .i64 0) ∧ Below W.heap.size W w')) :
    Calls Tryd.prog 4 #[.agg #[.int .i64 1, .int .i64 0, .string ⟨#[]⟩, .bool false, .int .i64 0]] w fun e w' => e = .returned (.bool true) ∧ Below w.heap.size w w' := by
  have HE := hide he
  clear he
  have m1 : max (-1 : Int) 0 = 0 := by decide
  have m2 : min (1 : Int) 0 = 0 := by decide
  have HS := hide (BoxS.new w 1 0 ⟨#[]⟩ false 0 29)
  go_enter Tryd.func4, Tryd.ntmps4
  go_wp2_with fail
  refine (H1.out _).mono ?_
  rintro e w1 ⟨rfl, hb⟩
  have HS := hide (BoxS.below HS.out hb)
  clear hb
  obtain ⟨q0, q1, q2, q3, q4, q5, q6⟩ := HS.out
  go_wp2_with fail
  refine (H2.out _).mono ?_
  rintro e w2 ⟨rfl, hb⟩
  have HS := hide (BoxS.below HS.out hb)
  clear hb q0 q1 q2 q3 q4 q5 q6
  obtain ⟨q0, q1, q2, q3, q4, q5, q6⟩ := HS.out
  go_wp2_with fail
  refine (H3.out _).mono ?_
  rintro e w3 ⟨rfl, hb⟩
  have HS := hide (BoxS.below HS.out hb)
  clear hb q0 q1 q2 q3 q4 q5 q6
  obtain ⟨q0, q1, q2, q3, q4, q5, q6⟩ := HS.out
  go_wp2_with fail
  refine (lives4_any _ (HE.out.below (BoxS.out HS.out))).mono ?_
  rintro e w4 ⟨rfl, hb⟩
  have HS := hide (BoxS.below HS.out hb)
  clear hb q0 q1 q2 q3 q4 q5 q6
  obtain ⟨q0, q1, q2, q3, q4, q5, q6⟩ := HS.out
  go_wp2
  go_ret
  exact ⟨rfl, BoxS.out HS.out⟩
set_option maxRecDepth 100000 in
set_option maxHeartbeats 4000000 in
theorem blank_1p (n : Int) (w : World) (he : Env w) (n1 : n ≤ 1000000000000000000) (hn : 0 < n) (H1 : Hid (∀ W : World, Calls Tryd.prog 7 #[.agg #[.int .i64 0, .int .i64 0, .string ⟨#[]⟩, .bool false, .int .i64 0], .agg #[.int .i64 1, .int .i64 n, .string ⟨#[]⟩, .bool false, .int .i64 0]] W fun e w' => e = .returned (.tuple #[.int .i64 (-1), .int .i64 0]) ∧ Below W.heap.size W w')) (H2 : Hid (∀ W : World, Calls Tryd.prog 7 #[.agg #[.int .i64 1, .int .i64 n, .string ⟨#[]⟩, .bool false, .int .i64 0], .agg #[.int .i64 0, .int .i64 0, .string ⟨#[]⟩, .bool false, .int .i64 0]] W fun e w' => e = .returned (.tuple #[.int .i64 1, .int .i64 0]) ∧ Below W.heap.size W w')) (H3 : Hid (∀ W : World, Calls Tryd.prog 11 #[.agg #[.int .i64 1, .int .i64 n, .string ⟨#[]⟩, .bool false, .int .i64 0]] W fun e w' => e = .returned (.int .i64 0) ∧ Below W.heap.size W w')) :
    Calls Tryd.prog 4 #[.agg #[.int .i64 1, .int .i64 n, .string ⟨#[]⟩, .bool false, .int .i64 0]] w fun e w' => e = .returned (.bool true) ∧ Below w.heap.size w w' := by
  have HE := hide he
  clear he
  have m1 : max (-1) (-n) = -1 := by omega
  have m2 : min (1 : Int) (-1) = -1 := by decide
  have HS := hide (BoxS.new w 1 n ⟨#[]⟩ false 0 29)
  go_enter Tryd.func4, Tryd.ntmps4
  go_wp2_with fail
  refine (H1.out _).mono ?_
  rintro e w1 ⟨rfl, hb⟩
  have HS := hide (BoxS.below HS.out hb)
  clear hb
  obtain ⟨q0, q1, q2, q3, q4, q5, q6⟩ := HS.out
  go_wp2_with fail
  refine (H2.out _).mono ?_
  rintro e w2 ⟨rfl, hb⟩
  have HS := hide (BoxS.below HS.out hb)
  clear hb q0 q1 q2 q3 q4 q5 q6
  obtain ⟨q0, q1, q2, q3, q4, q5, q6⟩ := HS.out
  go_wp2_with fail
  refine (H3.out _).mono ?_
  rintro e w3 ⟨rfl, hb⟩
  have HS := hide (BoxS.below HS.out hb)
  clear hb q0 q1 q2 q3 q4 q5 q6
  obtain ⟨q0, q1, q2, q3, q4, q5, q6⟩ := HS.out
  go_wp2_with fail
  refine (lives4_any _ (HE.out.below (BoxS.out HS.out))).mono ?_
  rintro e w4 ⟨rfl, hb⟩
  have HS := hide (BoxS.below HS.out hb)
  clear hb q0 q1 q2 q3 q4 q5 q6
  obtain ⟨q0, q1, q2, q3, q4, q5, q6⟩ := HS.out
  go_wp2
  go_ret
  exact ⟨rfl, BoxS.out HS.out⟩
set_option maxRecDepth 100000 in
set_option maxHeartbeats 4000000 in
theorem blank_2z (w : World) (he : Env w) (H1 : Hid (∀ W : World, Calls Tryd.prog 7 #[.agg #[.int .i64 0, .int .i64 0, .string ⟨#[]⟩, .bool false, .int .i64 0], .agg #[.int .i64 2, .int .i64 0, .string ⟨#[]⟩, .bool false, .int .i64 0]] W fun e w' => e = .returned (.tuple #[.int .i64 0, .int .i64 0]) ∧ Below W.heap.size W w')) (H2 : Hid (∀ W : World, Calls Tryd.prog 7 #[.agg #[.int .i64 2, .int .i64 0, .string ⟨#[]⟩, .bool false, .int .i64 0], .agg #[.int .i64 0, .int .i64 0, .string ⟨#[]⟩, .bool false, .int .i64 0]] W fun e w' => e = .returned (.tuple #[.int .i64 0, .int .i64 0]) ∧ Below W.heap.size W w')) (H3 : Hid (∀ W : World, Calls Tryd.prog 11 #[.agg #[.int .i64 2, .int .i64 0, .string ⟨#[]⟩, .bool false, .int .i64 0]] W fun e w' => e = .returned (.int .i64 0) ∧ Below W.heap.size W w')) :
    Calls Tryd.prog 4 #[.agg #[.int .i64 2, .int .i64 0, .string ⟨#[]⟩, .bool false, .int .i64 0]] w fun e w' => e = .returned (.bool true) ∧ Below w.heap.size w w' := by
  have HE := hide he
  clear he
  have m2 : min (1 : Int) 0 = 0 := by decide
  have HS := hide (BoxS.new w 2 0 ⟨#[]⟩ false 0 29)
  go_enter Tryd.func4, Tryd.ntmps4
  go_wp2_with fail
  refine (H1.out _).mono ?_
  rintro e w1 ⟨rfl, hb⟩
  have HS := hide (BoxS.below HS.out hb)
  clear hb
  obtain ⟨q0, q1, q2, q3, q4, q5, q6⟩ := HS.out
  go_wp2_with fail
  refine (H2.out _).mono ?_
  rintro e w2 ⟨rfl, hb⟩
  have HS := hide (BoxS.below HS.out hb)
  clear hb q0 q1 q2 q3 q4 q5 q6
  obtain ⟨q0, q1, q2, q3, q4, q5, q6⟩ := HS.out
  go_wp2_with fail
  refine (H3.out _).mono ?_
  rintro e w3 ⟨rfl, hb⟩
  have HS := hide (BoxS.below HS.out hb)
  clear hb q0 q1 q2 q3 q4 q5 q6
  obtain ⟨q0, q1, q2, q3, q4, q5, q6⟩ := HS.out
  go_wp2_with fail
  refine (lives4_any _ (HE.out.below (BoxS.out HS.out))).mono ?_
  rintro e w4 ⟨rfl, hb⟩
  have HS := hide (BoxS.below HS.out hb)
  clear hb q0 q1 q2 q3 q4 q5 q6
  obtain ⟨q0, q1, q2, q3, q4, q5, q6⟩ := HS.out
  go_wp2
  go_ret
  exact ⟨rfl, BoxS.out HS.out⟩
set_option maxRecDepth 100000 in
set_option maxHeartbeats 4000000 in
theorem blank_2p (s : ByteArray) (w : World) (he : Env w) (hs : (1 : Int) ≤ s.size) (hl : s.size ≤ 255) (H1 : Hid (∀ W : World, Calls Tryd.prog 7 #[.agg #[.int .i64 0, .int .i64 0, .string ⟨#[]⟩, .bool false, .int .i64 0], .agg #[.int .i64 2, .int .i64 0, .string s, .bool false, .int .i64 0]] W fun e w' => e = .returned (.tuple #[.int .i64 (-1), .int .i64 0]) ∧ Below W.heap.size W w')) (H2 : Hid (∀ W : World, Calls Tryd.prog 7 #[.agg #[.int .i64 2, .int .i64 0, .string s, .bool false, .int .i64 0], .agg #[.int .i64 0, .int .i64 0, .string ⟨#[]⟩, .bool false, .int .i64 0]] W fun e w' => e = .returned (.tuple #[.int .i64 1, .int .i64 0]) ∧ Below W.heap.size W w')) (H3 : Hid (∀ W : World, Calls Tryd.prog 11 #[.agg #[.int .i64 2, .int .i64 0, .string s, .bool false, .int .i64 0]] W fun e w' => e = .returned (.int .i64 0) ∧ Below W.heap.size W w')) :
    Calls Tryd.prog 4 #[.agg #[.int .i64 2, .int .i64 0, .string s, .bool false, .int .i64 0]] w fun e w' => e = .returned (.bool true) ∧ Below w.heap.size w w' := by
  have HE := hide he
  clear he
  have m1 : min (1 : Int) (s.size : Int) = 1 := by omega
  have HS := hide (BoxS.new w 2 0 s false 0 29)
  go_enter Tryd.func4, Tryd.ntmps4
  go_wp2_with fail
  refine (H1.out _).mono ?_
  rintro e w1 ⟨rfl, hb⟩
  have HS := hide (BoxS.below HS.out hb)
  clear hb
  obtain ⟨q0, q1, q2, q3, q4, q5, q6⟩ := HS.out
  go_wp2_with fail
  refine (H2.out _).mono ?_
  rintro e w2 ⟨rfl, hb⟩
  have HS := hide (BoxS.below HS.out hb)
  clear hb q0 q1 q2 q3 q4 q5 q6
  obtain ⟨q0, q1, q2, q3, q4, q5, q6⟩ := HS.out
  go_wp2_with fail
  refine (H3.out _).mono ?_
  rintro e w3 ⟨rfl, hb⟩
  have HS := hide (BoxS.below HS.out hb)
  clear hb q0 q1 q2 q3 q4 q5 q6
  obtain ⟨q0, q1, q2, q3, q4, q5, q6⟩ := HS.out
  go_wp2_with fail
  refine (lives4_any _ (HE.out.below (BoxS.out HS.out))).mono ?_
  rintro e w4 ⟨rfl, hb⟩
  have HS := hide (BoxS.below HS.out hb)
  clear hb q0 q1 q2 q3 q4 q5 q6
  obtain ⟨q0, q1, q2, q3, q4, q5, q6⟩ := HS.out
  go_wp2
  go_ret
  exact ⟨rfl, BoxS.out HS.out⟩
set_option maxRecDepth 100000 in
set_option maxHeartbeats 4000000 in
theorem blank_3f (w : World) (he : Env w) (H1 : Hid (∀ W : World, Calls Tryd.prog 7 #[.agg #[.int .i64 0, .int .i64 0, .string ⟨#[]⟩, .bool false, .int .i64 0], .agg #[.int .i64 3, .int .i64 0, .string ⟨#[]⟩, .bool false, .int .i64 0]] W fun e w' => e = .returned (.tuple #[.int .i64 0, .int .i64 0]) ∧ Below W.heap.size W w')) (H2 : Hid (∀ W : World, Calls Tryd.prog 7 #[.agg #[.int .i64 3, .int .i64 0, .string ⟨#[]⟩, .bool false, .int .i64 0], .agg #[.int .i64 0, .int .i64 0, .string ⟨#[]⟩, .bool false, .int .i64 0]] W fun e w' => e = .returned (.tuple #[.int .i64 0, .int .i64 0]) ∧ Below W.heap.size W w')) (H3 : Hid (∀ W : World, Calls Tryd.prog 11 #[.agg #[.int .i64 3, .int .i64 0, .string ⟨#[]⟩, .bool false, .int .i64 0]] W fun e w' => e = .returned (.int .i64 0) ∧ Below W.heap.size W w')) :
    Calls Tryd.prog 4 #[.agg #[.int .i64 3, .int .i64 0, .string ⟨#[]⟩, .bool false, .int .i64 0]] w fun e w' => e = .returned (.bool true) ∧ Below w.heap.size w w' := by
  have HE := hide he
  clear he
  have HS := hide (BoxS.new w 3 0 ⟨#[]⟩ false 0 29)
  go_enter Tryd.func4, Tryd.ntmps4
  go_wp2_with fail
  refine (H1.out _).mono ?_
  rintro e w1 ⟨rfl, hb⟩
  have HS := hide (BoxS.below HS.out hb)
  clear hb
  obtain ⟨q0, q1, q2, q3, q4, q5, q6⟩ := HS.out
  go_wp2_with fail
  refine (H2.out _).mono ?_
  rintro e w2 ⟨rfl, hb⟩
  have HS := hide (BoxS.below HS.out hb)
  clear hb q0 q1 q2 q3 q4 q5 q6
  obtain ⟨q0, q1, q2, q3, q4, q5, q6⟩ := HS.out
  go_wp2_with fail
  refine (H3.out _).mono ?_
  rintro e w3 ⟨rfl, hb⟩
  have HS := hide (BoxS.below HS.out hb)
  clear hb q0 q1 q2 q3 q4 q5 q6
  obtain ⟨q0, q1, q2, q3, q4, q5, q6⟩ := HS.out
  go_wp2_with fail
  refine (lives4_any _ (HE.out.below (BoxS.out HS.out))).mono ?_
  rintro e w4 ⟨rfl, hb⟩
  have HS := hide (BoxS.below HS.out hb)
  clear hb q0 q1 q2 q3 q4 q5 q6
  obtain ⟨q0, q1, q2, q3, q4, q5, q6⟩ := HS.out
  go_wp2
  go_ret
  exact ⟨rfl, BoxS.out HS.out⟩
set_option maxRecDepth 100000 in
set_option maxHeartbeats 4000000 in
theorem blank_3t (w : World) (he : Env w) (H1 : Hid (∀ W : World, Calls Tryd.prog 7 #[.agg #[.int .i64 0, .int .i64 0, .string ⟨#[]⟩, .bool false, .int .i64 0], .agg #[.int .i64 3, .int .i64 0, .string ⟨#[]⟩, .bool true, .int .i64 0]] W fun e w' => e = .returned (.tuple #[.int .i64 (-1), .int .i64 0]) ∧ Below W.heap.size W w')) (H2 : Hid (∀ W : World, Calls Tryd.prog 7 #[.agg #[.int .i64 3, .int .i64 0, .string ⟨#[]⟩, .bool true, .int .i64 0], .agg #[.int .i64 0, .int .i64 0, .string ⟨#[]⟩, .bool false, .int .i64 0]] W fun e w' => e = .returned (.tuple #[.int .i64 1, .int .i64 0]) ∧ Below W.heap.size W w')) (H3 : Hid (∀ W : World, Calls Tryd.prog 11 #[.agg #[.int .i64 3, .int .i64 0, .string ⟨#[]⟩, .bool true, .int .i64 0]] W fun e w' => e = .returned (.int .i64 0) ∧ Below W.heap.size W w')) :
    Calls Tryd.prog 4 #[.agg #[.int .i64 3, .int .i64 0, .string ⟨#[]⟩, .bool true, .int .i64 0]] w fun e w' => e = .returned (.bool true) ∧ Below w.heap.size w w' := by
  have HE := hide he
  clear he
  have HS := hide (BoxS.new w 3 0 ⟨#[]⟩ true 0 29)
  go_enter Tryd.func4, Tryd.ntmps4
  go_wp2_with fail
  refine (H1.out _).mono ?_
  rintro e w1 ⟨rfl, hb⟩
  have HS := hide (BoxS.below HS.out hb)
  clear hb
  obtain ⟨q0, q1, q2, q3, q4, q5, q6⟩ := HS.out
  go_wp2_with fail
  refine (H2.out _).mono ?_
  rintro e w2 ⟨rfl, hb⟩
  have HS := hide (BoxS.below HS.out hb)
  clear hb q0 q1 q2 q3 q4 q5 q6
  obtain ⟨q0, q1, q2, q3, q4, q5, q6⟩ := HS.out
  go_wp2_with fail
  refine (H3.out _).mono ?_
  rintro e w3 ⟨rfl, hb⟩
  have HS := hide (BoxS.below HS.out hb)
  clear hb q0 q1 q2 q3 q4 q5 q6
  obtain ⟨q0, q1, q2, q3, q4, q5, q6⟩ := HS.out
  go_wp2_with fail
  refine (lives4_any _ (HE.out.below (BoxS.out HS.out))).mono ?_
  rintro e w4 ⟨rfl, hb⟩
  have HS := hide (BoxS.below HS.out hb)
  clear hb q0 q1 q2 q3 q4 q5 q6
  obtain ⟨q0, q1, q2, q3, q4, q5, q6⟩ := HS.out
  go_wp2
  go_ret
  exact ⟨rfl, BoxS.out HS.out⟩
set_option maxRecDepth 100000 in
set_option maxHeartbeats 4000000 in
theorem blank_4 (c : Int) (w : World) (he : Env w) (H1 : Hid (∀ W : World, Calls Tryd.prog 7 #[.agg #[.int .i64 0, .int .i64 0, .string ⟨#[]⟩, .bool false, .int .i64 0], .agg #[.int .i64 4, .int .i64 0, .string ⟨#[]⟩, .bool false, .int .i64 c]] W fun e w' => e = .returned (.tuple #[.int .i64 0, .int .i64 c]) ∧ Below W.heap.size W w')) (H2 : Hid (∀ W : World, Calls Tryd.prog 7 #[.agg #[.int .i64 4, .int .i64 0, .string ⟨#[]⟩, .bool false, .int .i64 c], .agg #[.int .i64 0, .int .i64 0, .string ⟨#[]⟩, .bool false, .int .i64 0]] W fun e w' => e = .returned (.tuple #[.int .i64 0, .int .i64 c]) ∧ Below W.heap.size W w')) (H3 : Hid (∀ W : World, Calls Tryd.prog 11 #[.agg #[.int .i64 4, .int .i64 0, .string ⟨#[]⟩, .bool false, .int .i64 c]] W fun e w' => e = .returned (.int .i64 0) ∧ Below W.heap.size W w')) :
    Calls Tryd.prog 4 #[.agg #[.int .i64 4, .int .i64 0, .string ⟨#[]⟩, .bool false, .int .i64 c]] w fun e w' => e = .returned (.bool true) ∧ Below w.heap.size w w' := by
  have HE := hide he
  clear he
  have HS := hide (BoxS.new w 4 0 ⟨#[]⟩ false c 29)
  go_enter Tryd.func4, Tryd.ntmps4
  go_wp2_with fail
  refine (H1.out _).mono ?_
  rintro e w1 ⟨rfl, hb⟩
  have HS := hide (BoxS.below HS.out hb)
  clear hb
  obtain ⟨q0, q1, q2, q3, q4, q5, q6⟩ := HS.out
  go_wp2_with fail
  refine (H2.out _).mono ?_
  rintro e w2 ⟨rfl, hb⟩
  have HS := hide (BoxS.below HS.out hb)
  clear hb q0 q1 q2 q3 q4 q5 q6
  obtain ⟨q0, q1, q2, q3, q4, q5, q6⟩ := HS.out
  go_wp2_with fail
  refine (H3.out _).mono ?_
  rintro e w3 ⟨rfl, hb⟩
  have HS := hide (BoxS.below HS.out hb)
  clear hb q0 q1 q2 q3 q4 q5 q6
  obtain ⟨q0, q1, q2, q3, q4, q5, q6⟩ := HS.out
  go_wp2_with fail
  refine (lives4_any _ (HE.out.below (BoxS.out HS.out))).mono ?_
  rintro e w4 ⟨rfl, hb⟩
  have HS := hide (BoxS.below HS.out hb)
  clear hb q0 q1 q2 q3 q4 q5 q6
  obtain ⟨q0, q1, q2, q3, q4, q5, q6⟩ := HS.out
  go_wp2
  go_ret
  exact ⟨rfl, BoxS.out HS.out⟩
theorem valueBlank_walk (k n : Int) (s : ByteArray) (b : Bool) (c : Int) (w : World) (he : Env w) (hz : s.size ≤ maxLen) :
    Calls Tryd.prog 4 #[.agg #[.int .i64 k, .int .i64 n, .string s, .bool b, .int .i64 c]] w fun e w' => e = .returned (.bool true) ∧ Below w.heap.size w w' := by
  have H1 : Hid (∀ W : World, Calls Tryd.prog 7 #[.agg #[.int .i64 0, .int .i64 0, .string ⟨#[]⟩, .bool false, .int .i64 0], .agg #[.int .i64 k, .int .i64 n, .string s, .bool b, .int .i64 c]] W fun e w' => e = .returned (.tuple #[.int .i64 (compareV 0 0 ⟨#[]⟩ false 0 k n s b c).1, .int .i64 (compareV 0 0 ⟨#[]⟩ false 0 k n s b c).2]) ∧ Below W.heap.size W w') := fun W => compareV_any 0 0 ⟨#[]⟩ false 0 k n s b c W (by decide) hz
  have H2 : Hid (∀ W : World, Calls Tryd.prog 7 #[.agg #[.int .i64 k, .int .i64 n, .string s, .bool b, .int .i64 c], .agg #[.int .i64 0, .int .i64 0, .string ⟨#[]⟩, .bool false, .int .i64 0]] W fun e w' => e = .returned (.tuple #[.int .i64 (compareV k n s b c 0 0 ⟨#[]⟩ false 0).1, .int .i64 (compareV k n s b c 0 0 ⟨#[]⟩ false 0).2]) ∧ Below W.heap.size W w') := fun W => compareV_any k n s b c 0 0 ⟨#[]⟩ false 0 W hz (by decide)
  have H3 : Hid (∀ W : World, Calls Tryd.prog 11 #[.agg #[.int .i64 k, .int .i64 n, .string s, .bool b, .int .i64 c]] W fun e w' => e = .returned (.int .i64 (checkV k n s b c)) ∧ Below W.heap.size W w') := fun W => checkV_any k n s b c W hz
  cases hr : rightB k n s b c
  · rw [bl_no hr] at H1
    rw [bl_no' hr] at H2
    rw [show checkV k n s b c = 2 by simp [checkV, hr]] at H3
    exact blank_no k n s b c _ _ w he H1 H2 H3
  · rw [show checkV k n s b c = 0 by simp [checkV, hr]] at H3
    rcases right_cases hr with ⟨rfl, rfl, rfl, rfl, rfl⟩ | ⟨rfl, hf, rfl, rfl, rfl⟩ | ⟨rfl, rfl, hl, rfl, rfl⟩ | ⟨rfl, rfl, rfl, rfl⟩ | ⟨rfl, rfl, rfl, rfl, h1, h7⟩
    · exact blank_0 w he H1 H2 H3
    · rw [bl_num hf] at H1
      rw [bl_num' hf] at H2
      obtain ⟨n1, n2⟩ := fitsB_true hf
      by_cases a : n < 0
      · rw [show cmpI 0 n = 1 by unfold cmpI; rw [if_neg (by omega), if_pos a]] at H1
        rw [show cmpI n 0 = -1 by unfold cmpI; rw [if_pos a]] at H2
        exact blank_1n n w he n1 a H1 H2 H3
      · by_cases a' : n = 0
        · subst a'; exact blank_1z w he H1 H2 H3
        · rw [show cmpI 0 n = -1 by unfold cmpI; rw [if_pos (by omega)]] at H1
          rw [show cmpI n 0 = 1 by unfold cmpI; rw [if_neg (by omega), if_pos (by omega)]] at H2
          exact blank_1p n w he n2 (by omega) H1 H2 H3
    · rw [bl_text hl] at H1
      rw [bl_text' hl] at H2
      rcases empty_or s with rfl | ⟨hs, _⟩
      · exact blank_2z w he H1 H2 H3
      · obtain ⟨e1, e2, e3⟩ := bl_some hs
        rw [e1] at H1
        rw [e2] at H2
        exact blank_2p s w he e3 hl H1 H2 H3
    · cases b
      · exact blank_3f w he H1 H2 H3
      · exact blank_3t w he H1 H2 H3
    · rw [bl_fault h1 h7] at H1
      rw [bl_fault' h1 h7] at H2
      exact blank_4 c w he H1 H2 H3
end Go.Proofs.YtaokibkeoomfjabDoor
