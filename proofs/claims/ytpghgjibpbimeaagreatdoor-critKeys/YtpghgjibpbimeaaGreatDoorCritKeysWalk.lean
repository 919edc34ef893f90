/-
  The walk of CritKeys.
-/
import Derived.Test.YtpghgjibpbimeaaGreatDoorCk4
namespace Go.Proofs.YtpghgjibpbimeaaGreatDoor
open Go.RowKit
set_option linter.unusedSimpArgs false
set_option linter.unusedVariables false

set_option maxRecDepth 100000 in
set_option maxHeartbeats 4000000 in
theorem keys_1 {g : ByteArray} {k n : Int} {s : ByteArray} {b : Bool} {c : Int} {g' : ByteArray} {k' n' : Int} {s' : ByteArray} {b' : Bool} {c' : Int} {w : World} (T : ByteArray → Int → Int → ByteArray → Bool → Int → ByteArray) (B : ByteArray → Int → Int → ByteArray → Bool → Int → Bool)
    (hz1 : s.size ≤ maxLen) (hz2 : s'.size ≤ maxLen) (b1 : B g k n s b c = true) (b2 : B g' k' n' s' b' c' = true) (e1 : ((T g k n s b c).toList == (T g' k' n' s' b' c').toList) = true) (HS : Hid (∀ W : World, Calls Tryz.prog 6 #[.agg #[.string g, .int .i64 k, .int .i64 n, .string s, .bool b, .int .i64 c], .agg #[.string g', .int .i64 k', .int .i64 n', .string s', .bool b', .int .i64 c']] W fun e w' => e = .returned (.bool true) ∧ Below W.heap.size W w'))
    (HK : Hid (∀ (g : ByteArray) (k n : Int) (s : ByteArray) (b : Bool) (c : Int) (W : World), s.size ≤ maxLen → Below w.heap.size w W → Calls Tryz.prog 4 #[.agg #[.string g, .int .i64 k, .int .i64 n, .string s, .bool b, .int .i64 c]] W fun e w' => e = .returned (.tuple #[.string (T g k n s b c), .bool (B g k n s b c)]) ∧ Below W.heap.size W w'))
    (HD : Hid (∀ (g : ByteArray) (k n : Int) (s : ByteArray) (b : Bool) (c : Int) (W : World), s.size ≤ maxLen → Calls Tryz.prog 5 #[.agg #[.string g, .int .i64 k, .int .i64 n, .string s, .bool b, .int .i64 c]] W fun e w' => e = .returned (.bool (B g k n s b c)) ∧ Below W.heap.size W w'))
    (HL : Hid (∀ W : World, Below w.heap.size w W → Calls Tryz.prog 7 #[] W fun e w' => e = .returned (.bool true) ∧ Below W.heap.size W w')) :
    Calls Tryz.prog 3 #[.agg #[.string g, .int .i64 k, .int .i64 n, .string s, .bool b, .int .i64 c], .agg #[.string g', .int .i64 k', .int .i64 n', .string s', .bool b', .int .i64 c']] w fun e w' => e = .returned (.bool true) ∧ Below w.heap.size w w' := by
  have HN := hide (BoxCC.new w (g := g) (k := k) (n := n) (s := s) (b := b) (c := c) (g' := g') (k' := k') (n' := n') (s' := s') (b' := b') (c' := c'))
  go_enter Tryz.func3, Tryz.ntmps3
  go_wp2_with (first | (go_at_call 4; refine (HK.out _ _ _ _ _ _ _ (by assumption) (BoxCC.out HN.out)).mono ?_; rintro e wz ⟨rfl, hz⟩; replace HN := hide (BoxCC.below HN.out hz); (try clear q0 q1 q2 q3 q4 q5 q6 q7 q8 q9 q10 q11 q12 q13 q14); obtain ⟨q0, q1, q2, q3, q4, q5, q6, q7, q8, q9, q10, q11, q12, q13, q14⟩ := HN.out; clear hz) | (go_at_call 5; refine (HD.out _ _ _ _ _ _ _ (by assumption)).mono ?_; rintro e wz ⟨rfl, hz⟩; replace HN := hide (BoxCC.below HN.out hz); (try clear q0 q1 q2 q3 q4 q5 q6 q7 q8 q9 q10 q11 q12 q13 q14); obtain ⟨q0, q1, q2, q3, q4, q5, q6, q7, q8, q9, q10, q11, q12, q13, q14⟩ := HN.out; clear hz) | (go_at_call 6; refine (HS.out _).mono ?_; rintro e wz ⟨rfl, hz⟩; replace HN := hide (BoxCC.below HN.out hz); (try clear q0 q1 q2 q3 q4 q5 q6 q7 q8 q9 q10 q11 q12 q13 q14); obtain ⟨q0, q1, q2, q3, q4, q5, q6, q7, q8, q9, q10, q11, q12, q13, q14⟩ := HN.out; clear hz) | (go_at_call 7; refine (HL.out _ (BoxCC.out HN.out)).mono ?_; rintro e wz ⟨rfl, hz⟩; replace HN := hide (BoxCC.below HN.out hz); (try clear q0 q1 q2 q3 q4 q5 q6 q7 q8 q9 q10 q11 q12 q13 q14); obtain ⟨q0, q1, q2, q3, q4, q5, q6, q7, q8, q9, q10, q11, q12, q13, q14⟩ := HN.out; clear hz))
  go_ret
  exact ⟨rfl, BoxCC.out HN.out⟩
set_option maxRecDepth 100000 in
set_option maxHeartbeats 4000000 in
theorem keys_2 {g : ByteArray} {k n : Int} {s : ByteArray} {b : Bool} {c : Int} {g' : ByteArray} {k' n' : Int} {s' : ByteArray} {b' : Bool} {c' : Int} {w : World} (T : ByteArray → Int → Int → ByteArray → Bool → Int → ByteArray) (B : ByteArray → Int → Int → ByteArray → Bool → Int → Bool)
    (hz1 : s.size ≤ maxLen) (hz2 : s'.size ≤ maxLen) (b1 : B g k n s b c = true) (b2 : B g' k' n' s' b' c' = true) (e1 : ((T g k n s b c).toList == (T g' k' n' s' b' c').toList) = false) (HS : Hid (∀ W : World, Calls Tryz.prog 6 #[.agg #[.string g, .int .i64 k, .int .i64 n, .string s, .bool b, .int .i64 c], .agg #[.string g', .int .i64 k', .int .i64 n', .string s', .bool b', .int .i64 c']] W fun e w' => e = .returned (.bool false) ∧ Below W.heap.size W w'))
    (HK : Hid (∀ (g : ByteArray) (k n : Int) (s : ByteArray) (b : Bool) (c : Int) (W : World), s.size ≤ maxLen → Below w.heap.size w W → Calls Tryz.prog 4 #[.agg #[.string g, .int .i64 k, .int .i64 n, .string s, .bool b, .int .i64 c]] W fun e w' => e = .returned (.tuple #[.string (T g k n s b c), .bool (B g k n s b c)]) ∧ Below W.heap.size W w'))
    (HD : Hid (∀ (g : ByteArray) (k n : Int) (s : ByteArray) (b : Bool) (c : Int) (W : World), s.size ≤ maxLen → Calls Tryz.prog 5 #[.agg #[.string g, .int .i64 k, .int .i64 n, .string s, .bool b, .int .i64 c]] W fun e w' => e = .returned (.bool (B g k n s b c)) ∧ Below W.heap.size W w'))
    (HL : Hid (∀ W : World, Below w.heap.size w W → Calls Tryz.prog 7 #[] W fun e w' => e = .returned (.bool true) ∧ Below W.heap.size W w')) :
    Calls Tryz.prog 3 #[.agg #[.string g, .int .i64 k, .int .i64 n, .string s, .bool b, .int .i64 c], .agg #[.string g', .int .i64 k', .int .i64 n', .string s', .bool b', .int .i64 c']] w fun e w' => e = .returned (.bool true) ∧ Below w.heap.size w w' := by
  have HN := hide (BoxCC.new w (g := g) (k := k) (n := n) (s := s) (b := b) (c := c) (g' := g') (k' := k') (n' := n') (s' := s') (b' := b') (c' := c'))
  go_enter Tryz.func3, Tryz.ntmps3
  go_wp2_with (first | (go_at_call 4; refine (HK.out _ _ _ _ _ _ _ (by assumption) (BoxCC.out HN.out)).mono ?_; rintro e wz ⟨rfl, hz⟩; replace HN := hide (BoxCC.below HN.out hz); (try clear q0 q1 q2 q3 q4 q5 q6 q7 q8 q9 q10 q11 q12 q13 q14); obtain ⟨q0, q1, q2, q3, q4, q5, q6, q7, q8, q9, q10, q11, q12, q13, q14⟩ := HN.out; clear hz) | (go_at_call 5; refine (HD.out _ _ _ _ _ _ _ (by assumption)).mono ?_; rintro e wz ⟨rfl, hz⟩; replace HN := hide (BoxCC.below HN.out hz); (try clear q0 q1 q2 q3 q4 q5 q6 q7 q8 q9 q10 q11 q12 q13 q14); obtain ⟨q0, q1, q2, q3, q4, q5, q6, q7, q8, q9, q10, q11, q12, q13, q14⟩ := HN.out; clear hz) | (go_at_call 6; refine (HS.out _).mono ?_; rintro e wz ⟨rfl, hz⟩; replace HN := hide (BoxCC.below HN.out hz); (try clear q0 q1 q2 q3 q4 q5 q6 q7 q8 q9 q10 q11 q12 q13 q14); obtain ⟨q0, q1, q2, q3, q4, q5, q6, q7, q8, q9, q10, q11, q12, q13, q14⟩ := HN.out; clear hz) | (go_at_call 7; refine (HL.out _ (BoxCC.out HN.out)).mono ?_; rintro e wz ⟨rfl, hz⟩; replace HN := hide (BoxCC.below HN.out hz); (try clear q0 q1 q2 q3 q4 q5 q6 q7 q8 q9 q10 q11 q12 q13 q14); obtain ⟨q0, q1, q2, q3, q4, q5, q6, q7, q8, q9, q10, q11, q12, q13, q14⟩ := HN.out; clear hz))
  go_ret
  exact ⟨rfl, BoxCC.out HN.out⟩
set_option maxRecDepth 100000 in
set_option maxHeartbeats 4000000 in
theorem keys_3 {g : ByteArray} {k n : Int} {s : ByteArray} {b : Bool} {c : Int} {g' : ByteArray} {k' n' : Int} {s' : ByteArray} {b' : Bool} {c' : Int} {w : World} (T : ByteArray → Int → Int → ByteArray → Bool → Int → ByteArray) (B : ByteArray → Int → Int → ByteArray → Bool → Int → Bool)
    (hz1 : s.size ≤ maxLen) (hz2 : s'.size ≤ maxLen) (b1 : B g k n s b c = false) (b2 : B g' k' n' s' b' c' = true) (e0 : T g k n s b c = ⟨#[]⟩)
    (HK : Hid (∀ (g : ByteArray) (k n : Int) (s : ByteArray) (b : Bool) (c : Int) (W : World), s.size ≤ maxLen → Below w.heap.size w W → Calls Tryz.prog 4 #[.agg #[.string g, .int .i64 k, .int .i64 n, .string s, .bool b, .int .i64 c]] W fun e w' => e = .returned (.tuple #[.string (T g k n s b c), .bool (B g k n s b c)]) ∧ Below W.heap.size W w'))
    (HD : Hid (∀ (g : ByteArray) (k n : Int) (s : ByteArray) (b : Bool) (c : Int) (W : World), s.size ≤ maxLen → Calls Tryz.prog 5 #[.agg #[.string g, .int .i64 k, .int .i64 n, .string s, .bool b, .int .i64 c]] W fun e w' => e = .returned (.bool (B g k n s b c)) ∧ Below W.heap.size W w'))
    (HL : Hid (∀ W : World, Below w.heap.size w W → Calls Tryz.prog 7 #[] W fun e w' => e = .returned (.bool true) ∧ Below W.heap.size W w')) :
    Calls Tryz.prog 3 #[.agg #[.string g, .int .i64 k, .int .i64 n, .string s, .bool b, .int .i64 c], .agg #[.string g', .int .i64 k', .int .i64 n', .string s', .bool b', .int .i64 c']] w fun e w' => e = .returned (.bool true) ∧ Below w.heap.size w w' := by
  have HN := hide (BoxCC.new w (g := g) (k := k) (n := n) (s := s) (b := b) (c := c) (g' := g') (k' := k') (n' := n') (s' := s') (b' := b') (c' := c'))
  go_enter Tryz.func3, Tryz.ntmps3
  go_wp2_with (first | (go_at_call 4; refine (HK.out _ _ _ _ _ _ _ (by assumption) (BoxCC.out HN.out)).mono ?_; rintro e wz ⟨rfl, hz⟩; replace HN := hide (BoxCC.below HN.out hz); (try clear q0 q1 q2 q3 q4 q5 q6 q7 q8 q9 q10 q11 q12 q13 q14); obtain ⟨q0, q1, q2, q3, q4, q5, q6, q7, q8, q9, q10, q11, q12, q13, q14⟩ := HN.out; clear hz) | (go_at_call 5; refine (HD.out _ _ _ _ _ _ _ (by assumption)).mono ?_; rintro e wz ⟨rfl, hz⟩; replace HN := hide (BoxCC.below HN.out hz); (try clear q0 q1 q2 q3 q4 q5 q6 q7 q8 q9 q10 q11 q12 q13 q14); obtain ⟨q0, q1, q2, q3, q4, q5, q6, q7, q8, q9, q10, q11, q12, q13, q14⟩ := HN.out; clear hz) | (go_at_call 7; refine (HL.out _ (BoxCC.out HN.out)).mono ?_; rintro e wz ⟨rfl, hz⟩; replace HN := hide (BoxCC.below HN.out hz); (try clear q0 q1 q2 q3 q4 q5 q6 q7 q8 q9 q10 q11 q12 q13 q14); obtain ⟨q0, q1, q2, q3, q4, q5, q6, q7, q8, q9, q10, q11, q12, q13, q14⟩ := HN.out; clear hz))
  go_ret
  exact ⟨rfl, BoxCC.out HN.out⟩
set_option maxRecDepth 100000 in
set_option maxHeartbeats 4000000 in
theorem keys_4 {g : ByteArray} {k n : Int} {s : ByteArray} {b : Bool} {c : Int} {g' : ByteArray} {k' n' : Int} {s' : ByteArray} {b' : Bool} {c' : Int} {w : World} (T : ByteArray → Int → Int → ByteArray → Bool → Int → ByteArray) (B : ByteArray → Int → Int → ByteArray → Bool → Int → Bool)
    (hz1 : s.size ≤ maxLen) (hz2 : s'.size ≤ maxLen) (b1 : B g k n s b c = false) (b2 : B g' k' n' s' b' c' = false) (e0 : T g k n s b c = ⟨#[]⟩)
    (HK : Hid (∀ (g : ByteArray) (k n : Int) (s : ByteArray) (b : Bool) (c : Int) (W : World), s.size ≤ maxLen → Below w.heap.size w W → Calls Tryz.prog 4 #[.agg #[.string g, .int .i64 k, .int .i64 n, .string s, .bool b, .int .i64 c]] W fun e w' => e = .returned (.tuple #[.string (T g k n s b c), .bool (B g k n s b c)]) ∧ Below W.heap.size W w'))
    (HD : Hid (∀ (g : ByteArray) (k n : Int) (s : ByteArray) (b : Bool) (c : Int) (W : World), s.size ≤ maxLen → Calls Tryz.prog 5 #[.agg #[.string g, .int .i64 k, .int .i64 n, .string s, .bool b, .int .i64 c]] W fun e w' => e = .returned (.bool (B g k n s b c)) ∧ Below W.heap.size W w'))
    (HL : Hid (∀ W : World, Below w.heap.size w W → Calls Tryz.prog 7 #[] W fun e w' => e = .returned (.bool true) ∧ Below W.heap.size W w')) :
    Calls Tryz.prog 3 #[.agg #[.string g, .int .i64 k, .int .i64 n, .string s, .bool b, .int .i64 c], .agg #[.string g', .int .i64 k', .int .i64 n', .string s', .bool b', .int .i64 c']] w fun e w' => e = .returned (.bool true) ∧ Below w.heap.size w w' := by
  have HN := hide (BoxCC.new w (g := g) (k := k) (n := n) (s := s) (b := b) (c := c) (g' := g') (k' := k') (n' := n') (s' := s') (b' := b') (c' := c'))
  go_enter Tryz.func3, Tryz.ntmps3
  go_wp2_with (first | (go_at_call 4; refine (HK.out _ _ _ _ _ _ _ (by assumption) (BoxCC.out HN.out)).mono ?_; rintro e wz ⟨rfl, hz⟩; replace HN := hide (BoxCC.below HN.out hz); (try clear q0 q1 q2 q3 q4 q5 q6 q7 q8 q9 q10 q11 q12 q13 q14); obtain ⟨q0, q1, q2, q3, q4, q5, q6, q7, q8, q9, q10, q11, q12, q13, q14⟩ := HN.out; clear hz) | (go_at_call 5; refine (HD.out _ _ _ _ _ _ _ (by assumption)).mono ?_; rintro e wz ⟨rfl, hz⟩; replace HN := hide (BoxCC.below HN.out hz); (try clear q0 q1 q2 q3 q4 q5 q6 q7 q8 q9 q10 q11 q12 q13 q14); obtain ⟨q0, q1, q2, q3, q4, q5, q6, q7, q8, q9, q10, q11, q12, q13, q14⟩ := HN.out; clear hz) | (go_at_call 7; refine (HL.out _ (BoxCC.out HN.out)).mono ?_; rintro e wz ⟨rfl, hz⟩; replace HN := hide (BoxCC.below HN.out hz); (try clear q0 q1 q2 q3 q4 q5 q6 q7 q8 q9 q10 q11 q12 q13 q14); obtain ⟨q0, q1, q2, q3, q4, q5, q6, q7, q8, q9, q10, q11, q12, q13, q14⟩ := HN.out; clear hz))
  go_ret
  exact ⟨rfl, BoxCC.out HN.out⟩
set_option maxRecDepth 100000 in
set_option maxHeartbeats 4000000 in
theorem keys_5 {g : ByteArray} {k n : Int} {s : ByteArray} {b : Bool} {c : Int} {g' : ByteArray} {k' n' : Int} {s' : ByteArray} {b' : Bool} {c' : Int} {w : World} (T : ByteArray → Int → Int → ByteArray → Bool → Int → ByteArray) (B : ByteArray → Int → Int → ByteArray → Bool → Int → Bool)
    (hz1 : s.size ≤ maxLen) (hz2 : s'.size ≤ maxLen) (b1 : B g k n s b c = true) (b2 : B g' k' n' s' b' c' = false)
    (HK : Hid (∀ (g : ByteArray) (k n : Int) (s : ByteArray) (b : Bool) (c : Int) (W : World), s.size ≤ maxLen → Below w.heap.size w W → Calls Tryz.prog 4 #[.agg #[.string g, .int .i64 k, .int .i64 n, .string s, .bool b, .int .i64 c]] W fun e w' => e = .returned (.tuple #[.string (T g k n s b c), .bool (B g k n s b c)]) ∧ Below W.heap.size W w'))
    (HD : Hid (∀ (g : ByteArray) (k n : Int) (s : ByteArray) (b : Bool) (c : Int) (W : World), s.size ≤ maxLen → Calls Tryz.prog 5 #[.agg #[.string g, .int .i64 k, .int .i64 n, .string s, .bool b, .int .i64 c]] W fun e w' => e = .returned (.bool (B g k n s b c)) ∧ Below W.heap.size W w'))
    (HL : Hid (∀ W : World, Below w.heap.size w W → Calls Tryz.prog 7 #[] W fun e w' => e = .returned (.bool true) ∧ Below W.heap.size W w')) :
    Calls Tryz.prog 3 #[.agg #[.string g, .int .i64 k, .int .i64 n, .string s, .bool b, .int .i64 c], .agg #[.string g', .int .i64 k', .int .i64 n', .string s', .bool b', .int .i64 c']] w fun e w' => e = .returned (.bool true) ∧ Below w.heap.size w w' := by
  have HN := hide (BoxCC.new w (g := g) (k := k) (n := n) (s := s) (b := b) (c := c) (g' := g') (k' := k') (n' := n') (s' := s') (b' := b') (c' := c'))
  go_enter Tryz.func3, Tryz.ntmps3
  go_wp2_with (first | (go_at_call 4; refine (HK.out _ _ _ _ _ _ _ (by assumption) (BoxCC.out HN.out)).mono ?_; rintro e wz ⟨rfl, hz⟩; replace HN := hide (BoxCC.below HN.out hz); (try clear q0 q1 q2 q3 q4 q5 q6 q7 q8 q9 q10 q11 q12 q13 q14); obtain ⟨q0, q1, q2, q3, q4, q5, q6, q7, q8, q9, q10, q11, q12, q13, q14⟩ := HN.out; clear hz) | (go_at_call 5; refine (HD.out _ _ _ _ _ _ _ (by assumption)).mono ?_; rintro e wz ⟨rfl, hz⟩; replace HN := hide (BoxCC.below HN.out hz); (try clear q0 q1 q2 q3 q4 q5 q6 q7 q8 q9 q10 q11 q12 q13 q14); obtain ⟨q0, q1, q2, q3, q4, q5, q6, q7, q8, q9, q10, q11, q12, q13, q14⟩ := HN.out; clear hz) | (go_at_call 7; refine (HL.out _ (BoxCC.out HN.out)).mono ?_; rintro e wz ⟨rfl, hz⟩; replace HN := hide (BoxCC.below HN.out hz); (try clear q0 q1 q2 q3 q4 q5 q6 q7 q8 q9 q10 q11 q12 q13 q14); obtain ⟨q0, q1, q2, q3, q4, q5, q6, q7, q8, q9, q10, q11, q12, q13, q14⟩ := HN.out; clear hz))
  go_ret
  exact ⟨rfl, BoxCC.out HN.out⟩
/-- What calls of this law ask of the world. -/
structure EnvZ (w : World) : Prop where
  k : EnvK w
  tab : TabOk w
theorem EnvZ.below {w w' : World} (h : EnvZ w) (z : Below w.heap.size w w') : EnvZ w' := ⟨h.k.below z, tab_below h.tab z⟩
theorem keyed_right {g : ByteArray} {k n : Int} {s : ByteArray} {b : Bool} {c : Int} (h : keyedR g k n s b c = true) : rightB k n s b c = true := by
  unfold keyedR rightC at h
  simp only [Bool.and_eq_true] at h
  exact h.1.1.2
theorem critKeys_walk (g : ByteArray) (k n : Int) (s : ByteArray) (b : Bool) (c : Int) (g' : ByteArray) (k' n' : Int) (s' : ByteArray) (b' : Bool) (c' : Int) (w : World) (h : EnvZ w) (hz : s.size ≤ maxLen) (hz' : s'.size ≤ maxLen) :
    Calls Tryz.prog 3 #[.agg #[.string g, .int .i64 k, .int .i64 n, .string s, .bool b, .int .i64 c], .agg #[.string g', .int .i64 k', .int .i64 n', .string s', .bool b', .int .i64 c']] w fun e w' => e = .returned (.bool true) ∧ Below w.heap.size w w' := by
  have HL : Hid (∀ W : World, Below w.heap.size w W → Calls Tryz.prog 7 #[] W fun e w' => e = .returned (.bool true) ∧ Below W.heap.size W w') := fun W hW => lives13_any W (h.below hW).k
  obtain ⟨T, hT⟩ : ∃ T : ByteArray → Int → Int → ByteArray → Bool → Int → ByteArray, ∀ g k n s b c, T g k n s b c = ⟨(if keyedR g k n s b c then keyT k n s b c else []).toArray⟩ := ⟨_, fun _ _ _ _ _ _ => rfl⟩
  have HK : Hid (∀ (g : ByteArray) (k n : Int) (s : ByteArray) (b : Bool) (c : Int) (W : World), s.size ≤ maxLen → Below w.heap.size w W → Calls Tryz.prog 4 #[.agg #[.string g, .int .i64 k, .int .i64 n, .string s, .bool b, .int .i64 c]] W fun e w' => e = .returned (.tuple #[.string (T g k n s b c), .bool (keyedR g k n s b c)]) ∧ Below W.heap.size W w') := fun g k n s b c W hs hW => by
    rw [hT]; exact Key_any g k n s b c W (h.below hW).k.signs (h.below hW).tab (h.below hW).k.names hs
  have HD : Hid (∀ (g : ByteArray) (k n : Int) (s : ByteArray) (b : Bool) (c : Int) (W : World), s.size ≤ maxLen → Calls Tryz.prog 5 #[.agg #[.string g, .int .i64 k, .int .i64 n, .string s, .bool b, .int .i64 c]] W fun e w' => e = .returned (.bool (keyedR g k n s b c)) ∧ Below W.heap.size W w') := fun g k n s b c W hs => rKeyed_any g k n s b c W hs
  have e0 : keyedR g k n s b c = false → T g k n s b c = ⟨#[]⟩ := fun e => by rw [hT, e]; rfl
  cases b1 : keyedR g k n s b c
  · cases b2 : keyedR g' k' n' s' b' c'
    · exact keys_4 T keyedR hz hz' b1 b2 (e0 b1) HK HD HL
    · exact keys_3 T keyedR hz hz' b1 b2 (e0 b1) HK HD HL
  · cases b2 : keyedR g' k' n' s' b' c'
    · exact keys_5 T keyedR hz hz' b1 b2 HK HD HL
    · have r1 := keyed_right b1
      have r2 := keyed_right b2
      have HS : Hid (∀ W : World, Calls Tryz.prog 6 #[.agg #[.string g, .int .i64 k, .int .i64 n, .string s, .bool b, .int .i64 c], .agg #[.string g', .int .i64 k', .int .i64 n', .string s', .bool b', .int .i64 c']] W fun e w' => e = .returned (.bool (sameK k n s b c k' n' s' b' c')) ∧ Below W.heap.size W w') := fun W => rSame_any g k n s b c g' k' n' s' b' c' W r1 r2
      have e1 : ((T g k n s b c).toList == (T g' k' n' s' b' c').toList) = sameK k n s b c k' n' s' b' c' := by
        rw [hT, hT, list_ba, list_ba, b1, b2, ← key_same r1 r2, Bool.eq_iff_iff]
        simp
      cases hv : sameK k n s b c k' n' s' b' c'
      · rw [hv] at HS e1
        exact keys_2 T keyedR hz hz' b1 b2 e1 HS HK HD HL
      · rw [hv] at HS e1
        exact keys_1 T keyedR hz hz' b1 b2 e1 HS HK HD HL
end Go.Proofs.YtpghgjibpbimeaaGreatDoor
