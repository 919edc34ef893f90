/-
  The contracts of the answer's Check and fault.
-/
import Derived.Test.YtaokibkeoomfjaaDoorVal4
import Derived.Test.YtaokibkeoomfjaaDoorCompMath
namespace Go.Proofs.YtaokibkeoomfjaaDoor
open Go.RowKit

set_option maxHeartbeats 400000 in
theorem rcheckV_any (k n : Int) (s : ByteArray) (b : Bool) (c : Int) (w : World) (hz : s.size ≤ maxLen) :
    Calls Tryd.prog 16 #[.agg #[.int .i64 k, .int .i64 n, .string s, .bool b, .int .i64 c]] w fun e w' => e = .returned (.int .i64 (checkV k n s b c)) ∧ Below w.heap.size w w' := by
  have HR : Hid (∀ W : World, Calls Tryd.prog 39 #[.agg #[.int .i64 k, .int .i64 n, .string s, .bool b, .int .i64 c]] W fun e w' => e = .returned (.bool (rightB k n s b c)) ∧ Below W.heap.size W w') := fun W => rright_any k n s b c W hz
  clear hz
  have HV : Hid (checkV k n s b c = if rightB k n s b c then 0 else 2) := rfl
  generalize rightB k n s b c = r at *
  cases r
  all_goals
    go_enter Tryd.func16, Tryd.ntmps16
    go_wp2_with (go_at_call 39; refine (HR.out _).mono ?_; rintro e w1 ⟨rfl, hb1⟩; obtain ⟨q0, q1, q2, q3, q4, q5, q6⟩ := box_cells hb1)
    go_ret
    exact ⟨by rw [HV.out]; rfl, q6⟩
set_option maxHeartbeats 400000 in
theorem rfault_any (k n : Int) (s : ByteArray) (b : Bool) (c : Int) (w : World) (hz : s.size ≤ maxLen) :
    Calls Tryd.prog 33 #[.agg #[.int .i64 k, .int .i64 n, .string s, .bool b, .int .i64 c]] w fun e w' => e = .returned (.int .i64 (troubleV k n s b c)) ∧ Below w.heap.size w w' := by
  have HR : Hid (∀ W : World, Calls Tryd.prog 39 #[.agg #[.int .i64 k, .int .i64 n, .string s, .bool b, .int .i64 c]] W fun e w' => e = .returned (.bool (rightB k n s b c)) ∧ Below W.heap.size W w') := fun W => rright_any k n s b c W hz
  clear hz
  have HV : Hid (troubleV k n s b c = if rightB k n s b c then c else 2) := rfl
  have HX := hide (fun h => right_code (k := k) (n := n) (s := s) (b := b) (c := c) h)
  generalize rightB k n s b c = r at *
  cases r
  · go_enter Tryd.func33, Tryd.ntmps33
    go_wp2_with (go_at_call 39; refine (HR.out _).mono ?_; rintro e w1 ⟨rfl, hb1⟩; obtain ⟨q0, q1, q2, q3, q4, q5, q6⟩ := box_cells hb1)
    go_ret
    exact ⟨by rw [HV.out]; rfl, q6⟩
  · rcases HX.out rfl with ⟨rfl, _, _⟩ | ⟨h4, rfl⟩
    · go_enter Tryd.func33, Tryd.ntmps33
      go_wp2_with (go_at_call 39; refine (HR.out _).mono ?_; rintro e w1 ⟨rfl, hb1⟩; obtain ⟨q0, q1, q2, q3, q4, q5, q6⟩ := box_cells hb1)
      go_ret
      exact ⟨by rw [HV.out]; rfl, q6⟩
    · have t4 : (k == 4) = false := by simpa using h4
      go_enter Tryd.func33, Tryd.ntmps33
      go_wp2_with (go_at_call 39; refine (HR.out _).mono ?_; rintro e w1 ⟨rfl, hb1⟩; obtain ⟨q0, q1, q2, q3, q4, q5, q6⟩ := box_cells hb1)
      go_ret
      exact ⟨by rw [HV.out]; rfl, q6⟩
end Go.Proofs.YtaokibkeoomfjaaDoor
