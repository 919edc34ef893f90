/-
  The contracts of cmp.Compare (of kinds, numbers, texts), of value's orderedTruths, of the answer's sign and Bytes.
-/
import Derived.Test.YtaokibkeoomfjaaDoorOrdMath
import Derived.Test.YtaokibkeoomfjaaDoorDigits
import Derived.Laws.Cover1
import Derived.Deep.QuietTactic
import Derived.BigQuiet
namespace Go.Proofs.YtaokibkeoomfjaaDoor
open Go.RowKit

theorem list_ba (l : List UInt8) : (⟨l.toArray⟩ : ByteArray).toList = l := by rw [ByteArray.toList_eq]
set_option maxHeartbeats 400000 in
theorem nan_k (a : Int) (w : World) :
    Calls Tryd.prog 78 #[.int .i64 a] w fun e w' => e = .returned (.bool false) ∧ w' = w := by
  go_enter Tryd.func78, Tryd.ntmps78
  go_wp2
  go_ret
  exact ⟨by first | rfl | simp, rfl⟩
set_option maxHeartbeats 400000 in
theorem nan_i (a : Int) (w : World) :
    Calls Tryd.prog 79 #[.int .i64 a] w fun e w' => e = .returned (.bool false) ∧ w' = w := by
  go_enter Tryd.func79, Tryd.ntmps79
  go_wp2
  go_ret
  exact ⟨by first | rfl | simp, rfl⟩
set_option maxHeartbeats 400000 in
theorem nan_s (a : ByteArray) (w : World) :
    Calls Tryd.prog 80 #[.string a] w fun e w' => e = .returned (.bool false) ∧ w' = w := by
  go_enter Tryd.func80, Tryd.ntmps80
  go_wp2
  go_ret
  exact ⟨by first | rfl | simp, rfl⟩
set_option maxHeartbeats 400000 in
theorem cmpK_any (a b : Int) (w : World) :
    Calls Tryd.prog 62 #[.int .i64 a, .int .i64 b] w fun e w' => e = .returned (.int .i64 (cmpI a b)) ∧ w' = w := by
  by_cases h1 : a < b
  · rw [show cmpI a b = -1 by simp [cmpI, h1]]
    go_enter Tryd.func62, Tryd.ntmps62
    go_wp2_with (go_at_call 78; refine (nan_k _ _).mono ?_; rintro e w1 ⟨rfl, rfl⟩)
    go_ret
    exact ⟨rfl, rfl⟩
  · by_cases h2 : b < a
    · rw [show cmpI a b = 1 by simp [cmpI, h1, h2]]
      go_enter Tryd.func62, Tryd.ntmps62
      go_wp2_with (go_at_call 78; refine (nan_k _ _).mono ?_; rintro e w1 ⟨rfl, rfl⟩)
      go_ret
      exact ⟨rfl, rfl⟩
    · rw [show cmpI a b = 0 by simp [cmpI, h1, h2]]
      go_enter Tryd.func62, Tryd.ntmps62
      go_wp2_with (go_at_call 78; refine (nan_k _ _).mono ?_; rintro e w1 ⟨rfl, rfl⟩)
      go_ret
      exact ⟨rfl, rfl⟩
set_option maxHeartbeats 400000 in
theorem cmpI_any (a b : Int) (w : World) :
    Calls Tryd.prog 63 #[.int .i64 a, .int .i64 b] w fun e w' => e = .returned (.int .i64 (cmpI a b)) ∧ w' = w := by
  by_cases h1 : a < b
  · rw [show cmpI a b = -1 by simp [cmpI, h1]]
    go_enter Tryd.func63, Tryd.ntmps63
    go_wp2_with (go_at_call 79; refine (nan_i _ _).mono ?_; rintro e w1 ⟨rfl, rfl⟩)
    go_ret
    exact ⟨rfl, rfl⟩
  · by_cases h2 : b < a
    · rw [show cmpI a b = 1 by simp [cmpI, h1, h2]]
      go_enter Tryd.func63, Tryd.ntmps63
      go_wp2_with (go_at_call 79; refine (nan_i _ _).mono ?_; rintro e w1 ⟨rfl, rfl⟩)
      go_ret
      exact ⟨rfl, rfl⟩
    · rw [show cmpI a b = 0 by simp [cmpI, h1, h2]]
      go_enter Tryd.func63, Tryd.ntmps63
      go_wp2_with (go_at_call 79; refine (nan_i _ _).mono ?_; rintro e w1 ⟨rfl, rfl⟩)
      go_ret
      exact ⟨rfl, rfl⟩
set_option maxHeartbeats 400000 in
theorem cmpL_any (a b : ByteArray) (w : World) :
    Calls Tryd.prog 64 #[.string a, .string b] w fun e w' => e = .returned (.int .i64 (cmpL a.toList b.toList)) ∧ w' = w := by
  have HV : Hid (cmpL a.toList b.toList = if Op.bytesLess a.toList b.toList then -1 else if a.toList = b.toList then 0 else 1) := rfl
  cases h1 : Op.bytesLess a.toList b.toList
  · by_cases h2 : a.toList = b.toList
    · have HE : Hid (cmpL a.toList b.toList = 0) := by show _ = _; rw [HV.out, h1, if_neg (by decide), if_pos h2]
      have t2 : (a.toList == b.toList) = true := by simpa using h2
      clear HV h2
      go_enter Tryd.func64, Tryd.ntmps64
      go_wp2_with (go_at_call 80; refine (nan_s _ _).mono ?_; rintro e w1 ⟨rfl, rfl⟩)
      go_ret
      exact ⟨by rw [HE.out]; rfl, rfl⟩
    · have HE : Hid (cmpL a.toList b.toList = 1) := by show _ = _; rw [HV.out, h1, if_neg (by decide), if_neg h2]
      have t2 : (a.toList == b.toList) = false := by simpa using h2
      clear HV h2
      go_enter Tryd.func64, Tryd.ntmps64
      go_wp2_with (go_at_call 80; refine (nan_s _ _).mono ?_; rintro e w1 ⟨rfl, rfl⟩)
      go_ret
      exact ⟨by rw [HE.out]; rfl, rfl⟩
  · have HE : Hid (cmpL a.toList b.toList = -1) := by show _ = _; rw [HV.out, h1, if_pos rfl]
    clear HV
    go_enter Tryd.func64, Tryd.ntmps64
    go_wp2_with (go_at_call 80; refine (nan_s _ _).mono ?_; rintro e w1 ⟨rfl, rfl⟩)
    go_ret
    exact ⟨by rw [HE.out]; rfl, rfl⟩
set_option maxHeartbeats 400000 in
theorem cmpB_any (a b : Bool) (w : World) :
    Calls Tryd.prog 65 #[.bool a, .bool b] w fun e w' => e = .returned (.int .i64 (cmpB a b)) ∧ w' = w := by
  cases a <;> cases b
  all_goals
    go_enter Tryd.func65, Tryd.ntmps65
    go_wp2
    go_ret
    exact ⟨rfl, rfl⟩
/-- What sign says. -/
def signR (a b : Bool) : Int := if a then -1 else if b then 1 else 0
set_option maxHeartbeats 400000 in
theorem sign_any (a b : Bool) (w : World) :
    Calls Tryd.prog 44 #[.bool a, .bool b] w fun e w' => e = .returned (.int .i64 (signR a b)) ∧ w' = w := by
  cases a <;> cases b
  all_goals
    go_enter Tryd.func44, Tryd.ntmps44
    go_wp2
    go_ret
    exact ⟨rfl, rfl⟩
end Go.Proofs.YtaokibkeoomfjaaDoor
