/-
  The contracts of value's Check, Number, Words, Truth, and of what they call.
-/
import Derived.Test.YtaokibkeoomfjaaDoorValMath
import Derived.Test.YtaokibkeoomfjaaDoorFold
import Derived.Test.YtaokibkeoomfjaaDoorVal3
import Derived.Test.YtaokibkeoomfjaaDoorCmp
namespace Go.Proofs.YtaokibkeoomfjaaDoor
open Go.RowKit

/-- Behind a call on a value that lies in a new block. -/
theorem box_cells {w w1 : World} {k n : Int} {s : ByteArray} {b : Bool} {c : Int} {t : TypeId} (hb : Below (w.alloc (.cells #[.int .i64 k, .int .i64 n, .string s, .bool b, .int .i64 c] t)).heap.size (w.alloc (.cells #[.int .i64 k, .int .i64 n, .string s, .bool b, .int .i64 c] t)) w1) :
    w1.cell? ⟨w.heap.size, 0, none⟩ = some (.int .i64 k) ∧ w1.cell? ⟨w.heap.size, 1, none⟩ = some (.int .i64 n) ∧ w1.cell? ⟨w.heap.size, 2, none⟩ = some (.string s) ∧ w1.cell? ⟨w.heap.size, 3, none⟩ = some (.bool b) ∧ w1.cell? ⟨w.heap.size, 4, none⟩ = some (.int .i64 c) ∧ w.heap.size < w1.heap.size ∧ Below w.heap.size w w1 :=
  BoxS.below (BoxS.new w k n s b c t) hb

set_option maxHeartbeats 400000 in
theorem checkV_any (k n : Int) (s : ByteArray) (b : Bool) (c : Int) (w : World) (hz : s.size ≤ maxLen) :
    Calls Tryd.prog 15 #[.agg #[.int .i64 k, .int .i64 n, .string s, .bool b, .int .i64 c]] w fun e w' => e = .returned (.int .i64 (checkV k n s b c)) ∧ Below w.heap.size w w' := by
  have HR : Hid (∀ W : World, Calls Tryd.prog 38 #[.agg #[.int .i64 k, .int .i64 n, .string s, .bool b, .int .i64 c]] W fun e w' => e = .returned (.bool (rightB k n s b c)) ∧ Below W.heap.size W w') := fun W => right_any k n s b c W hz
  clear hz
  have HV : Hid (checkV k n s b c = if rightB k n s b c then 0 else 2) := rfl
  generalize rightB k n s b c = r at *
  cases r
  all_goals
    go_enter Tryd.func15, Tryd.ntmps15
    go_wp2_with (go_at_call 38; refine (HR.out _).mono ?_; rintro e w1 ⟨rfl, hb1⟩; obtain ⟨q0, q1, q2, q3, q4, q5, q6⟩ := box_cells hb1)
    go_ret
    exact ⟨by rw [HV.out]; rfl, q6⟩
set_option maxHeartbeats 400000 in
theorem trouble_any (k n : Int) (s : ByteArray) (b : Bool) (c : Int) (w : World) (hz : s.size ≤ maxLen) :
    Calls Tryd.prog 31 #[.agg #[.int .i64 k, .int .i64 n, .string s, .bool b, .int .i64 c]] w fun e w' => e = .returned (.int .i64 (troubleV k n s b c)) ∧ Below w.heap.size w w' := by
  have HR : Hid (∀ W : World, Calls Tryd.prog 38 #[.agg #[.int .i64 k, .int .i64 n, .string s, .bool b, .int .i64 c]] W fun e w' => e = .returned (.bool (rightB k n s b c)) ∧ Below W.heap.size W w') := fun W => right_any k n s b c W hz
  clear hz
  have HV : Hid (troubleV k n s b c = if rightB k n s b c then c else 2) := rfl
  generalize rightB k n s b c = r at *
  cases r
  all_goals
    go_enter Tryd.func31, Tryd.ntmps31
    go_wp2_with (go_at_call 38; refine (HR.out _).mono ?_; rintro e w1 ⟨rfl, hb1⟩; obtain ⟨q0, q1, q2, q3, q4, q5, q6⟩ := box_cells hb1)
    go_ret
    exact ⟨by rw [HV.out]; rfl, q6⟩
set_option maxHeartbeats 400000 in
theorem counted_any (s : ByteArray) (w : World) (hc : CellOk w) (hz : s.size ≤ maxLen) :
    Calls Tryd.prog 32 #[.string s] w fun e w' => e = .returned (.tuple #[.int .i64 (countR s.data.toList).1, .int .i64 (countR s.data.toList).2]) ∧ Below w.heap.size w w' := by
  have HP := hide (fun (W : World) hW => parse_at s W hW hz)
  have HC := hide hc
  clear hc hz
  by_cases h : (parseR s.data.toList).2 = 0
  · rw [countR_yes h]
    rw [h] at HP
    clear h
    generalize (parseR s.data.toList).1 = x at *
    go_enter Tryd.func32, Tryd.ntmps32
    go_wp2_with (go_at_call 48; refine (HP.out _ HC.out).mono ?_; rintro e w1 ⟨rfl, hb1⟩)
    go_ret2
    exact ⟨rfl, hb1⟩
  · rw [countR_no h]
    have h2 : ((parseR s.data.toList).2 != 0) = true := by simpa using h
    clear h
    generalize (parseR s.data.toList).1 = x at *
    generalize (parseR s.data.toList).2 = y at *
    go_enter Tryd.func32, Tryd.ntmps32
    go_wp2_with (go_at_call 48; refine (HP.out _ HC.out).mono ?_; rintro e w1 ⟨rfl, hb1⟩)
    go_ret2
    exact ⟨rfl, hb1⟩
set_option maxHeartbeats 400000 in
theorem truthNamed_any (s : ByteArray) (w : World) :
    Calls Tryd.prog 37 #[.string s] w fun e w' => e = .returned (.tuple #[.bool (namedR s.data.toList).1, .bool (namedR s.data.toList).2]) ∧ Below w.heap.size w w' := by
  have HF : Hid (∀ W : World, Calls Tryd.prog 26 #[.string s] W fun e w' => e = .returned (.string ⟨(foldL s.data.toList).toArray⟩) ∧ Below W.heap.size W w') := fun W => fold_any s W
  have hT := list_ba (foldL s.data.toList)
  generalize (⟨(foldL s.data.toList).toArray⟩ : ByteArray) = T at *
  by_cases h1 : foldL s.data.toList = [84, 82, 85, 69]
  · rw [namedR_t h1]
    rw [h1] at hT
    clear h1
    have t1 : (T.toList == [84, 82, 85, 69]) = true := by rw [hT]; rfl
    clear hT
    go_enter Tryd.func37, Tryd.ntmps37
    go_wp2_with (go_at_call 26; refine (HF.out _).mono ?_; rintro e w1 ⟨rfl, hb1⟩)
    go_ret2
    exact ⟨rfl, hb1⟩
  · have t1 : (T.toList == [84, 82, 85, 69]) = false := by rw [hT]; simpa using h1
    by_cases h2 : foldL s.data.toList = [70, 65, 76, 83, 69]
    · rw [namedR_f h2]
      have t2 : (T.toList == [70, 65, 76, 83, 69]) = true := by rw [hT, h2]; rfl
      clear hT h1 h2
      go_enter Tryd.func37, Tryd.ntmps37
      go_wp2_with (go_at_call 26; refine (HF.out _).mono ?_; rintro e w1 ⟨rfl, hb1⟩)
      go_ret2
      exact ⟨rfl, hb1⟩
    · rw [namedR_no h1 h2]
      have t2 : (T.toList == [70, 65, 76, 83, 69]) = false := by rw [hT]; simpa using h2
      clear hT h1 h2
      go_enter Tryd.func37, Tryd.ntmps37
      go_wp2_with (go_at_call 26; refine (HF.out _).mono ?_; rintro e w1 ⟨rfl, hb1⟩)
      go_ret2
      exact ⟨rfl, hb1⟩
end Go.Proofs.YtaokibkeoomfjaaDoor
