/-
  The walk of ValueCounts: for every value it returns true.
-/
import Derived.Test.YtaokibkeoomfjaaDoorLives5
import Derived.Test.YtaokibkeoomfjaaDoorRefVal5
namespace Go.Proofs.YtaokibkeoomfjaaDoor
open Go.RowKit

set_option maxRecDepth 100000 in
set_option maxHeartbeats 4000000 in
theorem valueCounts_walk (k n : Int) (s : ByteArray) (b : Bool) (c : Int) (w : World) (he : Env w) (hz : s.size ≤ maxLen) :
    Calls Tryd.prog 3 #[.agg #[.int .i64 k, .int .i64 n, .string s, .bool b, .int .i64 c]] w fun e w' => e = .returned (.bool true) ∧ Below w.heap.size w w' := by
  have H1 : Hid (∀ W : World, CellOk W → Calls Tryd.prog 9 #[.agg #[.int .i64 k, .int .i64 n, .string s, .bool b, .int .i64 c]] W fun e w' => e = .returned (.tuple #[.int .i64 (numberV k n s b c).1, .int .i64 (numberV k n s b c).2]) ∧ Below W.heap.size W w') := fun W hW => numberV_any k n s b c W hW hz
  have H2 : Hid (∀ W : World, Calls Tryd.prog 10 #[.agg #[.int .i64 k, .int .i64 n, .string s, .bool b, .int .i64 c]] W fun e w' => e = .returned (.tuple #[.int .i64 (numberV k n s b c).1, .int .i64 (numberV k n s b c).2]) ∧ Below W.heap.size W w') := fun W => rnumberV_any k n s b c W hz
  have H3 : Hid (∀ W : World, TabOk W → Calls Tryd.prog 11 #[.agg #[.int .i64 k, .int .i64 n, .string s, .bool b, .int .i64 c]] W fun e w' => e = .returned (.tuple #[.string ⟨(wordsV k n s b c).1.toArray⟩, .int .i64 (wordsV k n s b c).2]) ∧ Below W.heap.size W w') := fun W hW => wordsV_any k n s b c W hW hz
  have H4 : Hid (∀ W : World, Calls Tryd.prog 12 #[.agg #[.int .i64 k, .int .i64 n, .string s, .bool b, .int .i64 c]] W fun e w' => e = .returned (.tuple #[.string ⟨(wordsV k n s b c).1.toArray⟩, .int .i64 (wordsV k n s b c).2]) ∧ Below W.heap.size W w') := fun W => rwordsV_any k n s b c W hz
  have H5 : Hid (∀ W : World, Calls Tryd.prog 13 #[.agg #[.int .i64 k, .int .i64 n, .string s, .bool b, .int .i64 c]] W fun e w' => e = .returned (.tuple #[.bool (truthV k n s b c).1, .int .i64 (truthV k n s b c).2]) ∧ Below W.heap.size W w') := fun W => truthV_any k n s b c W hz
  have H6 : Hid (∀ W : World, Calls Tryd.prog 14 #[.agg #[.int .i64 k, .int .i64 n, .string s, .bool b, .int .i64 c]] W fun e w' => e = .returned (.tuple #[.bool (truthV k n s b c).1, .int .i64 (truthV k n s b c).2]) ∧ Below W.heap.size W w') := fun W => rtruthV_any k n s b c W hz
  have H7 : Hid (∀ W : World, Calls Tryd.prog 15 #[.agg #[.int .i64 k, .int .i64 n, .string s, .bool b, .int .i64 c]] W fun e w' => e = .returned (.int .i64 (checkV k n s b c)) ∧ Below W.heap.size W w') := fun W => checkV_any k n s b c W hz
  have H8 : Hid (∀ W : World, Calls Tryd.prog 16 #[.agg #[.int .i64 k, .int .i64 n, .string s, .bool b, .int .i64 c]] W fun e w' => e = .returned (.int .i64 (checkV k n s b c)) ∧ Below W.heap.size W w') := fun W => rcheckV_any k n s b c W hz
  have HE := hide he
  clear he hz
  generalize (numberV k n s b c).1 = x1 at *
  generalize (numberV k n s b c).2 = x2 at *
  generalize (⟨(wordsV k n s b c).1.toArray⟩ : ByteArray) = T at *
  generalize (wordsV k n s b c).2 = x3 at *
  generalize (truthV k n s b c).1 = t1 at *
  generalize (truthV k n s b c).2 = x4 at *
  generalize checkV k n s b c = x5 at *
  have HS := hide (BoxS.new w k n s b c 25)
  go_enter Tryd.func3, Tryd.ntmps3
  go_wp2_with fail
  refine (H1.out _ (HE.out.below (BoxS.out HS.out)).2.1).mono ?_
  rintro e w1 ⟨rfl, hb⟩
  have HS := hide (BoxS.below HS.out hb)
  clear hb
  obtain ⟨q0, q1, q2, q3, q4, q5, q6⟩ := HS.out
  go_wp2_with fail
  refine (H2.out _).mono ?_
  rintro e w2 ⟨rfl, hb⟩
  have HS := hide (BoxS.below HS.out hb)
  clear hb q0 q1 q2 q3 q4 q5 q6
  obtain ⟨q0, q1, q2, q3, q4, q5, q6⟩ := HS.out
  go_wp2_with fail
  refine (H3.out _ (HE.out.below (BoxS.out HS.out)).1).mono ?_
  rintro e w3 ⟨rfl, hb⟩
  have HS := hide (BoxS.below HS.out hb)
  clear hb q0 q1 q2 q3 q4 q5 q6
  obtain ⟨q0, q1, q2, q3, q4, q5, q6⟩ := HS.out
  go_wp2_with fail
  refine (H4.out _).mono ?_
  rintro e w4 ⟨rfl, hb⟩
  have HS := hide (BoxS.below HS.out hb)
  clear hb q0 q1 q2 q3 q4 q5 q6
  obtain ⟨q0, q1, q2, q3, q4, q5, q6⟩ := HS.out
  go_wp2_with fail
  refine (H5.out _).mono ?_
  rintro e w5 ⟨rfl, hb⟩
  have HS := hide (BoxS.below HS.out hb)
  clear hb q0 q1 q2 q3 q4 q5 q6
  obtain ⟨q0, q1, q2, q3, q4, q5, q6⟩ := HS.out
  go_wp2_with fail
  refine (H6.out _).mono ?_
  rintro e w6 ⟨rfl, hb⟩
  have HS := hide (BoxS.below HS.out hb)
  clear hb q0 q1 q2 q3 q4 q5 q6
  obtain ⟨q0, q1, q2, q3, q4, q5, q6⟩ := HS.out
  clear q0 q1 q2 q3 q4 q5 q6
  go_wp2
  go_region_held3 (fun w' => w'.cell? ⟨w.heap.size, 0, none⟩ = some (.int .i64 k) ∧ w'.cell? ⟨w.heap.size, 1, none⟩ = some (.int .i64 n) ∧ w'.cell? ⟨w.heap.size, 2, none⟩ = some (.string s) ∧ w'.cell? ⟨w.heap.size, 3, none⟩ = some (.bool b) ∧ w'.cell? ⟨w.heap.size, 4, none⟩ = some (.int .i64 c) ∧ w.heap.size < w'.heap.size ∧ Below w.heap.size w w') (first | exact HS.out | assumption | exact BoxS.drew (by assumption)) (first | (go_at_call 15; refine (H7.out _).mono ?_; rintro e w2 ⟨rfl, hb2⟩; have hs2 := BoxS.below (by assumption) hb2) | (go_at_call 16; refine (H8.out _).mono ?_; rintro e w2 ⟨rfl, hb2⟩; have hs2 := BoxS.below (by assumption) hb2) | (go_at_call 17; refine (lives4_any _ (HE.out.below (BoxS.out (by assumption)))).mono ?_; rintro e w2 ⟨rfl, hb2⟩; have hs2 := BoxS.below (by assumption) hb2))
  all_goals go_wp2
  all_goals go_ret
  all_goals exact ⟨rfl, BoxS.out (by assumption)⟩
end Go.Proofs.YtaokibkeoomfjaaDoor
