/-
  The walk of CritOther.
-/
import Derived.Test.YtpghgjibpbimeaaDoorCr8
namespace Go.Proofs.YtpghgjibpbimeaaDoor
open Go.RowKit
set_option linter.unusedSimpArgs false
set_option linter.unusedVariables false

set_option maxRecDepth 100000 in
set_option maxHeartbeats 4000000 in
theorem other_8 {k n : Int} {s : ByteArray} {b : Bool} {c n' : Int} {s' : ByteArray} {b' : Bool} {c' : Int} {w : World} (F : ByteArray → Bool) (f1 : (F ⟨#[61]⟩ == F ⟨#[60, 62]⟩) = false) (f3 : F ⟨#[60]⟩ = false) (f4 : F ⟨#[62, 61]⟩ = true) (f5 : F ⟨#[62]⟩ = true) (f6 : F ⟨#[60, 61]⟩ = false) (e2 : (k == 0) = false) (e3 : (k == 4) = false) (e4 : (k != 0) = true) (e5 : (k != 4) = true) (e6 : ¬ k = 0) (e7 : ¬ k = 4) (HV : Hid (∀ W : World, Calls Tryd.prog 19 #[.agg #[.int .i64 k, .int .i64 n, .string s, .bool b, .int .i64 c]] W fun e w' => e = .returned (.int .i64 0) ∧ Below W.heap.size W w')) (HV2 : Hid (∀ W : World, Calls Tryd.prog 19 #[.agg #[.int .i64 k, .int .i64 n', .string s', .bool b', .int .i64 c']] W fun e w' => e = .returned (.int .i64 0) ∧ Below W.heap.size W w'))
    (HF : Hid (∀ (G : ByteArray) (W : World), Below w.heap.size w W → Calls Tryd.prog 13 #[.agg #[.string G, .int .i64 k, .int .i64 n, .string s, .bool b, .int .i64 c], .agg #[.int .i64 k, .int .i64 n', .string s', .bool b', .int .i64 c']] W fun e w' => e = .returned (.bool (F G)) ∧ Below W.heap.size W w'))
    (HL : Hid (∀ W : World, Below w.heap.size w W → Calls Tryd.prog 12 #[] W fun e w' => e = .returned (.bool true) ∧ Below W.heap.size W w')) :
    Calls Tryd.prog 7 #[.agg #[.int .i64 k, .int .i64 n, .string s, .bool b, .int .i64 c], .agg #[.int .i64 k, .int .i64 n', .string s', .bool b', .int .i64 c']] w fun e w' => e = .returned (.bool true) ∧ Below w.heap.size w w' := by
  have HN := hide (Box2.new w k n s b c k n' s' b' c')
  go_enter Tryd.func7, Tryd.ntmps7
  go_wp2_with (first | (go_at_call 19; refine (HV.out _).mono ?_; rintro e wz ⟨rfl, hz⟩; replace HN := hide (Box2.below HN.out hz); (try clear q0 q1 q2 q3 q4 q5 q6 q7 q8 q9 q10 q11 q12); obtain ⟨q0, q1, q2, q3, q4, q5, q6, q7, q8, q9, q10, q11, q12⟩ := HN.out; clear hz HV) | (go_at_call 19; refine (HV2.out _).mono ?_; rintro e wz ⟨rfl, hz⟩; replace HN := hide (Box2.below HN.out hz); (try clear q0 q1 q2 q3 q4 q5 q6 q7 q8 q9 q10 q11 q12); obtain ⟨q0, q1, q2, q3, q4, q5, q6, q7, q8, q9, q10, q11, q12⟩ := HN.out; clear hz HV2))
  go_region_held3 (fun X => X.cell? ⟨w.heap.size, 0, none⟩ = some (.int .i64 k) ∧ X.cell? ⟨w.heap.size, 1, none⟩ = some (.int .i64 n) ∧ X.cell? ⟨w.heap.size, 2, none⟩ = some (.string s) ∧ X.cell? ⟨w.heap.size, 3, none⟩ = some (.bool b) ∧ X.cell? ⟨w.heap.size, 4, none⟩ = some (.int .i64 c) ∧ X.cell? ⟨w.heap.size + 1, 0, none⟩ = some (.int .i64 k) ∧ X.cell? ⟨w.heap.size + 1, 1, none⟩ = some (.int .i64 n') ∧ X.cell? ⟨w.heap.size + 1, 2, none⟩ = some (.string s') ∧ X.cell? ⟨w.heap.size + 1, 3, none⟩ = some (.bool b') ∧ X.cell? ⟨w.heap.size + 1, 4, none⟩ = some (.int .i64 c') ∧ w.heap.size < X.heap.size ∧ w.heap.size + 1 < X.heap.size ∧ Below w.heap.size w X) (first | assumption | exact HN.out | exact Box2.drew (by assumption)) ((go_at_call 13; refine (HF.out _ _ (Box2.out (by assumption))).mono ?_; rintro e w2 ⟨rfl, hb2⟩; have hs2 := Box2.below (by assumption) hb2))
  all_goals go_wp2
  all_goals go_region_held3 (fun X => X.cell? ⟨w.heap.size, 0, none⟩ = some (.int .i64 k) ∧ X.cell? ⟨w.heap.size, 1, none⟩ = some (.int .i64 n) ∧ X.cell? ⟨w.heap.size, 2, none⟩ = some (.string s) ∧ X.cell? ⟨w.heap.size, 3, none⟩ = some (.bool b) ∧ X.cell? ⟨w.heap.size, 4, none⟩ = some (.int .i64 c) ∧ X.cell? ⟨w.heap.size + 1, 0, none⟩ = some (.int .i64 k) ∧ X.cell? ⟨w.heap.size + 1, 1, none⟩ = some (.int .i64 n') ∧ X.cell? ⟨w.heap.size + 1, 2, none⟩ = some (.string s') ∧ X.cell? ⟨w.heap.size + 1, 3, none⟩ = some (.bool b') ∧ X.cell? ⟨w.heap.size + 1, 4, none⟩ = some (.int .i64 c') ∧ w.heap.size < X.heap.size ∧ w.heap.size + 1 < X.heap.size ∧ Below w.heap.size w X) (first | assumption | exact HN.out | exact Box2.drew (by assumption)) ((go_at_call 13; refine (HF.out _ _ (Box2.out (by assumption))).mono ?_; rintro e w2 ⟨rfl, hb2⟩; have hs2 := Box2.below (by assumption) hb2))
  all_goals go_wp2
  all_goals go_region_held3 (fun X => X.cell? ⟨w.heap.size, 0, none⟩ = some (.int .i64 k) ∧ X.cell? ⟨w.heap.size, 1, none⟩ = some (.int .i64 n) ∧ X.cell? ⟨w.heap.size, 2, none⟩ = some (.string s) ∧ X.cell? ⟨w.heap.size, 3, none⟩ = some (.bool b) ∧ X.cell? ⟨w.heap.size, 4, none⟩ = some (.int .i64 c) ∧ X.cell? ⟨w.heap.size + 1, 0, none⟩ = some (.int .i64 k) ∧ X.cell? ⟨w.heap.size + 1, 1, none⟩ = some (.int .i64 n') ∧ X.cell? ⟨w.heap.size + 1, 2, none⟩ = some (.string s') ∧ X.cell? ⟨w.heap.size + 1, 3, none⟩ = some (.bool b') ∧ X.cell? ⟨w.heap.size + 1, 4, none⟩ = some (.int .i64 c') ∧ w.heap.size < X.heap.size ∧ w.heap.size + 1 < X.heap.size ∧ Below w.heap.size w X) (first | assumption | exact HN.out | exact Box2.drew (by assumption)) ((go_at_call 13; refine (HF.out _ _ (Box2.out (by assumption))).mono ?_; rintro e w2 ⟨rfl, hb2⟩; have hs2 := Box2.below (by assumption) hb2))
  all_goals go_wp2_with (go_at_call 12; refine (HL.out _ (Box2.out (by assumption))).mono ?_; rintro e w2 ⟨rfl, hb2⟩; have hs2 := Box2.below (by assumption) hb2)
  all_goals go_ret
  all_goals exact ⟨rfl, Box2.out (by assumption)⟩
end Go.Proofs.YtpghgjibpbimeaaDoor
