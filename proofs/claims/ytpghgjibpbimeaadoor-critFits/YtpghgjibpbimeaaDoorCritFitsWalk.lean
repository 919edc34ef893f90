/-
  The walk of CritFits.
-/
import Derived.Test.YtpghgjibpbimeaaDoorRf5
namespace Go.Proofs.YtpghgjibpbimeaaDoor
open Go.RowKit
set_option linter.unusedSimpArgs false

set_option maxRecDepth 100000 in
set_option maxHeartbeats 4000000 in
theorem fits_t {g : ByteArray} {k n : Int} {s : ByteArray} {b : Bool} {c k' n' : Int} {s' : ByteArray} {b' : Bool} {c' : Int} {w : World}
    (HF : Hid (∀ W : World, Below w.heap.size w W → Calls Tryd.prog 13 #[.agg #[.string g, .int .i64 k, .int .i64 n, .string s, .bool b, .int .i64 c], .agg #[.int .i64 k', .int .i64 n', .string s', .bool b', .int .i64 c']] W fun e w' => e = .returned (.bool true) ∧ Below W.heap.size W w'))
    (HG : Hid (∀ W : World, Calls Tryd.prog 14 #[.agg #[.string g, .int .i64 k, .int .i64 n, .string s, .bool b, .int .i64 c], .agg #[.int .i64 k', .int .i64 n', .string s', .bool b', .int .i64 c']] W fun e w' => e = .returned (.bool true) ∧ Below W.heap.size W w'))
    (HL : Hid (∀ W : World, Below w.heap.size w W → Calls Tryd.prog 12 #[] W fun e w' => e = .returned (.bool true) ∧ Below W.heap.size W w')) :
    Calls Tryd.prog 4 #[.agg #[.string g, .int .i64 k, .int .i64 n, .string s, .bool b, .int .i64 c], .agg #[.int .i64 k', .int .i64 n', .string s', .bool b', .int .i64 c']] w fun e w' => e = .returned (.bool true) ∧ Below w.heap.size w w' := by
  have HN := hide (BoxCV.new w (g := g) (k := k) (n := n) (s := s) (b := b) (c := c) (k' := k') (n' := n') (s' := s') (b' := b') (c' := c'))
  go_enter Tryd.func4, Tryd.ntmps4
  go_wp2
  go_region_held3 (fun X => X.cell? ⟨w.heap.size, 0, none⟩ = some (.string g) ∧ X.cell? ⟨w.heap.size, 1, none⟩ = some (.int .i64 k) ∧ X.cell? ⟨w.heap.size, 2, none⟩ = some (.int .i64 n) ∧ X.cell? ⟨w.heap.size, 3, none⟩ = some (.string s) ∧ X.cell? ⟨w.heap.size, 4, none⟩ = some (.bool b) ∧ X.cell? ⟨w.heap.size, 5, none⟩ = some (.int .i64 c) ∧ X.cell? ⟨w.heap.size + 1, 0, none⟩ = some (.int .i64 k') ∧ X.cell? ⟨w.heap.size + 1, 1, none⟩ = some (.int .i64 n') ∧ X.cell? ⟨w.heap.size + 1, 2, none⟩ = some (.string s') ∧ X.cell? ⟨w.heap.size + 1, 3, none⟩ = some (.bool b') ∧ X.cell? ⟨w.heap.size + 1, 4, none⟩ = some (.int .i64 c') ∧ w.heap.size < X.heap.size ∧ w.heap.size + 1 < X.heap.size ∧ Below w.heap.size w X) (first | assumption | exact HN.out | exact BoxCV.drew (by assumption)) (first | (go_at_call 13; refine (HF.out _ (BoxCV.out (by assumption))).mono ?_; rintro e w2 ⟨rfl, hb2⟩; have hs2 := BoxCV.below (by assumption) hb2) | (go_at_call 14; refine (HG.out _).mono ?_; rintro e w2 ⟨rfl, hb2⟩; have hs2 := BoxCV.below (by assumption) hb2) | (go_at_call 12; refine (HL.out _ (BoxCV.out (by assumption))).mono ?_; rintro e w2 ⟨rfl, hb2⟩; have hs2 := BoxCV.below (by assumption) hb2))
  all_goals go_wp2
  all_goals go_ret
  all_goals exact ⟨rfl, BoxCV.out (by assumption)⟩
set_option maxRecDepth 100000 in
set_option maxHeartbeats 4000000 in
theorem fits_f {g : ByteArray} {k n : Int} {s : ByteArray} {b : Bool} {c k' n' : Int} {s' : ByteArray} {b' : Bool} {c' : Int} {w : World}
    (HF : Hid (∀ W : World, Below w.heap.size w W → Calls Tryd.prog 13 #[.agg #[.string g, .int .i64 k, .int .i64 n, .string s, .bool b, .int .i64 c], .agg #[.int .i64 k', .int .i64 n', .string s', .bool b', .int .i64 c']] W fun e w' => e = .returned (.bool false) ∧ Below W.heap.size W w'))
    (HG : Hid (∀ W : World, Calls Tryd.prog 14 #[.agg #[.string g, .int .i64 k, .int .i64 n, .string s, .bool b, .int .i64 c], .agg #[.int .i64 k', .int .i64 n', .string s', .bool b', .int .i64 c']] W fun e w' => e = .returned (.bool false) ∧ Below W.heap.size W w'))
    (HL : Hid (∀ W : World, Below w.heap.size w W → Calls Tryd.prog 12 #[] W fun e w' => e = .returned (.bool true) ∧ Below W.heap.size W w')) :
    Calls Tryd.prog 4 #[.agg #[.string g, .int .i64 k, .int .i64 n, .string s, .bool b, .int .i64 c], .agg #[.int .i64 k', .int .i64 n', .string s', .bool b', .int .i64 c']] w fun e w' => e = .returned (.bool true) ∧ Below w.heap.size w w' := by
  have HN := hide (BoxCV.new w (g := g) (k := k) (n := n) (s := s) (b := b) (c := c) (k' := k') (n' := n') (s' := s') (b' := b') (c' := c'))
  go_enter Tryd.func4, Tryd.ntmps4
  go_wp2
  go_region_held3 (fun X => X.cell? ⟨w.heap.size, 0, none⟩ = some (.string g) ∧ X.cell? ⟨w.heap.size, 1, none⟩ = some (.int .i64 k) ∧ X.cell? ⟨w.heap.size, 2, none⟩ = some (.int .i64 n) ∧ X.cell? ⟨w.heap.size, 3, none⟩ = some (.string s) ∧ X.cell? ⟨w.heap.size, 4, none⟩ = some (.bool b) ∧ X.cell? ⟨w.heap.size, 5, none⟩ = some (.int .i64 c) ∧ X.cell? ⟨w.heap.size + 1, 0, none⟩ = some (.int .i64 k') ∧ X.cell? ⟨w.heap.size + 1, 1, none⟩ = some (.int .i64 n') ∧ X.cell? ⟨w.heap.size + 1, 2, none⟩ = some (.string s') ∧ X.cell? ⟨w.heap.size + 1, 3, none⟩ = some (.bool b') ∧ X.cell? ⟨w.heap.size + 1, 4, none⟩ = some (.int .i64 c') ∧ w.heap.size < X.heap.size ∧ w.heap.size + 1 < X.heap.size ∧ Below w.heap.size w X) (first | assumption | exact HN.out | exact BoxCV.drew (by assumption)) (first | (go_at_call 13; refine (HF.out _ (BoxCV.out (by assumption))).mono ?_; rintro e w2 ⟨rfl, hb2⟩; have hs2 := BoxCV.below (by assumption) hb2) | (go_at_call 14; refine (HG.out _).mono ?_; rintro e w2 ⟨rfl, hb2⟩; have hs2 := BoxCV.below (by assumption) hb2) | (go_at_call 12; refine (HL.out _ (BoxCV.out (by assumption))).mono ?_; rintro e w2 ⟨rfl, hb2⟩; have hs2 := BoxCV.below (by assumption) hb2))
  all_goals go_wp2
  all_goals go_ret
  all_goals exact ⟨rfl, BoxCV.out (by assumption)⟩
theorem critFits_walk (g : ByteArray) (k n : Int) (s : ByteArray) (b : Bool) (c k' n' : Int) (s' : ByteArray) (b' : Bool) (c' : Int) (w : World) (h : EnvK w) (hz : s.size ≤ maxLen) (hz' : s'.size ≤ maxLen) :
    Calls Tryd.prog 4 #[.agg #[.string g, .int .i64 k, .int .i64 n, .string s, .bool b, .int .i64 c], .agg #[.int .i64 k', .int .i64 n', .string s', .bool b', .int .i64 c']] w fun e w' => e = .returned (.bool true) ∧ Below w.heap.size w w' := by
  have HL : Hid (∀ W : World, Below w.heap.size w W → Calls Tryd.prog 12 #[] W fun e w' => e = .returned (.bool true) ∧ Below W.heap.size W w') := fun W hW => lives13_any W (h.below hW)
  have HF : Hid (∀ W : World, Below w.heap.size w W → Calls Tryd.prog 13 #[.agg #[.string g, .int .i64 k, .int .i64 n, .string s, .bool b, .int .i64 c], .agg #[.int .i64 k', .int .i64 n', .string s', .bool b', .int .i64 c']] W fun e w' => e = .returned (.bool (fitsR g.data.toList k n s b c k' n' s' b' c')) ∧ Below W.heap.size W w') := fun W hW => Fits_any g k n s b c k' n' s' b' c' W (h.below hW).signs hz hz'
  have HG : Hid (∀ W : World, Calls Tryd.prog 14 #[.agg #[.string g, .int .i64 k, .int .i64 n, .string s, .bool b, .int .i64 c], .agg #[.int .i64 k', .int .i64 n', .string s', .bool b', .int .i64 c']] W fun e w' => e = .returned (.bool (fitsR g.data.toList k n s b c k' n' s' b' c')) ∧ Below W.heap.size W w') := fun W => rFits_any g k n s b c k' n' s' b' c' W hz hz'
  cases hv : fitsR g.data.toList k n s b c k' n' s' b' c'
  · rw [hv] at HF HG
    exact fits_f HF HG HL
  · rw [hv] at HF HG
    exact fits_t HF HG HL
end Go.Proofs.YtpghgjibpbimeaaDoor
