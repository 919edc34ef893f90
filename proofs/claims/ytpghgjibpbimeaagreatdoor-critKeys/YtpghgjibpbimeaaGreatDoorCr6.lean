/-
  The contract of crit's Fits.
-/
import Derived.Test.YtpghgjibpbimeaaGreatDoorCr5
namespace Go.Proofs.YtpghgjibpbimeaaGreatDoor
open Go.RowKit
set_option linter.unusedSimpArgs false

theorem BoxCV.new (w : World) {g : ByteArray} {k n : Int} {s : ByteArray} {b : Bool} {c : Int} {k' n' : Int} {s' : ByteArray} {b' : Bool} {c' : Int} : ((w.alloc (.cells #[.string g, .int .i64 k, .int .i64 n, .string s, .bool b, .int .i64 c] 27)).alloc (.cells #[.int .i64 k', .int .i64 n', .string s', .bool b', .int .i64 c'] 25)).cell? ⟨w.heap.size, 0, none⟩ = some (.string g) ∧ ((w.alloc (.cells #[.string g, .int .i64 k, .int .i64 n, .string s, .bool b, .int .i64 c] 27)).alloc (.cells #[.int .i64 k', .int .i64 n', .string s', .bool b', .int .i64 c'] 25)).cell? ⟨w.heap.size, 1, none⟩ = some (.int .i64 k) ∧ ((w.alloc (.cells #[.string g, .int .i64 k, .int .i64 n, .string s, .bool b, .int .i64 c] 27)).alloc (.cells #[.int .i64 k', .int .i64 n', .string s', .bool b', .int .i64 c'] 25)).cell? ⟨w.heap.size, 2, none⟩ = some (.int .i64 n) ∧ ((w.alloc (.cells #[.string g, .int .i64 k, .int .i64 n, .string s, .bool b, .int .i64 c] 27)).alloc (.cells #[.int .i64 k', .int .i64 n', .string s', .bool b', .int .i64 c'] 25)).cell? ⟨w.heap.size, 3, none⟩ = some (.string s) ∧ ((w.alloc (.cells #[.string g, .int .i64 k, .int .i64 n, .string s, .bool b, .int .i64 c] 27)).alloc (.cells #[.int .i64 k', .int .i64 n', .string s', .bool b', .int .i64 c'] 25)).cell? ⟨w.heap.size, 4, none⟩ = some (.bool b) ∧ ((w.alloc (.cells #[.string g, .int .i64 k, .int .i64 n, .string s, .bool b, .int .i64 c] 27)).alloc (.cells #[.int .i64 k', .int .i64 n', .string s', .bool b', .int .i64 c'] 25)).cell? ⟨w.heap.size, 5, none⟩ = some (.int .i64 c) ∧ ((w.alloc (.cells #[.string g, .int .i64 k, .int .i64 n, .string s, .bool b, .int .i64 c] 27)).alloc (.cells #[.int .i64 k', .int .i64 n', .string s', .bool b', .int .i64 c'] 25)).cell? ⟨w.heap.size + 1, 0, none⟩ = some (.int .i64 k') ∧ ((w.alloc (.cells #[.string g, .int .i64 k, .int .i64 n, .string s, .bool b, .int .i64 c] 27)).alloc (.cells #[.int .i64 k', .int .i64 n', .string s', .bool b', .int .i64 c'] 25)).cell? ⟨w.heap.size + 1, 1, none⟩ = some (.int .i64 n') ∧ ((w.alloc (.cells #[.string g, .int .i64 k, .int .i64 n, .string s, .bool b, .int .i64 c] 27)).alloc (.cells #[.int .i64 k', .int .i64 n', .string s', .bool b', .int .i64 c'] 25)).cell? ⟨w.heap.size + 1, 2, none⟩ = some (.string s') ∧ ((w.alloc (.cells #[.string g, .int .i64 k, .int .i64 n, .string s, .bool b, .int .i64 c] 27)).alloc (.cells #[.int .i64 k', .int .i64 n', .string s', .bool b', .int .i64 c'] 25)).cell? ⟨w.heap.size + 1, 3, none⟩ = some (.bool b') ∧ ((w.alloc (.cells #[.string g, .int .i64 k, .int .i64 n, .string s, .bool b, .int .i64 c] 27)).alloc (.cells #[.int .i64 k', .int .i64 n', .string s', .bool b', .int .i64 c'] 25)).cell? ⟨w.heap.size + 1, 4, none⟩ = some (.int .i64 c') ∧ w.heap.size < ((w.alloc (.cells #[.string g, .int .i64 k, .int .i64 n, .string s, .bool b, .int .i64 c] 27)).alloc (.cells #[.int .i64 k', .int .i64 n', .string s', .bool b', .int .i64 c'] 25)).heap.size ∧ w.heap.size + 1 < ((w.alloc (.cells #[.string g, .int .i64 k, .int .i64 n, .string s, .bool b, .int .i64 c] 27)).alloc (.cells #[.int .i64 k', .int .i64 n', .string s', .bool b', .int .i64 c'] 25)).heap.size ∧ Below w.heap.size w ((w.alloc (.cells #[.string g, .int .i64 k, .int .i64 n, .string s, .bool b, .int .i64 c] 27)).alloc (.cells #[.int .i64 k', .int .i64 n', .string s', .bool b', .int .i64 c'] 25)) := by
  refine ⟨?_, ?_, ?_, ?_, ?_, ?_, ?_, ?_, ?_, ?_, ?_, ?_, ?_, ?_⟩
  all_goals first | (simp [go_sem]; done) | skip
  exact (((Below.refl w.heap.size w).alloc (Nat.le_refl _) _).alloc (by simp) _)
theorem BoxCV.below {w X Y : World} {g : ByteArray} {k n : Int} {s : ByteArray} {b : Bool} {c : Int} {k' n' : Int} {s' : ByteArray} {b' : Bool} {c' : Int} (h : X.cell? ⟨w.heap.size, 0, none⟩ = some (.string g) ∧ X.cell? ⟨w.heap.size, 1, none⟩ = some (.int .i64 k) ∧ X.cell? ⟨w.heap.size, 2, none⟩ = some (.int .i64 n) ∧ X.cell? ⟨w.heap.size, 3, none⟩ = some (.string s) ∧ X.cell? ⟨w.heap.size, 4, none⟩ = some (.bool b) ∧ X.cell? ⟨w.heap.size, 5, none⟩ = some (.int .i64 c) ∧ X.cell? ⟨w.heap.size + 1, 0, none⟩ = some (.int .i64 k') ∧ X.cell? ⟨w.heap.size + 1, 1, none⟩ = some (.int .i64 n') ∧ X.cell? ⟨w.heap.size + 1, 2, none⟩ = some (.string s') ∧ X.cell? ⟨w.heap.size + 1, 3, none⟩ = some (.bool b') ∧ X.cell? ⟨w.heap.size + 1, 4, none⟩ = some (.int .i64 c') ∧ w.heap.size < X.heap.size ∧ w.heap.size + 1 < X.heap.size ∧ Below w.heap.size w X) (z : Below X.heap.size X Y) : Y.cell? ⟨w.heap.size, 0, none⟩ = some (.string g) ∧ Y.cell? ⟨w.heap.size, 1, none⟩ = some (.int .i64 k) ∧ Y.cell? ⟨w.heap.size, 2, none⟩ = some (.int .i64 n) ∧ Y.cell? ⟨w.heap.size, 3, none⟩ = some (.string s) ∧ Y.cell? ⟨w.heap.size, 4, none⟩ = some (.bool b) ∧ Y.cell? ⟨w.heap.size, 5, none⟩ = some (.int .i64 c) ∧ Y.cell? ⟨w.heap.size + 1, 0, none⟩ = some (.int .i64 k') ∧ Y.cell? ⟨w.heap.size + 1, 1, none⟩ = some (.int .i64 n') ∧ Y.cell? ⟨w.heap.size + 1, 2, none⟩ = some (.string s') ∧ Y.cell? ⟨w.heap.size + 1, 3, none⟩ = some (.bool b') ∧ Y.cell? ⟨w.heap.size + 1, 4, none⟩ = some (.int .i64 c') ∧ w.heap.size < Y.heap.size ∧ w.heap.size + 1 < Y.heap.size ∧ Below w.heap.size w Y := by
  obtain ⟨a0, a1, a2, a3, a4, a5, a6, a7, a8, a9, a10, l0, l1, hb⟩ := h
  exact ⟨(z.cell (p := ⟨w.heap.size, 0, none⟩) l0).trans a0, (z.cell (p := ⟨w.heap.size, 1, none⟩) l0).trans a1, (z.cell (p := ⟨w.heap.size, 2, none⟩) l0).trans a2, (z.cell (p := ⟨w.heap.size, 3, none⟩) l0).trans a3, (z.cell (p := ⟨w.heap.size, 4, none⟩) l0).trans a4, (z.cell (p := ⟨w.heap.size, 5, none⟩) l0).trans a5, (z.cell (p := ⟨w.heap.size + 1, 0, none⟩) l1).trans a6, (z.cell (p := ⟨w.heap.size + 1, 1, none⟩) l1).trans a7, (z.cell (p := ⟨w.heap.size + 1, 2, none⟩) l1).trans a8, (z.cell (p := ⟨w.heap.size + 1, 3, none⟩) l1).trans a9, (z.cell (p := ⟨w.heap.size + 1, 4, none⟩) l1).trans a10, Nat.lt_of_lt_of_le l0 z.size, Nat.lt_of_lt_of_le l1 z.size, hb.trans (z.mono hb.size)⟩
theorem BoxCV.drew {w X : World} {g : ByteArray} {k n : Int} {s : ByteArray} {b : Bool} {c : Int} {k' n' : Int} {s' : ByteArray} {b' : Bool} {c' : Int} (h : X.cell? ⟨w.heap.size, 0, none⟩ = some (.string g) ∧ X.cell? ⟨w.heap.size, 1, none⟩ = some (.int .i64 k) ∧ X.cell? ⟨w.heap.size, 2, none⟩ = some (.int .i64 n) ∧ X.cell? ⟨w.heap.size, 3, none⟩ = some (.string s) ∧ X.cell? ⟨w.heap.size, 4, none⟩ = some (.bool b) ∧ X.cell? ⟨w.heap.size, 5, none⟩ = some (.int .i64 c) ∧ X.cell? ⟨w.heap.size + 1, 0, none⟩ = some (.int .i64 k') ∧ X.cell? ⟨w.heap.size + 1, 1, none⟩ = some (.int .i64 n') ∧ X.cell? ⟨w.heap.size + 1, 2, none⟩ = some (.string s') ∧ X.cell? ⟨w.heap.size + 1, 3, none⟩ = some (.bool b') ∧ X.cell? ⟨w.heap.size + 1, 4, none⟩ = some (.int .i64 c') ∧ w.heap.size < X.heap.size ∧ w.heap.size + 1 < X.heap.size ∧ Below w.heap.size w X) : X.drew.cell? ⟨w.heap.size, 0, none⟩ = some (.string g) ∧ X.drew.cell? ⟨w.heap.size, 1, none⟩ = some (.int .i64 k) ∧ X.drew.cell? ⟨w.heap.size, 2, none⟩ = some (.int .i64 n) ∧ X.drew.cell? ⟨w.heap.size, 3, none⟩ = some (.string s) ∧ X.drew.cell? ⟨w.heap.size, 4, none⟩ = some (.bool b) ∧ X.drew.cell? ⟨w.heap.size, 5, none⟩ = some (.int .i64 c) ∧ X.drew.cell? ⟨w.heap.size + 1, 0, none⟩ = some (.int .i64 k') ∧ X.drew.cell? ⟨w.heap.size + 1, 1, none⟩ = some (.int .i64 n') ∧ X.drew.cell? ⟨w.heap.size + 1, 2, none⟩ = some (.string s') ∧ X.drew.cell? ⟨w.heap.size + 1, 3, none⟩ = some (.bool b') ∧ X.drew.cell? ⟨w.heap.size + 1, 4, none⟩ = some (.int .i64 c') ∧ w.heap.size < X.drew.heap.size ∧ w.heap.size + 1 < X.drew.heap.size ∧ Below w.heap.size w X.drew := by
  obtain ⟨a0, a1, a2, a3, a4, a5, a6, a7, a8, a9, a10, l0, l1, hb⟩ := h
  exact ⟨a0, a1, a2, a3, a4, a5, a6, a7, a8, a9, a10, l0, l1, hb.drew⟩
theorem BoxCV.out {w X : World} {g : ByteArray} {k n : Int} {s : ByteArray} {b : Bool} {c : Int} {k' n' : Int} {s' : ByteArray} {b' : Bool} {c' : Int} (h : X.cell? ⟨w.heap.size, 0, none⟩ = some (.string g) ∧ X.cell? ⟨w.heap.size, 1, none⟩ = some (.int .i64 k) ∧ X.cell? ⟨w.heap.size, 2, none⟩ = some (.int .i64 n) ∧ X.cell? ⟨w.heap.size, 3, none⟩ = some (.string s) ∧ X.cell? ⟨w.heap.size, 4, none⟩ = some (.bool b) ∧ X.cell? ⟨w.heap.size, 5, none⟩ = some (.int .i64 c) ∧ X.cell? ⟨w.heap.size + 1, 0, none⟩ = some (.int .i64 k') ∧ X.cell? ⟨w.heap.size + 1, 1, none⟩ = some (.int .i64 n') ∧ X.cell? ⟨w.heap.size + 1, 2, none⟩ = some (.string s') ∧ X.cell? ⟨w.heap.size + 1, 3, none⟩ = some (.bool b') ∧ X.cell? ⟨w.heap.size + 1, 4, none⟩ = some (.int .i64 c') ∧ w.heap.size < X.heap.size ∧ w.heap.size + 1 < X.heap.size ∧ Below w.heap.size w X) : Below w.heap.size w X := by
  obtain ⟨a0, a1, a2, a3, a4, a5, a6, a7, a8, a9, a10, l0, l1, hb⟩ := h
  exact hb
theorem right_size {k n : Int} {s : ByteArray} {b : Bool} {c : Int} (h : rightB k n s b c = true) : s.size ≤ 255 := by
  rcases right_cases h with ⟨_, _, rfl, _⟩ | ⟨_, _, rfl, _⟩ | ⟨_, _, h, _⟩ | ⟨_, _, rfl, _⟩ | ⟨_, _, rfl, _⟩
  · decide
  · decide
  · exact h
  · decide
  · decide
/-- Does a value fit a right criterion? -/
def fitR (l : List UInt8) (k n : Int) (s : ByteArray) (b : Bool) (c : Int) (k' n' : Int) (s' : ByteArray) (b' : Bool) (c' : Int) : Bool :=
  if l = [61] then askedB k n s b c k' n' s' b' c' else if l = [60, 62] then !askedB k n s b c k' n' s' b' c' else decide (k' = k) && hasOrdB k' && soB l (compareV k' n' s' b' c' k n s b c).1
def fitsR (l : List UInt8) (k n : Int) (s : ByteArray) (b : Bool) (c : Int) (k' n' : Int) (s' : ByteArray) (b' : Bool) (c' : Int) : Bool :=
  (csignB l && rightB k n s b c) && rightB k' n' s' b' c' && fitR l k n s b c k' n' s' b' c'
set_option maxHeartbeats 2000000 in
theorem Fits_any (g : ByteArray) (k n : Int) (s : ByteArray) (b : Bool) (c : Int) (k' n' : Int) (s' : ByteArray) (b' : Bool) (c' : Int) (w : World) (h1 : CSignsOk w) (hz : s.size ≤ maxLen) (hz' : s'.size ≤ maxLen) :
    Calls Tryz.prog 35 #[.agg #[.string g, .int .i64 k, .int .i64 n, .string s, .bool b, .int .i64 c], .agg #[.int .i64 k', .int .i64 n', .string s', .bool b', .int .i64 c']] w fun e w' => e = .returned (.bool (fitsR g.data.toList k n s b c k' n' s' b' c')) ∧ Below w.heap.size w w' := by
  have HC : Hid (∀ W : World, Below w.heap.size w W → Calls Tryz.prog 8 #[.agg #[.string g, .int .i64 k, .int .i64 n, .string s, .bool b, .int .i64 c]] W fun e w' => e = .returned (.int .i64 (ccheckR g k n s b c)) ∧ Below W.heap.size W w') := fun W hW => ccheck_any g k n s b c W (csigns_below h1 hW) hz
  have HV : Hid (∀ W : World, Calls Tryz.prog 24 #[.agg #[.int .i64 k', .int .i64 n', .string s', .bool b', .int .i64 c']] W fun e w' => e = .returned (.int .i64 (checkV k' n' s' b' c')) ∧ Below W.heap.size W w') := fun W => checkV_any k' n' s' b' c' W hz'
  have HN := hide (BoxCV.new w (g := g) (k := k) (n := n) (s := s) (b := b) (c := c) (k' := k') (n' := n') (s' := s') (b' := b') (c' := c'))
  unfold fitsR
  unfold ccheckR rightC at HC
  unfold checkV at HV
  clear h1
  cases er : csignB g.data.toList && rightB k n s b c
  · rw [er] at HC
    simp only [Bool.false_and, Bool.false_eq_true, if_false] at HC ⊢
    clear HV er hz hz'
    go_enter Tryz.func35, Tryz.ntmps35
    go_wp2_with (first | (go_at_call 8; refine (HC.out _ (BoxCV.out HN.out)).mono ?_; rintro e w1 ⟨rfl, hb1⟩; have HN1 := hide (BoxCV.below HN.out hb1); obtain ⟨q0, q1, q2, q3, q4, q5, q6, q7, q8, q9, q10, q11, q12, q13⟩ := HN1.out; clear hb1))
    go_ret
    exact ⟨rfl, BoxCV.out HN1.out⟩
  cases er' : rightB k' n' s' b' c'
  · rw [er] at HC
    rw [er'] at HV
    simp only [Bool.and_false, Bool.false_and, Bool.false_eq_true, if_false, if_true] at HC HV ⊢
    clear er er' hz hz'
    go_enter Tryz.func35, Tryz.ntmps35
    go_wp2_with (first | (go_at_call 8; refine (HC.out _ (BoxCV.out HN.out)).mono ?_; rintro e w1 ⟨rfl, hb1⟩; have HN1 := hide (BoxCV.below HN.out hb1); obtain ⟨q0, q1, q2, q3, q4, q5, q6, q7, q8, q9, q10, q11, q12, q13⟩ := HN1.out; clear hb1) | (go_at_call 24; refine (HV.out _).mono ?_; rintro e w1 ⟨rfl, hb1⟩; have HN2 := hide (BoxCV.below HN1.out hb1); obtain ⟨q0, q1, q2, q3, q4, q5, q6, q7, q8, q9, q10, q11, q12, q13⟩ := HN2.out; clear hb1))
    go_ret
    exact ⟨rfl, BoxCV.out HN2.out⟩
  rw [er] at HC
  rw [er'] at HV
  have e0 := (Bool.and_eq_true_iff.1 er).2
  have z1 := right_size e0
  have z2 := right_size er'
  simp only [Bool.and_self, Bool.true_and, if_true] at HC HV ⊢
  clear er er' e0
  unfold fitR
  have hq : g.toList = g.data.toList := by rw [ByteArray.toList_eq]
  by_cases e1 : g.data.toList = [61]
  · obtain rfl : g = ⟨#[61]⟩ := by rw [← ba_eta g, e1]
    rw [if_pos rfl]
    have HA : Hid (∀ W : World, Calls Tryz.prog 48 #[.agg #[.int .i64 k, .int .i64 n, .string s, .bool b, .int .i64 c], .agg #[.int .i64 k', .int .i64 n', .string s', .bool b', .int .i64 c']] W fun e w' => e = .returned (.bool (askedB k n s b c k' n' s' b' c')) ∧ Below W.heap.size W w') := fun W => isAsked_any k n s b c k' n' s' b' c' W (by omega) hz'
    generalize askedB k n s b c k' n' s' b' c' = R at *
    clear hz hz' z1 z2 e1 hq
    go_enter Tryz.func35, Tryz.ntmps35
    go_wp2_with (first | (go_at_call 8; refine (HC.out _ (BoxCV.out HN.out)).mono ?_; rintro e w1 ⟨rfl, hb1⟩; have HN1 := hide (BoxCV.below HN.out hb1); obtain ⟨q0, q1, q2, q3, q4, q5, q6, q7, q8, q9, q10, q11, q12, q13⟩ := HN1.out; clear hb1) | (go_at_call 24; refine (HV.out _).mono ?_; rintro e w1 ⟨rfl, hb1⟩; have HN2 := hide (BoxCV.below HN1.out hb1); obtain ⟨q0, q1, q2, q3, q4, q5, q6, q7, q8, q9, q10, q11, q12, q13⟩ := HN2.out; clear hb1) | (go_at_call 48; refine (HA.out _).mono ?_; rintro e w1 ⟨rfl, hb1⟩; have HN3 := hide (BoxCV.below HN2.out hb1); clear hb1))
    go_ret
    exact ⟨rfl, BoxCV.out HN3.out⟩
  have t1 : (g.toList == [61]) = false := by rw [hq]; simpa using e1
  rw [if_neg e1]
  by_cases e2 : g.data.toList = [60, 62]
  · obtain rfl : g = ⟨#[60, 62]⟩ := by rw [← ba_eta g, e2]
    rw [if_pos rfl]
    have HA : Hid (∀ W : World, Calls Tryz.prog 48 #[.agg #[.int .i64 k, .int .i64 n, .string s, .bool b, .int .i64 c], .agg #[.int .i64 k', .int .i64 n', .string s', .bool b', .int .i64 c']] W fun e w' => e = .returned (.bool (askedB k n s b c k' n' s' b' c')) ∧ Below W.heap.size W w') := fun W => isAsked_any k n s b c k' n' s' b' c' W (by omega) hz'
    generalize askedB k n s b c k' n' s' b' c' = R at *
    clear hz hz' z1 z2 e1 e2 hq
    go_enter Tryz.func35, Tryz.ntmps35
    go_wp2_with (first | (go_at_call 8; refine (HC.out _ (BoxCV.out HN.out)).mono ?_; rintro e w1 ⟨rfl, hb1⟩; have HN1 := hide (BoxCV.below HN.out hb1); obtain ⟨q0, q1, q2, q3, q4, q5, q6, q7, q8, q9, q10, q11, q12, q13⟩ := HN1.out; clear hb1) | (go_at_call 24; refine (HV.out _).mono ?_; rintro e w1 ⟨rfl, hb1⟩; have HN2 := hide (BoxCV.below HN1.out hb1); obtain ⟨q0, q1, q2, q3, q4, q5, q6, q7, q8, q9, q10, q11, q12, q13⟩ := HN2.out; clear hb1) | (go_at_call 48; refine (HA.out _).mono ?_; rintro e w1 ⟨rfl, hb1⟩; have HN3 := hide (BoxCV.below HN2.out hb1); clear hb1))
    go_ret
    exact ⟨rfl, BoxCV.out HN3.out⟩
  have t2 : (g.toList == [60, 62]) = false := by rw [hq]; simpa using e2
  rw [if_neg e2]
  have HO : Hid (∀ W : World, Calls Tryz.prog 49 #[.int .i64 k'] W fun e w' => e = .returned (.bool (hasOrdB k')) ∧ w' = W) := fun W => hasOrder_any k' W
  have HS : Hid (∀ W : World, Calls Tryz.prog 50 #[.agg #[.int .i64 k', .int .i64 n', .string s', .bool b', .int .i64 c'], .string g, .agg #[.int .i64 k, .int .i64 n, .string s, .bool b, .int .i64 c]] W fun e w' => e = .returned (.bool (soB g.data.toList (compareV k' n' s' b' c' k n s b c).1)) ∧ Below W.heap.size W w') := fun W => standsSo_any k' n' s' b' c' g k n s b c W hz' hz
  generalize soB g.data.toList (compareV k' n' s' b' c' k n s b c).1 = R at *
  clear hz hz' z1 z2 e1 e2 hq
  by_cases hk : k' = k
  · subst hk
    simp only [decide_true, Bool.true_and]
    cases ho : hasOrdB k'
    · rw [ho] at HO
      simp only [Bool.false_and]
      clear ho
      go_enter Tryz.func35, Tryz.ntmps35
      go_wp2_with (first | (go_at_call 8; refine (HC.out _ (BoxCV.out HN.out)).mono ?_; rintro e w1 ⟨rfl, hb1⟩; have HN1 := hide (BoxCV.below HN.out hb1); obtain ⟨q0, q1, q2, q3, q4, q5, q6, q7, q8, q9, q10, q11, q12, q13⟩ := HN1.out; clear hb1) | (go_at_call 24; refine (HV.out _).mono ?_; rintro e w1 ⟨rfl, hb1⟩; have HN2 := hide (BoxCV.below HN1.out hb1); obtain ⟨q0, q1, q2, q3, q4, q5, q6, q7, q8, q9, q10, q11, q12, q13⟩ := HN2.out; clear hb1) | (go_at_call 49; refine (HO.out _).mono ?_; rintro e w3 ⟨rfl, rfl⟩))
      go_ret
      exact ⟨rfl, BoxCV.out HN2.out⟩
    · rw [ho] at HO
      simp only [Bool.true_and]
      clear ho
      go_enter Tryz.func35, Tryz.ntmps35
      go_wp2_with (first | (go_at_call 8; refine (HC.out _ (BoxCV.out HN.out)).mono ?_; rintro e w1 ⟨rfl, hb1⟩; have HN1 := hide (BoxCV.below HN.out hb1); obtain ⟨q0, q1, q2, q3, q4, q5, q6, q7, q8, q9, q10, q11, q12, q13⟩ := HN1.out; clear hb1) | (go_at_call 24; refine (HV.out _).mono ?_; rintro e w1 ⟨rfl, hb1⟩; have HN2 := hide (BoxCV.below HN1.out hb1); obtain ⟨q0, q1, q2, q3, q4, q5, q6, q7, q8, q9, q10, q11, q12, q13⟩ := HN2.out; clear hb1) | (go_at_call 49; refine (HO.out _).mono ?_; rintro e w3 ⟨rfl, rfl⟩) | (go_at_call 50; refine (HS.out _).mono ?_; rintro e w1 ⟨rfl, hb1⟩; have HN3 := hide (BoxCV.below HN2.out hb1); clear hb1))
      go_ret
      exact ⟨rfl, BoxCV.out HN3.out⟩
  · have e1 : (k' == k) = false := by simp [hk]
    have e2 : (k == k') = false := by rw [beq_eq_false_iff_ne]; exact fun h => hk h.symm
    rw [decide_eq_false hk]
    simp only [Bool.false_and]
    go_enter Tryz.func35, Tryz.ntmps35
    go_wp2_with (first | (go_at_call 8; refine (HC.out _ (BoxCV.out HN.out)).mono ?_; rintro e w1 ⟨rfl, hb1⟩; have HN1 := hide (BoxCV.below HN.out hb1); obtain ⟨q0, q1, q2, q3, q4, q5, q6, q7, q8, q9, q10, q11, q12, q13⟩ := HN1.out; clear hb1) | (go_at_call 24; refine (HV.out _).mono ?_; rintro e w1 ⟨rfl, hb1⟩; have HN2 := hide (BoxCV.below HN1.out hb1); obtain ⟨q0, q1, q2, q3, q4, q5, q6, q7, q8, q9, q10, q11, q12, q13⟩ := HN2.out; clear hb1))
    go_ret
    exact ⟨rfl, BoxCV.out HN2.out⟩
end Go.Proofs.YtpghgjibpbimeaaGreatDoor
