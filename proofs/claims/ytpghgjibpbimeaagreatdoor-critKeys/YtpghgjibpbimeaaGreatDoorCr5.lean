/-
  The contracts of crit's Check, isAsked, standsSo and Fits.
-/
import Derived.Test.YtpghgjibpbimeaaGreatDoorCr3
import Derived.Test.YtpghgjibpbimeaaGreatDoorCr4
import Derived.Test.YtpghgjibpbimeaaGreatDoorKVal5
namespace Go.Proofs.YtpghgjibpbimeaaGreatDoor
open Go.RowKit
set_option linter.unusedSimpArgs false

theorem BoxC.new (w : World) {g : ByteArray} {k n : Int} {s : ByteArray} {b : Bool} {c : Int} : (w.alloc (.cells #[.string g, .int .i64 k, .int .i64 n, .string s, .bool b, .int .i64 c] 27)).cell? ⟨w.heap.size, 0, none⟩ = some (.string g) ∧ (w.alloc (.cells #[.string g, .int .i64 k, .int .i64 n, .string s, .bool b, .int .i64 c] 27)).cell? ⟨w.heap.size, 1, none⟩ = some (.int .i64 k) ∧ (w.alloc (.cells #[.string g, .int .i64 k, .int .i64 n, .string s, .bool b, .int .i64 c] 27)).cell? ⟨w.heap.size, 2, none⟩ = some (.int .i64 n) ∧ (w.alloc (.cells #[.string g, .int .i64 k, .int .i64 n, .string s, .bool b, .int .i64 c] 27)).cell? ⟨w.heap.size, 3, none⟩ = some (.string s) ∧ (w.alloc (.cells #[.string g, .int .i64 k, .int .i64 n, .string s, .bool b, .int .i64 c] 27)).cell? ⟨w.heap.size, 4, none⟩ = some (.bool b) ∧ (w.alloc (.cells #[.string g, .int .i64 k, .int .i64 n, .string s, .bool b, .int .i64 c] 27)).cell? ⟨w.heap.size, 5, none⟩ = some (.int .i64 c) ∧ w.heap.size < (w.alloc (.cells #[.string g, .int .i64 k, .int .i64 n, .string s, .bool b, .int .i64 c] 27)).heap.size ∧ Below w.heap.size w (w.alloc (.cells #[.string g, .int .i64 k, .int .i64 n, .string s, .bool b, .int .i64 c] 27)) := by
  refine ⟨?_, ?_, ?_, ?_, ?_, ?_, ?_, ?_⟩
  all_goals first | (simp [go_sem]; done) | skip
  exact ((Below.refl w.heap.size w).alloc (Nat.le_refl _) _)
theorem BoxC.below {w X Y : World} {g : ByteArray} {k n : Int} {s : ByteArray} {b : Bool} {c : Int} (h : X.cell? ⟨w.heap.size, 0, none⟩ = some (.string g) ∧ X.cell? ⟨w.heap.size, 1, none⟩ = some (.int .i64 k) ∧ X.cell? ⟨w.heap.size, 2, none⟩ = some (.int .i64 n) ∧ X.cell? ⟨w.heap.size, 3, none⟩ = some (.string s) ∧ X.cell? ⟨w.heap.size, 4, none⟩ = some (.bool b) ∧ X.cell? ⟨w.heap.size, 5, none⟩ = some (.int .i64 c) ∧ w.heap.size < X.heap.size ∧ Below w.heap.size w X) (z : Below X.heap.size X Y) : Y.cell? ⟨w.heap.size, 0, none⟩ = some (.string g) ∧ Y.cell? ⟨w.heap.size, 1, none⟩ = some (.int .i64 k) ∧ Y.cell? ⟨w.heap.size, 2, none⟩ = some (.int .i64 n) ∧ Y.cell? ⟨w.heap.size, 3, none⟩ = some (.string s) ∧ Y.cell? ⟨w.heap.size, 4, none⟩ = some (.bool b) ∧ Y.cell? ⟨w.heap.size, 5, none⟩ = some (.int .i64 c) ∧ w.heap.size < Y.heap.size ∧ Below w.heap.size w Y := by
  obtain ⟨a0, a1, a2, a3, a4, a5, l0, hb⟩ := h
  exact ⟨(z.cell (p := ⟨w.heap.size, 0, none⟩) l0).trans a0, (z.cell (p := ⟨w.heap.size, 1, none⟩) l0).trans a1, (z.cell (p := ⟨w.heap.size, 2, none⟩) l0).trans a2, (z.cell (p := ⟨w.heap.size, 3, none⟩) l0).trans a3, (z.cell (p := ⟨w.heap.size, 4, none⟩) l0).trans a4, (z.cell (p := ⟨w.heap.size, 5, none⟩) l0).trans a5, Nat.lt_of_lt_of_le l0 z.size, hb.trans (z.mono hb.size)⟩
theorem BoxC.drew {w X : World} {g : ByteArray} {k n : Int} {s : ByteArray} {b : Bool} {c : Int} (h : X.cell? ⟨w.heap.size, 0, none⟩ = some (.string g) ∧ X.cell? ⟨w.heap.size, 1, none⟩ = some (.int .i64 k) ∧ X.cell? ⟨w.heap.size, 2, none⟩ = some (.int .i64 n) ∧ X.cell? ⟨w.heap.size, 3, none⟩ = some (.string s) ∧ X.cell? ⟨w.heap.size, 4, none⟩ = some (.bool b) ∧ X.cell? ⟨w.heap.size, 5, none⟩ = some (.int .i64 c) ∧ w.heap.size < X.heap.size ∧ Below w.heap.size w X) : X.drew.cell? ⟨w.heap.size, 0, none⟩ = some (.string g) ∧ X.drew.cell? ⟨w.heap.size, 1, none⟩ = some (.int .i64 k) ∧ X.drew.cell? ⟨w.heap.size, 2, none⟩ = some (.int .i64 n) ∧ X.drew.cell? ⟨w.heap.size, 3, none⟩ = some (.string s) ∧ X.drew.cell? ⟨w.heap.size, 4, none⟩ = some (.bool b) ∧ X.drew.cell? ⟨w.heap.size, 5, none⟩ = some (.int .i64 c) ∧ w.heap.size < X.drew.heap.size ∧ Below w.heap.size w X.drew := by
  obtain ⟨a0, a1, a2, a3, a4, a5, l0, hb⟩ := h
  exact ⟨a0, a1, a2, a3, a4, a5, l0, hb.drew⟩
theorem BoxC.out {w X : World} {g : ByteArray} {k n : Int} {s : ByteArray} {b : Bool} {c : Int} (h : X.cell? ⟨w.heap.size, 0, none⟩ = some (.string g) ∧ X.cell? ⟨w.heap.size, 1, none⟩ = some (.int .i64 k) ∧ X.cell? ⟨w.heap.size, 2, none⟩ = some (.int .i64 n) ∧ X.cell? ⟨w.heap.size, 3, none⟩ = some (.string s) ∧ X.cell? ⟨w.heap.size, 4, none⟩ = some (.bool b) ∧ X.cell? ⟨w.heap.size, 5, none⟩ = some (.int .i64 c) ∧ w.heap.size < X.heap.size ∧ Below w.heap.size w X) : Below w.heap.size w X := by
  obtain ⟨a0, a1, a2, a3, a4, a5, l0, hb⟩ := h
  exact hb
/-- Is a criterion right? -/
def rightC (g : ByteArray) (k n : Int) (s : ByteArray) (b : Bool) (c : Int) : Bool := csignB g.data.toList && rightB k n s b c
def ccheckR (g : ByteArray) (k n : Int) (s : ByteArray) (b : Bool) (c : Int) : Int := if rightC g k n s b c then 0 else 2
set_option maxHeartbeats 1000000 in
theorem ccheck_any (g : ByteArray) (k n : Int) (s : ByteArray) (b : Bool) (c : Int) (w : World) (h1 : CSignsOk w) (hz : s.size ≤ maxLen) :
    Calls Tryz.prog 8 #[.agg #[.string g, .int .i64 k, .int .i64 n, .string s, .bool b, .int .i64 c]] w fun e w' => e = .returned (.int .i64 (ccheckR g k n s b c)) ∧ Below w.heap.size w w' := by
  have HV : Hid (∀ W : World, Calls Tryz.prog 24 #[.agg #[.int .i64 k, .int .i64 n, .string s, .bool b, .int .i64 c]] W fun e w' => e = .returned (.int .i64 (checkV k n s b c)) ∧ Below W.heap.size W w') := fun W => checkV_any k n s b c W hz
  have HG : Hid (∀ W : World, Below w.heap.size w W → Calls Tryz.prog 23 #[.string g] W fun e w' => e = .returned (.bool (csignB g.data.toList)) ∧ Below W.heap.size W w') := fun W hW => isSign_any g W (csigns_below h1 hW)
  have HN := hide (BoxC.new w (g := g) (k := k) (n := n) (s := s) (b := b) (c := c))
  unfold ccheckR rightC
  unfold checkV at HV
  clear hz h1
  cases e1 : csignB g.data.toList
  · rw [e1] at HG
    clear HV e1
    simp only [Bool.false_and, Bool.false_eq_true, if_false]
    go_enter Tryz.func8, Tryz.ntmps8
    go_wp2_with (first | (go_at_call 23; refine (HG.out _ (BoxC.out HN.out)).mono ?_; rintro e w1 ⟨rfl, hb1⟩; have HN1 := hide (BoxC.below HN.out hb1); clear hb1))
    go_ret
    exact ⟨rfl, BoxC.out HN1.out⟩
  · rw [e1] at HG
    clear e1
    simp only [Bool.true_and]
    cases e2 : rightB k n s b c
    · rw [e2] at HV
      simp only [Bool.false_eq_true, if_false] at HV ⊢
      clear e2
      go_enter Tryz.func8, Tryz.ntmps8
      go_wp2_with (first | (go_at_call 23; refine (HG.out _ (BoxC.out HN.out)).mono ?_; rintro e w1 ⟨rfl, hb1⟩; have HN1 := hide (BoxC.below HN.out hb1); obtain ⟨q0, q1, q2, q3, q4, q5, q6, q7⟩ := HN1.out; clear hb1) | (go_at_call 24; refine (HV.out _).mono ?_; rintro e w2 ⟨rfl, hb2⟩; have HN2 := hide (BoxC.below HN1.out hb2); clear hb2))
      go_ret
      exact ⟨rfl, BoxC.out HN2.out⟩
    · rw [e2] at HV
      simp only [if_true] at HV ⊢
      clear e2
      go_enter Tryz.func8, Tryz.ntmps8
      go_wp2_with (first | (go_at_call 23; refine (HG.out _ (BoxC.out HN.out)).mono ?_; rintro e w1 ⟨rfl, hb1⟩; have HN1 := hide (BoxC.below HN.out hb1); obtain ⟨q0, q1, q2, q3, q4, q5, q6, q7⟩ := HN1.out; clear hb1) | (go_at_call 24; refine (HV.out _).mono ?_; rintro e w2 ⟨rfl, hb2⟩; have HN2 := hide (BoxC.below HN1.out hb2); clear hb2))
      go_ret
      exact ⟨rfl, BoxC.out HN2.out⟩
/-- Is a value what = asks for? -/
def askedB (k n : Int) (s : ByteArray) (b : Bool) (c : Int) (k' n' : Int) (s' : ByteArray) (b' : Bool) (c' : Int) : Bool :=
  if k = 2 then decide (k' = 2) && likeR s.data.toList s'.data.toList else alikeV k n s b c k' n' s' b' c'
set_option maxHeartbeats 1000000 in
theorem isAsked_any (k n : Int) (s : ByteArray) (b : Bool) (c : Int) (k' n' : Int) (s' : ByteArray) (b' : Bool) (c' : Int) (w : World) (hz : s.size ≤ 140737488355328) (hz' : s'.size ≤ maxLen) :
    Calls Tryz.prog 48 #[.agg #[.int .i64 k, .int .i64 n, .string s, .bool b, .int .i64 c], .agg #[.int .i64 k', .int .i64 n', .string s', .bool b', .int .i64 c']] w fun e w' => e = .returned (.bool (askedB k n s b c k' n' s' b' c')) ∧ Below w.heap.size w w' := by
  have HA : Hid (∀ W : World, Calls Tryz.prog 63 #[.agg #[.int .i64 k, .int .i64 n, .string s, .bool b, .int .i64 c], .agg #[.int .i64 k', .int .i64 n', .string s', .bool b', .int .i64 c']] W fun e w' => e = .returned (.bool (alikeV k n s b c k' n' s' b' c')) ∧ Below W.heap.size W w') := fun W => alikeV_any k n s b c k' n' s' b' c' W (by unfold maxLen; omega) hz'
  have HL : Hid (∀ W : World, Calls Tryz.prog 21 #[.string s, .string s'] W fun e w' => e = .returned (.bool (likeR s.data.toList s'.data.toList)) ∧ Below W.heap.size W w') := fun W => Like_any s s' W hz hz'
  have HN := hide (Box2.new w k n s b c k' n' s' b' c')
  unfold askedB
  clear hz hz'
  by_cases hk : k = 2
  · subst hk
    rw [if_pos rfl]
    by_cases hk' : k' = 2
    · subst hk'
      simp only [decide_true, Bool.true_and]
      go_enter Tryz.func48, Tryz.ntmps48
      go_wp2_with (first | (go_at_call 21; refine (HL.out _).mono ?_; rintro e w2 ⟨rfl, hb2⟩; have HN1 := hide (Box2.below HN.out hb2); clear hb2))
      go_ret
      exact ⟨rfl, Box2.out HN1.out⟩
    · have e1 : (k' == 2) = false := by simp [hk']
      simp only [hk', decide_false, Bool.false_and]
      go_enter Tryz.func48, Tryz.ntmps48
      go_wp2_with (first | (go_at_call 21; refine (HL.out _).mono ?_; rintro e w2 ⟨rfl, hb2⟩; have HN1 := hide (Box2.below HN.out hb2); clear hb2))
      go_ret
      exact ⟨rfl, Box2.out HN.out⟩
  · have e1 : (k == 2) = false := by simp [hk]
    rw [if_neg hk]
    clear hk
    go_enter Tryz.func48, Tryz.ntmps48
    go_wp2_with (first | (go_at_call 63; refine (HA.out _).mono ?_; rintro e w2 ⟨rfl, hb2⟩; have HN1 := hide (Box2.below HN.out hb2); clear hb2))
    go_ret
    exact ⟨rfl, Box2.out HN1.out⟩
/-- Is a sign so, of how two values stand? -/
def soB (l : List UInt8) (o : Int) : Bool := if l = [60] then decide (o < 0) else if l = [62] then decide (0 < o) else if l = [60, 61] then decide (o ≤ 0) else decide (0 ≤ o)
theorem sign_or (g : ByteArray) : (g = ⟨#[60]⟩) ∨ (g = ⟨#[62]⟩) ∨ (g = ⟨#[60, 61]⟩) ∨ ((g.toList == [60]) = false ∧ (g.toList == [62]) = false ∧ (g.toList == [60, 61]) = false ∧ g.data.toList ≠ [60] ∧ g.data.toList ≠ [62] ∧ g.data.toList ≠ [60, 61]) := by
  have hq : g.toList = g.data.toList := by rw [ByteArray.toList_eq]
  by_cases h1 : g.data.toList = [60]
  · exact .inl (by rw [← ba_eta g, h1])
  by_cases h2 : g.data.toList = [62]
  · exact .inr (.inl (by rw [← ba_eta g, h2]))
  by_cases h3 : g.data.toList = [60, 61]
  · exact .inr (.inr (.inl (by rw [← ba_eta g, h3])))
  · exact .inr (.inr (.inr ⟨by rw [hq]; simpa using h1, by rw [hq]; simpa using h2, by rw [hq]; simpa using h3, h1, h2, h3⟩))
set_option maxHeartbeats 1000000 in
theorem standsSo_any (k n : Int) (s : ByteArray) (b : Bool) (c : Int) (g : ByteArray) (k' n' : Int) (s' : ByteArray) (b' : Bool) (c' : Int) (w : World) (hz : s.size ≤ maxLen) (hz' : s'.size ≤ maxLen) :
    Calls Tryz.prog 50 #[.agg #[.int .i64 k, .int .i64 n, .string s, .bool b, .int .i64 c], .string g, .agg #[.int .i64 k', .int .i64 n', .string s', .bool b', .int .i64 c']] w fun e w' => e = .returned (.bool (soB g.data.toList (compareV k n s b c k' n' s' b' c').1)) ∧ Below w.heap.size w w' := by
  have HC : Hid (∀ W : World, Calls Tryz.prog 64 #[.agg #[.int .i64 k, .int .i64 n, .string s, .bool b, .int .i64 c], .agg #[.int .i64 k', .int .i64 n', .string s', .bool b', .int .i64 c']] W fun e w' => e = .returned (.tuple #[.int .i64 (compareV k n s b c k' n' s' b' c').1, .int .i64 (compareV k n s b c k' n' s' b' c').2]) ∧ Below W.heap.size W w') := fun W => compareV_any k n s b c k' n' s' b' c' W hz hz'
  have HN := hide (Box2.new w k n s b c k' n' s' b' c')
  clear hz hz'
  generalize (compareV k n s b c k' n' s' b' c').1 = O at *
  generalize (compareV k n s b c k' n' s' b' c').2 = E at *
  rcases sign_or g with rfl | rfl | rfl | ⟨e1, e2, e3, h1, h2, h3⟩
  · have HE : Hid (soB [60] O = decide (O < 0)) := rfl
    go_enter Tryz.func50, Tryz.ntmps50
    go_wp2_with (first | (go_at_call 64; refine (HC.out _).mono ?_; rintro e w2 ⟨rfl, hb2⟩; have HN1 := hide (Box2.below HN.out hb2); clear hb2))
    all_goals go_ret
    all_goals exact ⟨by rw [HE.out]; simp [*], Box2.out HN1.out⟩
  · have HE : Hid (soB [62] O = decide (0 < O)) := rfl
    go_enter Tryz.func50, Tryz.ntmps50
    go_wp2_with (first | (go_at_call 64; refine (HC.out _).mono ?_; rintro e w2 ⟨rfl, hb2⟩; have HN1 := hide (Box2.below HN.out hb2); clear hb2))
    all_goals go_ret
    all_goals exact ⟨by rw [HE.out]; simp [*], Box2.out HN1.out⟩
  · have HE : Hid (soB [60, 61] O = decide (O ≤ 0)) := rfl
    go_enter Tryz.func50, Tryz.ntmps50
    go_wp2_with (first | (go_at_call 64; refine (HC.out _).mono ?_; rintro e w2 ⟨rfl, hb2⟩; have HN1 := hide (Box2.below HN.out hb2); clear hb2))
    all_goals go_ret
    all_goals exact ⟨by rw [HE.out]; simp [*], Box2.out HN1.out⟩
  · have HE : Hid (soB g.data.toList O = decide (0 ≤ O)) := by show _ = _; unfold soB; rw [if_neg h1, if_neg h2, if_neg h3]
    clear h1 h2 h3
    go_enter Tryz.func50, Tryz.ntmps50
    go_wp2_with (first | (go_at_call 64; refine (HC.out _).mono ?_; rintro e w2 ⟨rfl, hb2⟩; have HN1 := hide (Box2.below HN.out hb2); clear hb2))
    all_goals go_ret
    all_goals exact ⟨by rw [HE.out]; simp [*], Box2.out HN1.out⟩
end Go.Proofs.YtpghgjibpbimeaaGreatDoor
