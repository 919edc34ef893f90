/-
  The answer's Keyed and SameKey.
-/
import Derived.Test.YtpghgjibpbimeaaGreatDoorCk3
namespace Go.Proofs.YtpghgjibpbimeaaGreatDoor
open Go.RowKit
set_option linter.unusedSimpArgs false
set_option linter.unusedVariables false

theorem BoxCC.new (w : World) {g : ByteArray} {k n : Int} {s : ByteArray} {b : Bool} {c : Int} {g' : ByteArray} {k' n' : Int} {s' : ByteArray} {b' : Bool} {c' : Int} : ((w.alloc (.cells #[.string g, .int .i64 k, .int .i64 n, .string s, .bool b, .int .i64 c] 27)).alloc (.cells #[.string g', .int .i64 k', .int .i64 n', .string s', .bool b', .int .i64 c'] 27)).cell? ⟨w.heap.size, 0, none⟩ = some (.string g) ∧ ((w.alloc (.cells #[.string g, .int .i64 k, .int .i64 n, .string s, .bool b, .int .i64 c] 27)).alloc (.cells #[.string g', .int .i64 k', .int .i64 n', .string s', .bool b', .int .i64 c'] 27)).cell? ⟨w.heap.size, 1, none⟩ = some (.int .i64 k) ∧ ((w.alloc (.cells #[.string g, .int .i64 k, .int .i64 n, .string s, .bool b, .int .i64 c] 27)).alloc (.cells #[.string g', .int .i64 k', .int .i64 n', .string s', .bool b', .int .i64 c'] 27)).cell? ⟨w.heap.size, 2, none⟩ = some (.int .i64 n) ∧ ((w.alloc (.cells #[.string g, .int .i64 k, .int .i64 n, .string s, .bool b, .int .i64 c] 27)).alloc (.cells #[.string g', .int .i64 k', .int .i64 n', .string s', .bool b', .int .i64 c'] 27)).cell? ⟨w.heap.size, 3, none⟩ = some (.string s) ∧ ((w.alloc (.cells #[.string g, .int .i64 k, .int .i64 n, .string s, .bool b, .int .i64 c] 27)).alloc (.cells #[.string g', .int .i64 k', .int .i64 n', .string s', .bool b', .int .i64 c'] 27)).cell? ⟨w.heap.size, 4, none⟩ = some (.bool b) ∧ ((w.alloc (.cells #[.string g, .int .i64 k, .int .i64 n, .string s, .bool b, .int .i64 c] 27)).alloc (.cells #[.string g', .int .i64 k', .int .i64 n', .string s', .bool b', .int .i64 c'] 27)).cell? ⟨w.heap.size, 5, none⟩ = some (.int .i64 c) ∧ ((w.alloc (.cells #[.string g, .int .i64 k, .int .i64 n, .string s, .bool b, .int .i64 c] 27)).alloc (.cells #[.string g', .int .i64 k', .int .i64 n', .string s', .bool b', .int .i64 c'] 27)).cell? ⟨w.heap.size + 1, 0, none⟩ = some (.string g') ∧ ((w.alloc (.cells #[.string g, .int .i64 k, .int .i64 n, .string s, .bool b, .int .i64 c] 27)).alloc (.cells #[.string g', .int .i64 k', .int .i64 n', .string s', .bool b', .int .i64 c'] 27)).cell? ⟨w.heap.size + 1, 1, none⟩ = some (.int .i64 k') ∧ ((w.alloc (.cells #[.string g, .int .i64 k, .int .i64 n, .string s, .bool b, .int .i64 c] 27)).alloc (.cells #[.string g', .int .i64 k', .int .i64 n', .string s', .bool b', .int .i64 c'] 27)).cell? ⟨w.heap.size + 1, 2, none⟩ = some (.int .i64 n') ∧ ((w.alloc (.cells #[.string g, .int .i64 k, .int .i64 n, .string s, .bool b, .int .i64 c] 27)).alloc (.cells #[.string g', .int .i64 k', .int .i64 n', .string s', .bool b', .int .i64 c'] 27)).cell? ⟨w.heap.size + 1, 3, none⟩ = some (.string s') ∧ ((w.alloc (.cells #[.string g, .int .i64 k, .int .i64 n, .string s, .bool b, .int .i64 c] 27)).alloc (.cells #[.string g', .int .i64 k', .int .i64 n', .string s', .bool b', .int .i64 c'] 27)).cell? ⟨w.heap.size + 1, 4, none⟩ = some (.bool b') ∧ ((w.alloc (.cells #[.string g, .int .i64 k, .int .i64 n, .string s, .bool b, .int .i64 c] 27)).alloc (.cells #[.string g', .int .i64 k', .int .i64 n', .string s', .bool b', .int .i64 c'] 27)).cell? ⟨w.heap.size + 1, 5, none⟩ = some (.int .i64 c') ∧ w.heap.size < ((w.alloc (.cells #[.string g, .int .i64 k, .int .i64 n, .string s, .bool b, .int .i64 c] 27)).alloc (.cells #[.string g', .int .i64 k', .int .i64 n', .string s', .bool b', .int .i64 c'] 27)).heap.size ∧ w.heap.size + 1 < ((w.alloc (.cells #[.string g, .int .i64 k, .int .i64 n, .string s, .bool b, .int .i64 c] 27)).alloc (.cells #[.string g', .int .i64 k', .int .i64 n', .string s', .bool b', .int .i64 c'] 27)).heap.size ∧ Below w.heap.size w ((w.alloc (.cells #[.string g, .int .i64 k, .int .i64 n, .string s, .bool b, .int .i64 c] 27)).alloc (.cells #[.string g', .int .i64 k', .int .i64 n', .string s', .bool b', .int .i64 c'] 27)) := by
  refine ⟨?_, ?_, ?_, ?_, ?_, ?_, ?_, ?_, ?_, ?_, ?_, ?_, ?_, ?_, ?_⟩
  all_goals first | (simp [go_sem]; done) | skip
  exact (((Below.refl w.heap.size w).alloc (Nat.le_refl _) _).alloc (by simp <;> omega) _)
theorem BoxCC.below {w X Y : World} {g : ByteArray} {k n : Int} {s : ByteArray} {b : Bool} {c : Int} {g' : ByteArray} {k' n' : Int} {s' : ByteArray} {b' : Bool} {c' : Int} (h : X.cell? ⟨w.heap.size, 0, none⟩ = some (.string g) ∧ X.cell? ⟨w.heap.size, 1, none⟩ = some (.int .i64 k) ∧ X.cell? ⟨w.heap.size, 2, none⟩ = some (.int .i64 n) ∧ X.cell? ⟨w.heap.size, 3, none⟩ = some (.string s) ∧ X.cell? ⟨w.heap.size, 4, none⟩ = some (.bool b) ∧ X.cell? ⟨w.heap.size, 5, none⟩ = some (.int .i64 c) ∧ X.cell? ⟨w.heap.size + 1, 0, none⟩ = some (.string g') ∧ X.cell? ⟨w.heap.size + 1, 1, none⟩ = some (.int .i64 k') ∧ X.cell? ⟨w.heap.size + 1, 2, none⟩ = some (.int .i64 n') ∧ X.cell? ⟨w.heap.size + 1, 3, none⟩ = some (.string s') ∧ X.cell? ⟨w.heap.size + 1, 4, none⟩ = some (.bool b') ∧ X.cell? ⟨w.heap.size + 1, 5, none⟩ = some (.int .i64 c') ∧ w.heap.size < X.heap.size ∧ w.heap.size + 1 < X.heap.size ∧ Below w.heap.size w X) (z : Below X.heap.size X Y) : Y.cell? ⟨w.heap.size, 0, none⟩ = some (.string g) ∧ Y.cell? ⟨w.heap.size, 1, none⟩ = some (.int .i64 k) ∧ Y.cell? ⟨w.heap.size, 2, none⟩ = some (.int .i64 n) ∧ Y.cell? ⟨w.heap.size, 3, none⟩ = some (.string s) ∧ Y.cell? ⟨w.heap.size, 4, none⟩ = some (.bool b) ∧ Y.cell? ⟨w.heap.size, 5, none⟩ = some (.int .i64 c) ∧ Y.cell? ⟨w.heap.size + 1, 0, none⟩ = some (.string g') ∧ Y.cell? ⟨w.heap.size + 1, 1, none⟩ = some (.int .i64 k') ∧ Y.cell? ⟨w.heap.size + 1, 2, none⟩ = some (.int .i64 n') ∧ Y.cell? ⟨w.heap.size + 1, 3, none⟩ = some (.string s') ∧ Y.cell? ⟨w.heap.size + 1, 4, none⟩ = some (.bool b') ∧ Y.cell? ⟨w.heap.size + 1, 5, none⟩ = some (.int .i64 c') ∧ w.heap.size < Y.heap.size ∧ w.heap.size + 1 < Y.heap.size ∧ Below w.heap.size w Y := by
  obtain ⟨a0, a1, a2, a3, a4, a5, a6, a7, a8, a9, a10, a11, l0, l1, hb⟩ := h
  exact ⟨(z.cell (p := ⟨w.heap.size, 0, none⟩) l0).trans a0, (z.cell (p := ⟨w.heap.size, 1, none⟩) l0).trans a1, (z.cell (p := ⟨w.heap.size, 2, none⟩) l0).trans a2, (z.cell (p := ⟨w.heap.size, 3, none⟩) l0).trans a3, (z.cell (p := ⟨w.heap.size, 4, none⟩) l0).trans a4, (z.cell (p := ⟨w.heap.size, 5, none⟩) l0).trans a5, (z.cell (p := ⟨w.heap.size + 1, 0, none⟩) l1).trans a6, (z.cell (p := ⟨w.heap.size + 1, 1, none⟩) l1).trans a7, (z.cell (p := ⟨w.heap.size + 1, 2, none⟩) l1).trans a8, (z.cell (p := ⟨w.heap.size + 1, 3, none⟩) l1).trans a9, (z.cell (p := ⟨w.heap.size + 1, 4, none⟩) l1).trans a10, (z.cell (p := ⟨w.heap.size + 1, 5, none⟩) l1).trans a11, Nat.lt_of_lt_of_le l0 z.size, Nat.lt_of_lt_of_le l1 z.size, hb.trans (z.mono hb.size)⟩
theorem BoxCC.drew {w X : World} {g : ByteArray} {k n : Int} {s : ByteArray} {b : Bool} {c : Int} {g' : ByteArray} {k' n' : Int} {s' : ByteArray} {b' : Bool} {c' : Int} (h : X.cell? ⟨w.heap.size, 0, none⟩ = some (.string g) ∧ X.cell? ⟨w.heap.size, 1, none⟩ = some (.int .i64 k) ∧ X.cell? ⟨w.heap.size, 2, none⟩ = some (.int .i64 n) ∧ X.cell? ⟨w.heap.size, 3, none⟩ = some (.string s) ∧ X.cell? ⟨w.heap.size, 4, none⟩ = some (.bool b) ∧ X.cell? ⟨w.heap.size, 5, none⟩ = some (.int .i64 c) ∧ X.cell? ⟨w.heap.size + 1, 0, none⟩ = some (.string g') ∧ X.cell? ⟨w.heap.size + 1, 1, none⟩ = some (.int .i64 k') ∧ X.cell? ⟨w.heap.size + 1, 2, none⟩ = some (.int .i64 n') ∧ X.cell? ⟨w.heap.size + 1, 3, none⟩ = some (.string s') ∧ X.cell? ⟨w.heap.size + 1, 4, none⟩ = some (.bool b') ∧ X.cell? ⟨w.heap.size + 1, 5, none⟩ = some (.int .i64 c') ∧ w.heap.size < X.heap.size ∧ w.heap.size + 1 < X.heap.size ∧ Below w.heap.size w X) : X.drew.cell? ⟨w.heap.size, 0, none⟩ = some (.string g) ∧ X.drew.cell? ⟨w.heap.size, 1, none⟩ = some (.int .i64 k) ∧ X.drew.cell? ⟨w.heap.size, 2, none⟩ = some (.int .i64 n) ∧ X.drew.cell? ⟨w.heap.size, 3, none⟩ = some (.string s) ∧ X.drew.cell? ⟨w.heap.size, 4, none⟩ = some (.bool b) ∧ X.drew.cell? ⟨w.heap.size, 5, none⟩ = some (.int .i64 c) ∧ X.drew.cell? ⟨w.heap.size + 1, 0, none⟩ = some (.string g') ∧ X.drew.cell? ⟨w.heap.size + 1, 1, none⟩ = some (.int .i64 k') ∧ X.drew.cell? ⟨w.heap.size + 1, 2, none⟩ = some (.int .i64 n') ∧ X.drew.cell? ⟨w.heap.size + 1, 3, none⟩ = some (.string s') ∧ X.drew.cell? ⟨w.heap.size + 1, 4, none⟩ = some (.bool b') ∧ X.drew.cell? ⟨w.heap.size + 1, 5, none⟩ = some (.int .i64 c') ∧ w.heap.size < X.drew.heap.size ∧ w.heap.size + 1 < X.drew.heap.size ∧ Below w.heap.size w X.drew := by
  obtain ⟨a0, a1, a2, a3, a4, a5, a6, a7, a8, a9, a10, a11, l0, l1, hb⟩ := h
  exact ⟨a0, a1, a2, a3, a4, a5, a6, a7, a8, a9, a10, a11, l0, l1, hb.drew⟩
theorem BoxCC.out {w X : World} {g : ByteArray} {k n : Int} {s : ByteArray} {b : Bool} {c : Int} {g' : ByteArray} {k' n' : Int} {s' : ByteArray} {b' : Bool} {c' : Int} (h : X.cell? ⟨w.heap.size, 0, none⟩ = some (.string g) ∧ X.cell? ⟨w.heap.size, 1, none⟩ = some (.int .i64 k) ∧ X.cell? ⟨w.heap.size, 2, none⟩ = some (.int .i64 n) ∧ X.cell? ⟨w.heap.size, 3, none⟩ = some (.string s) ∧ X.cell? ⟨w.heap.size, 4, none⟩ = some (.bool b) ∧ X.cell? ⟨w.heap.size, 5, none⟩ = some (.int .i64 c) ∧ X.cell? ⟨w.heap.size + 1, 0, none⟩ = some (.string g') ∧ X.cell? ⟨w.heap.size + 1, 1, none⟩ = some (.int .i64 k') ∧ X.cell? ⟨w.heap.size + 1, 2, none⟩ = some (.int .i64 n') ∧ X.cell? ⟨w.heap.size + 1, 3, none⟩ = some (.string s') ∧ X.cell? ⟨w.heap.size + 1, 4, none⟩ = some (.bool b') ∧ X.cell? ⟨w.heap.size + 1, 5, none⟩ = some (.int .i64 c') ∧ w.heap.size < X.heap.size ∧ w.heap.size + 1 < X.heap.size ∧ Below w.heap.size w X) : Below w.heap.size w X := by
  obtain ⟨a0, a1, a2, a3, a4, a5, a6, a7, a8, a9, a10, a11, l0, l1, hb⟩ := h
  exact hb
set_option maxHeartbeats 2000000 in
theorem rKeyed_any (g : ByteArray) (k n : Int) (s : ByteArray) (b : Bool) (c : Int) (w : World) (hz : s.size ≤ maxLen) :
    Calls Tryz.prog 5 #[.agg #[.string g, .int .i64 k, .int .i64 n, .string s, .bool b, .int .i64 c]] w fun e w' => e = .returned (.bool (keyedR g k n s b c)) ∧ Below w.heap.size w w' := by
  have HC : Hid (∀ W : World, Calls Tryz.prog 15 #[.agg #[.string g, .int .i64 k, .int .i64 n, .string s, .bool b, .int .i64 c]] W fun e w' => e = .returned (.bool (rightC g k n s b c)) ∧ Below W.heap.size W w') := fun W => rright13_any g k n s b c W hz
  have HN := hide (BoxC.new w (g := g) (k := k) (n := n) (s := s) (b := b) (c := c))
  have hq : g.toList = g.data.toList := by rw [ByteArray.toList_eq]
  unfold keyedR
  cases er : rightC g k n s b c
  · rw [er] at HC
    simp only [Bool.false_and]
    clear er hz hq
    go_enter Tryz.func5, Tryz.ntmps5
    go_wp2_with (first | (go_at_call 15; refine (HC.out _).mono ?_; rintro e w1 ⟨rfl, hb1⟩; have HN1 := hide (BoxC.below HN.out hb1); obtain ⟨q0, q1, q2, q3, q4, q5, q6, q7⟩ := HN1.out; clear hb1))
    go_ret
    exact ⟨rfl, BoxC.out HN1.out⟩
  rw [er] at HC
  simp only [Bool.true_and]
  have er2 : rightB k n s b c = true := by unfold rightC at er; exact (Bool.and_eq_true_iff.1 er).2
  have z1 := right_size er2
  by_cases e1 : g.data.toList = [61]
  · obtain rfl : g = ⟨#[61]⟩ := by rw [← ba_eta g, e1]
    rw [decide_eq_true e1, Bool.true_and]
    unfold keyedV
    by_cases hk : k = 2
    · subst hk
      have HW : Hid (∀ W : World, Calls Tryz.prog 16 #[.string s] W fun e w' => e = .returned (.bool (wildL s.data.toList)) ∧ Below W.heap.size W w') := fun W => rwild_any s W (by omega)
      have HE : Hid ((decide ((2 : Int) ≠ 2) || !wildL s.data.toList) = !wildL s.data.toList) := by show _ = _; simp
      generalize wildL s.data.toList = R at *
      clear er er2 hz hq z1 e1
      go_enter Tryz.func5, Tryz.ntmps5
      go_wp2_with (first | (go_at_call 15; refine (HC.out _).mono ?_; rintro e w1 ⟨rfl, hb1⟩; have HN1 := hide (BoxC.below HN.out hb1); obtain ⟨q0, q1, q2, q3, q4, q5, q6, q7⟩ := HN1.out; clear hb1) | (go_at_call 16; refine (HW.out _).mono ?_; rintro e w1 ⟨rfl, hb1⟩; have HN2 := hide (BoxC.below HN1.out hb1); obtain ⟨q0, q1, q2, q3, q4, q5, q6, q7⟩ := HN2.out; clear hb1))
      go_ret
      exact ⟨by rw [HE.out]; rfl, BoxC.out HN2.out⟩
    · have t1 : (k == 2) = false := by simp [hk]
      have t2 : (k != 2) = true := by simp [hk]
      have HE : Hid ((decide (k ≠ 2) || !wildL s.data.toList) = true) := by show _ = _; simp [hk]
      clear er er2 hz hq z1 e1 hk
      go_enter Tryz.func5, Tryz.ntmps5
      go_wp2_with (first | (go_at_call 15; refine (HC.out _).mono ?_; rintro e w1 ⟨rfl, hb1⟩; have HN1 := hide (BoxC.below HN.out hb1); obtain ⟨q0, q1, q2, q3, q4, q5, q6, q7⟩ := HN1.out; clear hb1))
      go_ret
      exact ⟨by rw [HE.out]; rfl, BoxC.out HN1.out⟩
  · have t1 : (g.toList == [61]) = false := by rw [hq]; simpa using e1
    rw [decide_eq_false e1, Bool.false_and]
    clear er er2 hz hq z1 e1
    go_enter Tryz.func5, Tryz.ntmps5
    go_wp2_with (first | (go_at_call 15; refine (HC.out _).mono ?_; rintro e w1 ⟨rfl, hb1⟩; have HN1 := hide (BoxC.below HN.out hb1); obtain ⟨q0, q1, q2, q3, q4, q5, q6, q7⟩ := HN1.out; clear hb1))
    go_ret
    exact ⟨rfl, BoxC.out HN1.out⟩
set_option maxHeartbeats 4000000 in
theorem rSame_any (g : ByteArray) (k n : Int) (s : ByteArray) (b : Bool) (c : Int) (g' : ByteArray) (k' n' : Int) (s' : ByteArray) (b' : Bool) (c' : Int) (w : World) (hr : rightB k n s b c = true) (hr' : rightB k' n' s' b' c' = true) :
    Calls Tryz.prog 6 #[.agg #[.string g, .int .i64 k, .int .i64 n, .string s, .bool b, .int .i64 c], .agg #[.string g', .int .i64 k', .int .i64 n', .string s', .bool b', .int .i64 c']] w fun e w' => e = .returned (.bool (sameK k n s b c k' n' s' b' c')) ∧ Below w.heap.size w w' := by
  have HN := hide (BoxCC.new w (g := g) (k := k) (n := n) (s := s) (b := b) (c := c) (g' := g') (k' := k') (n' := n') (s' := s') (b' := b') (c' := c'))
  have z1 := right_size hr
  have z2 := right_size hr'
  unfold sameK
  by_cases hk : k = k'
  · subst hk
    rw [decide_eq_true rfl, Bool.true_and]
    by_cases h2 : k = 2
    · subst h2
      rw [if_pos rfl]
      obtain ⟨AT, hAT⟩ : ∃ AT : ByteArray → ByteArray, ∀ x, AT x = ⟨(tameT x).toArray⟩ := ⟨_, fun _ => rfl⟩
      have HA : Hid (∀ (x : ByteArray) (W : World), x.size ≤ 255 → Calls Tryz.prog 17 #[.string x] W fun e w' => e = .returned (.string (AT x)) ∧ Below W.heap.size W w') := fun x W hx => by rw [hAT]; exact ralone_any x W (by omega)
      have HE : Hid (decide (tameT s = tameT s') = ((AT s).toList == (AT s').toList)) := by
        show _ = _
        rw [hAT, hAT, list_ba, list_ba, Bool.eq_iff_iff]; simp
      generalize decide (tameT s = tameT s') = R at *
      clear hr hr' hAT
      go_enter Tryz.func6, Tryz.ntmps6
      go_wp2
      go_region_held3 (fun X => X.cell? ⟨w.heap.size, 0, none⟩ = some (.string g) ∧ X.cell? ⟨w.heap.size, 1, none⟩ = some (.int .i64 2) ∧ X.cell? ⟨w.heap.size, 2, none⟩ = some (.int .i64 n) ∧ X.cell? ⟨w.heap.size, 3, none⟩ = some (.string s) ∧ X.cell? ⟨w.heap.size, 4, none⟩ = some (.bool b) ∧ X.cell? ⟨w.heap.size, 5, none⟩ = some (.int .i64 c) ∧ X.cell? ⟨w.heap.size + 1, 0, none⟩ = some (.string g') ∧ X.cell? ⟨w.heap.size + 1, 1, none⟩ = some (.int .i64 2) ∧ X.cell? ⟨w.heap.size + 1, 2, none⟩ = some (.int .i64 n') ∧ X.cell? ⟨w.heap.size + 1, 3, none⟩ = some (.string s') ∧ X.cell? ⟨w.heap.size + 1, 4, none⟩ = some (.bool b') ∧ X.cell? ⟨w.heap.size + 1, 5, none⟩ = some (.int .i64 c') ∧ w.heap.size < X.heap.size ∧ w.heap.size + 1 < X.heap.size ∧ Below w.heap.size w X) (first | assumption | exact HN.out | exact BoxCC.drew (by assumption)) (first | (go_at_call 17; refine (HA.out _ _ (by assumption)).mono ?_; rintro e w2 ⟨rfl, hb2⟩; have hs2 := BoxCC.below (by assumption) hb2))
      all_goals go_wp2
      all_goals go_ret
      all_goals exact ⟨by rw [HE.out]; first | rfl | simp [*], BoxCC.out (by assumption)⟩
    · rw [if_neg h2]
      have e2 : (k == 2) = false := by simp [h2]
      obtain rfl : s = ⟨#[]⟩ := by
        rcases right_cases hr with ⟨_, _, h, _⟩ | ⟨_, _, h, _⟩ | ⟨h, _⟩ | ⟨_, _, h, _⟩ | ⟨_, _, h, _⟩ <;> first | exact h | exact absurd h h2
      obtain rfl : s' = ⟨#[]⟩ := by
        rcases right_cases hr' with ⟨_, _, h, _⟩ | ⟨_, _, h, _⟩ | ⟨h, _⟩ | ⟨_, _, h, _⟩ | ⟨_, _, h, _⟩ <;> first | exact h | exact absurd h h2
      have HE : Hid ((decide (n = n') && decide (b = b') && decide (c = c')) = ((n == n') && (b == b') && (c == c'))) := by
        show _ = _
        rw [Bool.eq_iff_iff]; simp
      clear z1 z2 hr hr' h2
      cases g1 : (n == n')
      · rw [g1] at HE
        go_enter Tryz.func6, Tryz.ntmps6
        go_wp2
        go_ret
        exact ⟨by rw [HE.out]; rfl, BoxCC.out HN.out⟩
      cases g2 : (b == b')
      · rw [g1, g2] at HE
        go_enter Tryz.func6, Tryz.ntmps6
        go_wp2
        go_ret
        exact ⟨by rw [HE.out]; rfl, BoxCC.out HN.out⟩
      cases g3 : (c == c')
      · rw [g1, g2, g3] at HE
        go_enter Tryz.func6, Tryz.ntmps6
        go_wp2
        go_ret
        exact ⟨by rw [HE.out]; rfl, BoxCC.out HN.out⟩
      · rw [g1, g2, g3] at HE
        go_enter Tryz.func6, Tryz.ntmps6
        go_wp2
        go_ret
        exact ⟨by rw [HE.out]; rfl, BoxCC.out HN.out⟩
  · have e1 : (k == k') = false := by simp [hk]
    have e2 : (k != k') = true := by simp [hk]
    rw [decide_eq_false hk, Bool.false_and]
    clear z1 z2 hr hr'
    go_enter Tryz.func6, Tryz.ntmps6
    go_wp2
    go_ret
    exact ⟨rfl, BoxCC.out HN.out⟩
end Go.Proofs.YtpghgjibpbimeaaGreatDoor
