/-
  The contracts of move's Check, lost, along, carry, inOrder, together, left, corners, Back.
-/
import Derived.Test.YtkkoeanjmldmdaaMv1
namespace Go.Proofs.Ytkkoeanjmldmdaa
open Go.RowKit

theorem wrapI {n : Int} (h0 : -4611686018427387904 ≤ n) (h1 : n ≤ 4611686018427387904) : IntKind.i64.wrap n = n := by rw [IntKind.wrap_i64]; omega
theorem whole_out {k : Int} (h : ¬ (1 ≤ k ∧ k ≤ 4)) : wholeF k = 0 ∧ wholeL k = 0 := by unfold wholeF wholeL; rw [if_neg h, if_neg h]; exact ⟨rfl, rfl⟩
theorem whole_in {k : Int} (h : 1 ≤ k ∧ k ≤ 4) : wholeF k = 1 ∧ wholeL k = topE k := by unfold wholeF wholeL; rw [if_pos h, if_pos h]; exact ⟨rfl, rfl⟩
set_option maxHeartbeats 1000000 in
theorem edit_any (k a n : Int) (w : World) :
    Calls Try.prog 13 #[.agg #[.int .i64 k, .int .i64 a, .int .i64 n]] w fun e w' => e = .returned (.int .i64 (editR k a n)) ∧ Below w.heap.size w w' := by
  have HW : Hid (∀ W : World, Calls Try.prog 33 #[.int .i64 k] W fun e w' => e = .returned (.agg #[.int .i64 (wholeF k), .int .i64 (wholeL k)]) ∧ Below W.heap.size W w') := fun W => whole_any k W
  by_cases hk : 1 ≤ k ∧ k ≤ 4
  · obtain ⟨q1, q2⟩ := whole_in hk
    rw [q1, q2] at HW
    have ht := topE_le k
    have HS : Hid (∀ W : World, Calls Try.prog 25 #[.agg #[.int .i64 1, .int .i64 (topE k)], .int .i64 a] W fun e w' => e = .returned (.bool (decide (1 ≤ a) && decide (a ≤ topE k))) ∧ w' = W.alloc (.cells #[.int .i64 1, .int .i64 (topE k)] 63)) := fun W => has_some 1 (topE k) a (by omega) W
    clear q1 q2
    by_cases ha : 1 ≤ a ∧ a ≤ topE k
    · rw [decide_eq_true ha.1, decide_eq_true ha.2] at HS
      by_cases h1 : n < 1
      · rw [editR_no (by cases h : editB k a n; · rfl
                         · have := editB_iff.1 h; omega)]
        generalize topE k = T at *
        clear hk ha ht
        go_enter Try.func13, Try.ntmps13
        go_wp2_with (first | (go_at_call 33; refine (HW.out _).mono ?_; rintro e w1 ⟨rfl, hb1⟩; have ⟨z1, k0, k1, k2⟩ := (At3.new w k a n 24).below hb1) | (go_at_call 25; refine (HS.out _).mono ?_; rintro e w' ⟨rfl, rfl⟩))
        go_ret
        refine ⟨rfl, ?_⟩
        repeat' (first | with_reducible exact Below.refl _ _ | with_reducible refine Below.setCell ?_ ?_ _ | with_reducible refine Below.alloc ?_ ?_ _ | with_reducible refine below_drewN ?_ _ | with_reducible refine Below.drew ?_ | with_reducible refine Below.trans ?_ (Below.mono (by assumption) ?_) | with_reducible exact Nat.le_refl _ | with_reducible refine Nat.le_trans ?_ (Below.size (by assumption)) | with_reducible refine Nat.le_trans ?_ (size_alloc _ _) | with_reducible refine Nat.le_trans ?_ (size_set _ _ _) | with_reducible refine Nat.le_trans ?_ (size_drewN _ _) | with_reducible refine Nat.le_trans ?_ (size_drew _) | (simp; done) | (simp; omega) | omega)
      · have u1 : IntKind.i64.wrap (topE k - a) = topE k - a := wrapI (by omega) (by omega)
        have u2 : IntKind.i64.wrap (topE k - a + 1) = topE k - a + 1 := wrapI (by omega) (by omega)
        by_cases h2 : n > topE k - a + 1
        · rw [editR_no (by cases h : editB k a n; · rfl
                           · have := editB_iff.1 h; omega)]
          generalize topE k = T at *
          clear hk ha ht
          go_enter Try.func13, Try.ntmps13
          go_wp2_with (first | (go_at_call 33; refine (HW.out _).mono ?_; rintro e w1 ⟨rfl, hb1⟩; have ⟨z1, k0, k1, k2⟩ := (At3.new w k a n 24).below hb1) | (go_at_call 25; refine (HS.out _).mono ?_; rintro e w' ⟨rfl, rfl⟩))
          go_ret
          refine ⟨rfl, ?_⟩
          repeat' (first | with_reducible exact Below.refl _ _ | with_reducible refine Below.setCell ?_ ?_ _ | with_reducible refine Below.alloc ?_ ?_ _ | with_reducible refine below_drewN ?_ _ | with_reducible refine Below.drew ?_ | with_reducible refine Below.trans ?_ (Below.mono (by assumption) ?_) | with_reducible exact Nat.le_refl _ | with_reducible refine Nat.le_trans ?_ (Below.size (by assumption)) | with_reducible refine Nat.le_trans ?_ (size_alloc _ _) | with_reducible refine Nat.le_trans ?_ (size_set _ _ _) | with_reducible refine Nat.le_trans ?_ (size_drewN _ _) | with_reducible refine Nat.le_trans ?_ (size_drew _) | (simp; done) | (simp; omega) | omega)
        · rw [editR_yes (editB_iff.2 (by omega))]
          generalize topE k = T at *
          clear hk ha ht
          go_enter Try.func13, Try.ntmps13
          go_wp2_with (first | (go_at_call 33; refine (HW.out _).mono ?_; rintro e w1 ⟨rfl, hb1⟩; have ⟨z1, k0, k1, k2⟩ := (At3.new w k a n 24).below hb1) | (go_at_call 25; refine (HS.out _).mono ?_; rintro e w' ⟨rfl, rfl⟩))
          go_ret
          refine ⟨rfl, ?_⟩
          repeat' (first | with_reducible exact Below.refl _ _ | with_reducible refine Below.setCell ?_ ?_ _ | with_reducible refine Below.alloc ?_ ?_ _ | with_reducible refine below_drewN ?_ _ | with_reducible refine Below.drew ?_ | with_reducible refine Below.trans ?_ (Below.mono (by assumption) ?_) | with_reducible exact Nat.le_refl _ | with_reducible refine Nat.le_trans ?_ (Below.size (by assumption)) | with_reducible refine Nat.le_trans ?_ (size_alloc _ _) | with_reducible refine Nat.le_trans ?_ (size_set _ _ _) | with_reducible refine Nat.le_trans ?_ (size_drewN _ _) | with_reducible refine Nat.le_trans ?_ (size_drew _) | (simp; done) | (simp; omega) | omega)
    · rw [show (decide (1 ≤ a) && decide (a ≤ topE k)) = false by rw [Bool.and_eq_false_iff]; simp; omega] at HS
      rw [editR_no (by cases h : editB k a n; · rfl
                       · have := editB_iff.1 h; omega)]
      generalize topE k = T at *
      clear hk ha ht
      go_enter Try.func13, Try.ntmps13
      go_wp2_with (first | (go_at_call 33; refine (HW.out _).mono ?_; rintro e w1 ⟨rfl, hb1⟩; have ⟨z1, k0, k1, k2⟩ := (At3.new w k a n 24).below hb1) | (go_at_call 25; refine (HS.out _).mono ?_; rintro e w' ⟨rfl, rfl⟩))
      go_ret
      refine ⟨rfl, ?_⟩
      repeat' (first | with_reducible exact Below.refl _ _ | with_reducible refine Below.setCell ?_ ?_ _ | with_reducible refine Below.alloc ?_ ?_ _ | with_reducible refine below_drewN ?_ _ | with_reducible refine Below.drew ?_ | with_reducible refine Below.trans ?_ (Below.mono (by assumption) ?_) | with_reducible exact Nat.le_refl _ | with_reducible refine Nat.le_trans ?_ (Below.size (by assumption)) | with_reducible refine Nat.le_trans ?_ (size_alloc _ _) | with_reducible refine Nat.le_trans ?_ (size_set _ _ _) | with_reducible refine Nat.le_trans ?_ (size_drewN _ _) | with_reducible refine Nat.le_trans ?_ (size_drew _) | (simp; done) | (simp; omega) | omega)
  · obtain ⟨q1, q2⟩ := whole_out hk
    rw [q1, q2] at HW
    rw [editR_no (by cases h : editB k a n; · rfl
                     · have := editB_iff.1 h; omega)]
    clear q1 q2 hk
    go_enter Try.func13, Try.ntmps13
    go_wp2_with (first | (go_at_call 33; refine (HW.out _).mono ?_; rintro e w1 ⟨rfl, hb1⟩; have ⟨z1, k0, k1, k2⟩ := (At3.new w k a n 24).below hb1) | (go_at_call 25; refine (has_none _ _).mono ?_; rintro e w' ⟨rfl, rfl⟩))
    go_ret
    refine ⟨rfl, ?_⟩
    repeat' (first | with_reducible exact Below.refl _ _ | with_reducible refine Below.setCell ?_ ?_ _ | with_reducible refine Below.alloc ?_ ?_ _ | with_reducible refine below_drewN ?_ _ | with_reducible refine Below.drew ?_ | with_reducible refine Below.trans ?_ (Below.mono (by assumption) ?_) | with_reducible exact Nat.le_refl _ | with_reducible refine Nat.le_trans ?_ (Below.size (by assumption)) | with_reducible refine Nat.le_trans ?_ (size_alloc _ _) | with_reducible refine Nat.le_trans ?_ (size_set _ _ _) | with_reducible refine Nat.le_trans ?_ (size_drewN _ _) | with_reducible refine Nat.le_trans ?_ (size_drew _) | (simp; done) | (simp; omega) | omega)
theorem field_1 (x y : Int) (w : World) : (Instr.field 63 (.agg #[.int .i64 x, .int .i64 y]) 1).run Try.prog w = .ok (.int .i64 y) w := by
  simp [Instr.field, go_sem, asAgg, Result.andThen]
set_option maxHeartbeats 1000000 in
theorem lost_any {k a n : Int} (h : editB k a n = true) (w : World) :
    Calls Try.prog 24 #[.agg #[.int .i64 k, .int .i64 a, .int .i64 n]] w fun e w' => e = .returned (.agg #[.int .i64 (lostF k a n), .int .i64 (lostL k a n)]) ∧ Below w.heap.size w w' := by
  have HI : Hid (∀ W : World, Calls Try.prog 41 #[.int .i64 k] W fun e w' => e = .returned (.bool (insB k)) ∧ w' = W) := fun W => inserts_any k W
  have g := editB_iff.1 h
  have ht := topE_le k
  have HW : Hid (∀ W : World, Calls Try.prog 33 #[.int .i64 k] W fun e w' => e = .returned (.agg #[.int .i64 1, .int .i64 (topE k)]) ∧ Below W.heap.size W w') := fun W => by
    have := whole_any k W; rw [(whole_in ⟨g.1, g.2.1⟩).1, (whole_in ⟨g.1, g.2.1⟩).2] at this; exact this
  unfold lostF lostL
  cases hi : insB k
  · rw [hi] at HI
    have u1 : IntKind.i64.wrap (a + n) = a + n := wrapI (by omega) (by omega)
    have u2 : IntKind.i64.wrap (a + n - 1) = a + n - 1 := wrapI (by omega) (by omega)
    generalize topE k = T at *
    clear h hi g ht
    have hf1 := field_1
    go_enter Try.func24, Try.ntmps24
    go_wp2_with (first | (go_at_call 33; refine (HW.out _).mono ?_; rintro e w1 ⟨rfl, hb1⟩; have ⟨z1, k0, k1, k2⟩ := ((At3.new w k a n 24).alloc (.cells #[.int .i64 0, .int .i64 0] 63)).below hb1; have hq := (Has2.new (w.alloc (.cells #[.int .i64 k, .int .i64 a, .int .i64 n] 24)) 0 0 63).below hb1; rw [show (w.alloc (.cells #[.int .i64 k, .int .i64 a, .int .i64 n] 24)).heap.size = w.heap.size + 1 by simp] at hq; obtain ⟨⟨z2, j0, j1⟩, f0, f1⟩ := hq) | (go_at_call 41; refine (HI.out _).mono ?_; rintro e w' ⟨rfl, rfl⟩))
    refine bodyPost_ret (v := .agg #[.int .i64 a, .int .i64 (a + n - 1)]) (by simp [results, Try.results24, go_sem, *]) rfl ⟨rfl, ?_⟩
    repeat' (first | with_reducible exact Below.refl _ _ | with_reducible refine Below.setCell ?_ ?_ _ | with_reducible refine Below.alloc ?_ ?_ _ | with_reducible refine below_drewN ?_ _ | with_reducible refine Below.drew ?_ | with_reducible refine Below.trans ?_ (Below.mono (by assumption) ?_) | with_reducible exact Nat.le_refl _ | with_reducible refine Nat.le_trans ?_ (Below.size (by assumption)) | with_reducible refine Nat.le_trans ?_ (size_alloc _ _) | with_reducible refine Nat.le_trans ?_ (size_set _ _ _) | with_reducible refine Nat.le_trans ?_ (size_drewN _ _) | with_reducible refine Nat.le_trans ?_ (size_drew _) | (simp; done) | (simp; omega) | omega)
  · rw [hi] at HI
    have u1 : IntKind.i64.wrap (topE k - n) = topE k - n := wrapI (by omega) (by omega)
    have u2 : IntKind.i64.wrap (topE k - n + 1) = topE k - n + 1 := wrapI (by omega) (by omega)
    generalize topE k = T at *
    clear h hi g ht
    have hf1 := field_1
    go_enter Try.func24, Try.ntmps24
    go_wp2_with (first | (go_at_call 33; refine (HW.out _).mono ?_; rintro e w1 ⟨rfl, hb1⟩; have ⟨z1, k0, k1, k2⟩ := ((At3.new w k a n 24).alloc (.cells #[.int .i64 0, .int .i64 0] 63)).below hb1; have hq := (Has2.new (w.alloc (.cells #[.int .i64 k, .int .i64 a, .int .i64 n] 24)) 0 0 63).below hb1; rw [show (w.alloc (.cells #[.int .i64 k, .int .i64 a, .int .i64 n] 24)).heap.size = w.heap.size + 1 by simp] at hq; obtain ⟨⟨z2, j0, j1⟩, f0, f1⟩ := hq) | (go_at_call 41; refine (HI.out _).mono ?_; rintro e w' ⟨rfl, rfl⟩))
    refine bodyPost_ret (v := .agg #[.int .i64 (T - n + 1), .int .i64 T]) (by simp [results, Try.results24, go_sem, *]) rfl ⟨rfl, ?_⟩
    repeat' (first | with_reducible exact Below.refl _ _ | with_reducible refine Below.setCell ?_ ?_ _ | with_reducible refine Below.alloc ?_ ?_ _ | with_reducible refine below_drewN ?_ _ | with_reducible refine Below.drew ?_ | with_reducible refine Below.trans ?_ (Below.mono (by assumption) ?_) | with_reducible exact Nat.le_refl _ | with_reducible refine Nat.le_trans ?_ (Below.size (by assumption)) | with_reducible refine Nat.le_trans ?_ (size_alloc _ _) | with_reducible refine Nat.le_trans ?_ (size_set _ _ _) | with_reducible refine Nat.le_trans ?_ (size_drewN _ _) | with_reducible refine Nat.le_trans ?_ (size_drew _) | (simp; done) | (simp; omega) | omega)
set_option maxHeartbeats 1000000 in
theorem along_any (k : Int) (b : Nat) (w : World) :
    Calls Try.prog 23 #[.int .i64 k, .pointer (some ⟨b, 0, none⟩)] w fun e w' => e = .returned (.pointer (some ⟨b, if rowsB k then 0 else 1, none⟩)) ∧ w' = w := by
  by_cases h1 : k = 1
  · subst h1
    go_enter Try.func23, Try.ntmps23
    go_wp2
    go_ret
    exact ⟨rfl, rfl⟩
  by_cases h2 : k = 2
  · subst h2
    go_enter Try.func23, Try.ntmps23
    go_wp2
    go_ret
    exact ⟨rfl, rfl⟩
  have e : rowsB k = false := by simp [rowsB, h1, h2]
  have e1 : (k == 1) = false := by simpa using h1
  have e2 : (k == 2) = false := by simpa using h2
  rw [e]
  clear e h1 h2
  go_enter Try.func23, Try.ntmps23
  go_wp2
  go_ret
  exact ⟨rfl, rfl⟩
/-- What a line's ends come to. -/
def ordF (f l : Int) : Int := if f > l then 0 else f
def ordL (f l : Int) : Int := if f > l then 0 else l
set_option maxHeartbeats 1000000 in
theorem inOrder_any (f l : Int) (w : World) :
    Calls Try.prog 43 #[.int .i64 f, .int .i64 l] w fun e w' => e = .returned (.agg #[.int .i64 (ordF f l), .int .i64 (ordL f l)]) ∧ Below w.heap.size w w' := by
  unfold ordF ordL
  by_cases h : f > l
  · rw [if_pos h, if_pos h]
    go_enter Try.func43, Try.ntmps43
    go_wp2
    refine bodyPost_ret (v := .agg #[.int .i64 0, .int .i64 0]) (by simp [results, Try.results43, go_sem]) rfl ⟨rfl, ?_⟩
    repeat' (first | with_reducible exact Below.refl _ _ | with_reducible refine Below.setCell ?_ ?_ _ | with_reducible refine Below.alloc ?_ ?_ _ | with_reducible refine below_drewN ?_ _ | with_reducible refine Below.drew ?_ | with_reducible refine Below.trans ?_ (Below.mono (by assumption) ?_) | with_reducible exact Nat.le_refl _ | with_reducible refine Nat.le_trans ?_ (Below.size (by assumption)) | with_reducible refine Nat.le_trans ?_ (size_alloc _ _) | with_reducible refine Nat.le_trans ?_ (size_set _ _ _) | with_reducible refine Nat.le_trans ?_ (size_drewN _ _) | with_reducible refine Nat.le_trans ?_ (size_drew _) | (simp; done) | (simp; omega) | omega)
  · rw [if_neg h, if_neg h]
    go_enter Try.func43, Try.ntmps43
    go_wp2
    refine bodyPost_ret (v := .agg #[.int .i64 f, .int .i64 l]) (by simp [results, Try.results43, go_sem]) rfl ⟨rfl, ?_⟩
    repeat' (first | with_reducible exact Below.refl _ _ | with_reducible refine Below.setCell ?_ ?_ _ | with_reducible refine Below.alloc ?_ ?_ _ | with_reducible refine below_drewN ?_ _ | with_reducible refine Below.drew ?_ | with_reducible refine Below.trans ?_ (Below.mono (by assumption) ?_) | with_reducible exact Nat.le_refl _ | with_reducible refine Nat.le_trans ?_ (Below.size (by assumption)) | with_reducible refine Nat.le_trans ?_ (size_alloc _ _) | with_reducible refine Nat.le_trans ?_ (size_set _ _ _) | with_reducible refine Nat.le_trans ?_ (size_drewN _ _) | with_reducible refine Nat.le_trans ?_ (size_drew _) | (simp; done) | (simp; omega) | omega)
set_option maxHeartbeats 1000000 in
theorem corners_any (t l b r : Int) (w : World) :
    Calls Try.prog 34 #[.agg #[.int .i64 t, .int .i64 l, .int .i64 b, .int .i64 r]] w fun e w' => e = .returned (.tuple #[.agg #[.int .i64 t, .int .i64 l], .agg #[.int .i64 b, .int .i64 r]]) ∧ Below w.heap.size w w' := by
  go_enter Try.func34, Try.ntmps34
  go_wp2
  go_region_held3 (fun w' => w'.cell? ⟨w.heap.size, 0, none⟩ = some (.int .i64 t) ∧ w'.cell? ⟨w.heap.size, 1, none⟩ = some (.int .i64 l) ∧ w'.cell? ⟨w.heap.size, 2, none⟩ = some (.int .i64 b) ∧ w'.cell? ⟨w.heap.size, 3, none⟩ = some (.int .i64 r)) (go_keep) (fail)
  go_wp2
  refine bodyPost_ret (v := .tuple #[.agg #[.int .i64 t, .int .i64 l], .agg #[.int .i64 b, .int .i64 r]]) (by simp [results, Try.results34, go_sem]) rfl ⟨rfl, ?_⟩
  repeat' (first | with_reducible exact Below.refl _ _ | with_reducible refine Below.setCell ?_ ?_ _ | with_reducible refine Below.alloc ?_ ?_ _ | with_reducible refine below_drewN ?_ _ | with_reducible refine Below.drew ?_ | with_reducible refine Below.trans ?_ (Below.mono (by assumption) ?_) | with_reducible exact Nat.le_refl _ | with_reducible refine Nat.le_trans ?_ (Below.size (by assumption)) | with_reducible refine Nat.le_trans ?_ (size_alloc _ _) | with_reducible refine Nat.le_trans ?_ (size_set _ _ _) | with_reducible refine Nat.le_trans ?_ (size_drewN _ _) | with_reducible refine Nat.le_trans ?_ (size_drew _) | (simp; done) | (simp; omega) | omega)
set_option maxHeartbeats 1000000 in
theorem back_any (k a n : Int) (w : World) :
    Calls Try.prog 11 #[.agg #[.int .i64 k, .int .i64 a, .int .i64 n]] w fun e w' => e = .returned (.tuple #[.agg #[.int .i64 (backR k a n).1, .int .i64 (backR k a n).2.1, .int .i64 (backR k a n).2.2.1], .int .i64 (backR k a n).2.2.2]) ∧ Below w.heap.size w w' := by
  have HC : Hid (∀ W : World, Calls Try.prog 13 #[.agg #[.int .i64 k, .int .i64 a, .int .i64 n]] W fun e w' => e = .returned (.int .i64 (editR k a n)) ∧ Below W.heap.size W w') := fun W => edit_any k a n W
  have HX : Hid (∀ w1, Below ((w.alloc (.cells #[.int .i64 k, .int .i64 a, .int .i64 n] 24)).alloc (.cells #[.int .i64 0, .int .i64 0, .int .i64 0] 24)).heap.size ((w.alloc (.cells #[.int .i64 k, .int .i64 a, .int .i64 n] 24)).alloc (.cells #[.int .i64 0, .int .i64 0, .int .i64 0] 24)) w1 → At3 w1 w.heap.size k a n ∧ Has3 w1 (w.heap.size + 1) 0 0 0) := fun w1 hb => by
    refine ⟨((At3.new w k a n _).alloc _).below hb, ?_⟩
    have := (Has3.new (w.alloc (.cells #[.int .i64 k, .int .i64 a, .int .i64 n] 24)) 0 0 0 24).below hb
    simpa using this
  cases h : editB k a n
  · rw [backR_no h]
    rw [editR_no h] at HC
    clear h
    go_enter Try.func11, Try.ntmps11
    go_wp2_with (go_at_call 13; refine (HC.out _).mono ?_; rintro e w1 ⟨rfl, hb1⟩; have ⟨⟨z1, k0, k1, k2⟩, ⟨z2, j0, j1, j2⟩, f0, f1, f2⟩ := HX.out w1 hb1)
    refine bodyPost_ret (v := .tuple #[.agg #[.int .i64 0, .int .i64 0, .int .i64 0], .int .i64 2]) (by simp [results, Try.results11, go_sem, *]) rfl ⟨rfl, ?_⟩
    repeat' (first | with_reducible exact Below.refl _ _ | with_reducible refine Below.setCell ?_ ?_ _ | with_reducible refine Below.alloc ?_ ?_ _ | with_reducible refine below_drewN ?_ _ | with_reducible refine Below.drew ?_ | with_reducible refine Below.trans ?_ (Below.mono (by assumption) ?_) | with_reducible exact Nat.le_refl _ | with_reducible refine Nat.le_trans ?_ (Below.size (by assumption)) | with_reducible refine Nat.le_trans ?_ (size_alloc _ _) | with_reducible refine Nat.le_trans ?_ (size_set _ _ _) | with_reducible refine Nat.le_trans ?_ (size_drewN _ _) | with_reducible refine Nat.le_trans ?_ (size_drew _) | (simp; done) | (simp; omega) | omega)
  · rw [backR_yes h]
    rw [editR_yes h] at HC
    clear h
    have HO : Hid (∀ W : World, Calls Try.prog 32 #[.int .i64 k] W fun e w' => e = .returned (.int .i64 (backK k)) ∧ w' = W) := fun W => opposite_any k W
    generalize backK k = m at *
    go_enter Try.func11, Try.ntmps11
    go_wp2_with (go_at_call 13; refine (HC.out _).mono ?_; rintro e w1 ⟨rfl, hb1⟩; have ⟨⟨z1, k0, k1, k2⟩, ⟨z2, j0, j1, j2⟩, f0, f1, f2⟩ := HX.out w1 hb1)
    go_region_held3 (fun w' => w'.cell? ⟨w.heap.size, 0, none⟩ = some (.int .i64 k) ∧ w'.cell? ⟨w.heap.size, 1, none⟩ = some (.int .i64 a) ∧ w'.cell? ⟨w.heap.size, 2, none⟩ = some (.int .i64 n)) (go_keep) ((go_at_call 32; refine (HO.out _).mono ?_; rintro e w2 ⟨rfl, hw2⟩; subst w2))
    go_wp2
    refine bodyPost_ret (v := .tuple #[.agg #[.int .i64 m, .int .i64 a, .int .i64 n], .int .i64 0]) (by simp [results, Try.results11, go_sem, *]) rfl ⟨rfl, ?_⟩
    repeat' (first | with_reducible exact Below.refl _ _ | with_reducible refine Below.setCell ?_ ?_ _ | with_reducible refine Below.alloc ?_ ?_ _ | with_reducible refine below_drewN ?_ _ | with_reducible refine Below.drew ?_ | with_reducible refine Below.trans ?_ (Below.mono (by assumption) ?_) | with_reducible exact Nat.le_refl _ | with_reducible refine Nat.le_trans ?_ (Below.size (by assumption)) | with_reducible refine Nat.le_trans ?_ (size_alloc _ _) | with_reducible refine Nat.le_trans ?_ (size_set _ _ _) | with_reducible refine Nat.le_trans ?_ (size_drewN _ _) | with_reducible refine Nat.le_trans ?_ (size_drew _) | (simp; done) | (simp; omega) | omega)
end Go.Proofs.Ytkkoeanjmldmdaa
