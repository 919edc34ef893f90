/-
  The contract of value's ordered.
-/
import Derived.Test.YtaokibkeoomfjaaDoorComp1
namespace Go.Proofs.YtaokibkeoomfjaaDoor
open Go.RowKit

theorem TwoS.below {W w' w'' : World} {p q i j : Nat} {s s' : ByteArray}
    (h : w'.cell? ⟨p, i, none⟩ = some (.string s) ∧ w'.cell? ⟨q, j, none⟩ = some (.string s') ∧ p < w'.heap.size ∧ q < w'.heap.size ∧ Below W.heap.size W w') (k : Below w'.heap.size w' w'') :
    w''.cell? ⟨p, i, none⟩ = some (.string s) ∧ w''.cell? ⟨q, j, none⟩ = some (.string s') ∧ p < w''.heap.size ∧ q < w''.heap.size ∧ Below W.heap.size W w'' := by
  obtain ⟨h0, h1, l, m, hb⟩ := h
  exact ⟨by rw [k.cell (p := ⟨p, i, none⟩) l]; exact h0, by rw [k.cell (p := ⟨q, j, none⟩) m]; exact h1, Nat.lt_of_lt_of_le l k.size, Nat.lt_of_lt_of_le m k.size, hb.trans (k.mono hb.size)⟩
theorem TwoS.drew {W w' : World} {p q i j : Nat} {s s' : ByteArray}
    (h : w'.cell? ⟨p, i, none⟩ = some (.string s) ∧ w'.cell? ⟨q, j, none⟩ = some (.string s') ∧ p < w'.heap.size ∧ q < w'.heap.size ∧ Below W.heap.size W w') :
    w'.drew.cell? ⟨p, i, none⟩ = some (.string s) ∧ w'.drew.cell? ⟨q, j, none⟩ = some (.string s') ∧ p < w'.drew.heap.size ∧ q < w'.drew.heap.size ∧ Below W.heap.size W w'.drew := ⟨h.1, h.2.1, h.2.2.1, h.2.2.2.1, h.2.2.2.2.drew⟩
theorem TwoS.out {W w' : World} {p q i j : Nat} {s s' : ByteArray}
    (h : w'.cell? ⟨p, i, none⟩ = some (.string s) ∧ w'.cell? ⟨q, j, none⟩ = some (.string s') ∧ p < w'.heap.size ∧ q < w'.heap.size ∧ Below W.heap.size W w') : Below W.heap.size W w' := h.2.2.2.2

set_option maxHeartbeats 1000000 in
theorem ordered_text (n : Int) (s : ByteArray) (b : Bool) (c n' : Int) (s' : ByteArray) (b' : Bool) (c' : Int) (w : World) :
    Calls Tryd.prog 41 #[.agg #[.int .i64 2, .int .i64 n, .string s, .bool b, .int .i64 c], .agg #[.int .i64 2, .int .i64 n', .string s', .bool b', .int .i64 c']] w fun e w' => e = .returned (.int .i64 (cmpL (foldL s.data.toList) (foldL s'.data.toList))) ∧ Below w.heap.size w w' := by
  have HF : Hid (∀ W : World, Calls Tryd.prog 26 #[.string s] W fun e w' => e = .returned (.string ⟨(foldL s.data.toList).toArray⟩) ∧ Below W.heap.size W w') := fun W => fold_any s W
  have HG : Hid (∀ W : World, Calls Tryd.prog 26 #[.string s'] W fun e w' => e = .returned (.string ⟨(foldL s'.data.toList).toArray⟩) ∧ Below W.heap.size W w') := fun W => fold_any s' W
  have hT := list_ba (foldL s.data.toList)
  have hU := list_ba (foldL s'.data.toList)
  generalize (⟨(foldL s.data.toList).toArray⟩ : ByteArray) = T at *
  generalize (⟨(foldL s'.data.toList).toArray⟩ : ByteArray) = U at *
  rw [← hT, ← hU]
  clear hT hU
  have A := ((AtV.at w w.heap.size 2 n s b c 25 rfl).alloc (.cells #[.int .i64 2, .int .i64 n', .string s', .bool b', .int .i64 c'] 25))
  have B := AtV.at (w.alloc (.cells #[.int .i64 2, .int .i64 n, .string s, .bool b, .int .i64 c] 25)) (w.heap.size + 1) 2 n' s' b' c' 25 (by simp)
  have HS := hide (And.intro A.2.2.2.1 (And.intro B.2.2.2.1 (And.intro A.1 (And.intro B.1 (((Below.refl w.heap.size w).alloc (Nat.le_refl _) (.cells #[.int .i64 2, .int .i64 n, .string s, .bool b, .int .i64 c] 25)).alloc (by simp) (.cells #[.int .i64 2, .int .i64 n', .string s', .bool b', .int .i64 c'] 25))))))
  clear A B
  go_enter Tryd.func41, Tryd.ntmps41
  go_wp2
  go_region_held3 (fun w' => w'.cell? ⟨w.heap.size, 2, none⟩ = some (.string s) ∧ w'.cell? ⟨w.heap.size + 1, 2, none⟩ = some (.string s') ∧ w.heap.size < w'.heap.size ∧ w.heap.size + 1 < w'.heap.size ∧ Below w.heap.size w w') (first | exact HS.out | assumption | exact TwoS.drew (by assumption)) (first | (go_at_call_of 26 [Value.string s]; refine (HF.out _).mono ?_; rintro e w2 ⟨rfl, hb2⟩; have hs2 := TwoS.below (by assumption) hb2) | (go_at_call_of 26 [Value.string s']; refine (HG.out _).mono ?_; rintro e w2 ⟨rfl, hb2⟩; have hs2 := TwoS.below (by assumption) hb2) | (go_at_call 64; refine (cmpL_any _ _ _).mono ?_; rintro e w3 ⟨rfl, rfl⟩))
  all_goals go_wp2
  all_goals go_ret
  all_goals exact ⟨rfl, TwoS.out (by assumption)⟩
set_option maxHeartbeats 1000000 in
theorem ordered_any (k n : Int) (s : ByteArray) (b : Bool) (c k' n' : Int) (s' : ByteArray) (b' : Bool) (c' : Int) (w : World) :
    Calls Tryd.prog 41 #[.agg #[.int .i64 k, .int .i64 n, .string s, .bool b, .int .i64 c], .agg #[.int .i64 k', .int .i64 n', .string s', .bool b', .int .i64 c']] w fun e w' => e = .returned (.int .i64 (ordV k n s b k' n' s' b')) ∧ Below w.heap.size w w' := by
  by_cases hk : k = k'
  · subst hk
    by_cases h1 : k = 1
    · subst h1
      rw [show ordV 1 n s b 1 n' s' b' = cmpI n n' by simp [ordV]]
      go_enter Tryd.func41, Tryd.ntmps41
      go_wp2_with (go_at_call 63; refine (cmpI_any _ _ _).mono ?_; rintro e w3 ⟨rfl, rfl⟩)
      go_ret
      refine ⟨rfl, ?_⟩
      repeat' (first | with_reducible exact Below.refl _ _ | with_reducible refine Below.setCell ?_ ?_ _ | with_reducible refine Below.alloc ?_ ?_ _ | with_reducible refine below_drewN ?_ _ | with_reducible refine Below.drew ?_ | with_reducible refine Below.trans ?_ (Below.mono (by assumption) ?_) | with_reducible exact Nat.le_refl _ | with_reducible refine Nat.le_trans ?_ (Below.size (by assumption)) | with_reducible refine Nat.le_trans ?_ (size_alloc _ _) | with_reducible refine Nat.le_trans ?_ (size_set _ _ _) | with_reducible refine Nat.le_trans ?_ (size_drewN _ _) | with_reducible refine Nat.le_trans ?_ (size_drew _) | (simp; done) | (simp; omega) | omega)
    · by_cases h2 : k = 2
      · subst h2
        rw [show ordV 2 n s b 2 n' s' b' = cmpL (foldL s.data.toList) (foldL s'.data.toList) by simp [ordV]]
        exact ordered_text n s b c n' s' b' c' w
      · by_cases h3 : k = 3
        · subst h3
          rw [show ordV 3 n s b 3 n' s' b' = cmpB b b' by simp [ordV]]
          go_enter Tryd.func41, Tryd.ntmps41
          go_wp2_with (go_at_call 65; refine (cmpB_any _ _ _).mono ?_; rintro e w3 ⟨rfl, rfl⟩)
          go_ret
          refine ⟨rfl, ?_⟩
          repeat' (first | with_reducible exact Below.refl _ _ | with_reducible refine Below.setCell ?_ ?_ _ | with_reducible refine Below.alloc ?_ ?_ _ | with_reducible refine below_drewN ?_ _ | with_reducible refine Below.drew ?_ | with_reducible refine Below.trans ?_ (Below.mono (by assumption) ?_) | with_reducible exact Nat.le_refl _ | with_reducible refine Nat.le_trans ?_ (Below.size (by assumption)) | with_reducible refine Nat.le_trans ?_ (size_alloc _ _) | with_reducible refine Nat.le_trans ?_ (size_set _ _ _) | with_reducible refine Nat.le_trans ?_ (size_drewN _ _) | with_reducible refine Nat.le_trans ?_ (size_drew _) | (simp; done) | (simp; omega) | omega)
        · rw [show ordV k n s b k n' s' b' = 0 by simp [ordV, h1, h2, h3]]
          have t1 : (k == 1) = false := by simpa using h1
          have t2 : (k == 2) = false := by simpa using h2
          have t3 : (k == 3) = false := by simpa using h3
          clear h1 h2 h3
          go_enter Tryd.func41, Tryd.ntmps41
          go_wp2
          go_ret
          refine ⟨rfl, ?_⟩
          repeat' (first | with_reducible exact Below.refl _ _ | with_reducible refine Below.setCell ?_ ?_ _ | with_reducible refine Below.alloc ?_ ?_ _ | with_reducible refine below_drewN ?_ _ | with_reducible refine Below.drew ?_ | with_reducible refine Below.trans ?_ (Below.mono (by assumption) ?_) | with_reducible exact Nat.le_refl _ | with_reducible refine Nat.le_trans ?_ (Below.size (by assumption)) | with_reducible refine Nat.le_trans ?_ (size_alloc _ _) | with_reducible refine Nat.le_trans ?_ (size_set _ _ _) | with_reducible refine Nat.le_trans ?_ (size_drewN _ _) | with_reducible refine Nat.le_trans ?_ (size_drew _) | (simp; done) | (simp; omega) | omega)
  · rw [show ordV k n s b k' n' s' b' = cmpI k k' by simp [ordV, hk]]
    have t1 : (k != k') = true := by simpa using hk
    clear hk
    go_enter Tryd.func41, Tryd.ntmps41
    go_wp2_with (go_at_call 62; refine (cmpK_any _ _ _).mono ?_; rintro e w3 ⟨rfl, rfl⟩)
    go_ret
    refine ⟨rfl, ?_⟩
    repeat' (first | with_reducible exact Below.refl _ _ | with_reducible refine Below.setCell ?_ ?_ _ | with_reducible refine Below.alloc ?_ ?_ _ | with_reducible refine below_drewN ?_ _ | with_reducible refine Below.drew ?_ | with_reducible refine Below.trans ?_ (Below.mono (by assumption) ?_) | with_reducible exact Nat.le_refl _ | with_reducible refine Nat.le_trans ?_ (Below.size (by assumption)) | with_reducible refine Nat.le_trans ?_ (size_alloc _ _) | with_reducible refine Nat.le_trans ?_ (size_set _ _ _) | with_reducible refine Nat.le_trans ?_ (size_drewN _ _) | with_reducible refine Nat.le_trans ?_ (size_drew _) | (simp; done) | (simp; omega) | omega)
end Go.Proofs.YtaokibkeoomfjaaDoor
