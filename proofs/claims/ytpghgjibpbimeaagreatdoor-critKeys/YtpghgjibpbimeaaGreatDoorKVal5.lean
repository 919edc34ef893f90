/-
  Out of Comp1, Comp2, Comp3, Comp4, what is asked for (laid by pack9.py).
-/
import Derived.Test.YtpghgjibpbimeaaGreatDoorKNum
import Derived.Test.YtpghgjibpbimeaaGreatDoorKVal
import Derived.Test.YtpghgjibpbimeaaGreatDoorKVal3
import Derived.Test.YtpghgjibpbimeaaGreatDoorKVal4
import Derived.BigCall
import Derived.BigGuard
import Derived.BigQuiet
import Derived.Deep.QuietTactic
import Derived.Deep.RegionHeld3
import Derived.Deep.RegionWith
import Derived.Laws.Cover1
import Derived.Laws.EntriesVeiled
import Derived.Laws.IdiomStrings
import Derived.Lib.AppendIntMem
import Derived.Lib.IndexMore
import Derived.Lib.ItoaMem
import Derived.Lib.OthersKept
import Derived.Lib.SmallJoins
import Derived.Lib.Walk
import Derived.LoopTactic
import Derived.WalkKit
import Derived.WalkLawsBesides
import Derived.WalkSpells
import Derived.WideShapes
namespace Go.Proofs.YtpghgjibpbimeaaGreatDoor
section
open Go.RowKit
set_option maxHeartbeats 400000 in
theorem beside_blank (kd : Int) (w : World) :
    Calls Tryz.prog 86 #[.agg #[.int .i64 0, .int .i64 0, .string ⟨#[]⟩, .bool false, .int .i64 0], .int .i64 kd] w fun e w' => e = .returned (.agg #[.int .i64 kd, .int .i64 0, .string ⟨#[]⟩, .bool false, .int .i64 0]) ∧ Below w.heap.size w w' := by
  go_enter Tryz.func86, Tryz.ntmps86
  go_wp2
  refine bodyPost_ret (v := .agg #[.int .i64 kd, .int .i64 0, .string ⟨#[]⟩, .bool false, .int .i64 0]) (by simp [results, Tryz.results86, go_sem]) rfl ⟨rfl, ?_⟩
  repeat' (first | with_reducible exact Below.refl _ _ | with_reducible refine Below.setCell ?_ ?_ _ | with_reducible refine Below.alloc ?_ ?_ _ | with_reducible refine below_drewN ?_ _ | with_reducible refine Below.drew ?_ | with_reducible refine Below.trans ?_ (Below.mono (by assumption) ?_) | with_reducible exact Nat.le_refl _ | with_reducible refine Nat.le_trans ?_ (Below.size (by assumption)) | with_reducible refine Nat.le_trans ?_ (size_alloc _ _) | with_reducible refine Nat.le_trans ?_ (size_set _ _ _) | with_reducible refine Nat.le_trans ?_ (size_drewN _ _) | with_reducible refine Nat.le_trans ?_ (size_drew _) | (simp; done) | (simp; omega) | omega)
set_option maxHeartbeats 400000 in
theorem beside_other (k n : Int) (s : ByteArray) (b : Bool) (c kd : Int) (w : World) (hk : (k == 0) = false) :
    Calls Tryz.prog 86 #[.agg #[.int .i64 k, .int .i64 n, .string s, .bool b, .int .i64 c], .int .i64 kd] w fun e w' => e = .returned (.agg #[.int .i64 k, .int .i64 n, .string s, .bool b, .int .i64 c]) ∧ Below w.heap.size w w' := by
  go_enter Tryz.func86, Tryz.ntmps86
  go_wp2
  refine bodyPost_ret (v := .agg #[.int .i64 k, .int .i64 n, .string s, .bool b, .int .i64 c]) (by simp [results, Tryz.results86, go_sem]) rfl ⟨rfl, ?_⟩
  repeat' (first | with_reducible exact Below.refl _ _ | with_reducible refine Below.setCell ?_ ?_ _ | with_reducible refine Below.alloc ?_ ?_ _ | with_reducible refine below_drewN ?_ _ | with_reducible refine Below.drew ?_ | with_reducible refine Below.trans ?_ (Below.mono (by assumption) ?_) | with_reducible exact Nat.le_refl _ | with_reducible refine Nat.le_trans ?_ (Below.size (by assumption)) | with_reducible refine Nat.le_trans ?_ (size_alloc _ _) | with_reducible refine Nat.le_trans ?_ (size_set _ _ _) | with_reducible refine Nat.le_trans ?_ (size_drewN _ _) | with_reducible refine Nat.le_trans ?_ (size_drew _) | (simp; done) | (simp; omega) | omega)
theorem beside_any (k n : Int) (s : ByteArray) (b : Bool) (c kd : Int) (w : World) (hr : rightB k n s b c = true) :
    Calls Tryz.prog 86 #[.agg #[.int .i64 k, .int .i64 n, .string s, .bool b, .int .i64 c], .int .i64 kd] w fun e w' => e = .returned (.agg #[.int .i64 (besK k kd), .int .i64 n, .string s, .bool b, .int .i64 c]) ∧ Below w.heap.size w w' := by
  by_cases h : k = 0
  · subst h
    obtain ⟨rfl, rfl, rfl, rfl⟩ := right_zero hr
    rw [show besK 0 kd = kd by simp [besK]]
    exact beside_blank kd w
  · rw [show besK k kd = k by simp [besK, h]]
    exact beside_other k n s b c kd w (by simpa using h)
set_option maxHeartbeats 1000000 in
theorem folded_any (k n : Int) (s : ByteArray) (b : Bool) (c : Int) (w : World) :
    Calls Tryz.prog 83 #[.agg #[.int .i64 k, .int .i64 n, .string s, .bool b, .int .i64 c]] w fun e w' => e = .returned (.agg #[.int .i64 k, .int .i64 n, .string ⟨(foldL s.data.toList).toArray⟩, .bool b, .int .i64 c]) ∧ Below w.heap.size w w' := by
  have HF : Hid (∀ W : World, Calls Tryz.prog 25 #[.string s] W fun e w' => e = .returned (.string ⟨(foldL s.data.toList).toArray⟩) ∧ Below W.heap.size W w') := fun W => fold_any s W
  generalize (⟨(foldL s.data.toList).toArray⟩ : ByteArray) = T at *
  go_enter Tryz.func83, Tryz.ntmps83
  go_wp2_with fail
  refine (HF.out _).mono ?_
  rintro e w1 ⟨rfl, hb1⟩
  have hB : Below w.heap.size w w1 := by
    repeat' (first | with_reducible exact Below.refl _ _ | with_reducible refine Below.setCell ?_ ?_ _ | with_reducible refine Below.alloc ?_ ?_ _ | with_reducible refine below_drewN ?_ _ | with_reducible refine Below.drew ?_ | with_reducible refine Below.trans ?_ (Below.mono (by assumption) ?_) | with_reducible exact Nat.le_refl _ | with_reducible refine Nat.le_trans ?_ (Below.size (by assumption)) | with_reducible refine Nat.le_trans ?_ (size_alloc _ _) | with_reducible refine Nat.le_trans ?_ (size_set _ _ _) | with_reducible refine Nat.le_trans ?_ (size_drewN _ _) | with_reducible refine Nat.le_trans ?_ (size_drew _) | (simp; done) | (simp; omega) | omega)
  obtain ⟨⟨la, a0, a1, a2, a3, a4⟩, f0, f1, f2, f3, f4⟩ := ((HasV.at w w.heap.size k n s b c 25 rfl).alloc (.cells #[.int .i64 0, .int .i64 0, .string ⟨#[]⟩, .bool false, .int .i64 0] 25)).below hb1
  obtain ⟨⟨lb, b0, b1, b2, b3, b4⟩, g0, g1, g2, g3, g4⟩ := (HasV.at (w.alloc (.cells #[.int .i64 k, .int .i64 n, .string s, .bool b, .int .i64 c] 25)) (w.heap.size + 1) 0 0 ⟨#[]⟩ false 0 25 (by simp)).below hb1
  clear hb1
  go_wp2
  refine bodyPost_ret (v := .agg #[.int .i64 k, .int .i64 n, .string T, .bool b, .int .i64 c]) (by simp [results, Tryz.results83, go_sem, *]) rfl ⟨rfl, ?_⟩
  repeat' (first | with_reducible exact Below.refl _ _ | with_reducible refine Below.setCell ?_ ?_ _ | with_reducible refine Below.alloc ?_ ?_ _ | with_reducible refine below_drewN ?_ _ | with_reducible refine Below.drew ?_ | with_reducible refine Below.trans ?_ (Below.mono (by assumption) ?_) | with_reducible exact Nat.le_refl _ | with_reducible refine Nat.le_trans ?_ (Below.size (by assumption)) | with_reducible refine Nat.le_trans ?_ (size_alloc _ _) | with_reducible refine Nat.le_trans ?_ (size_set _ _ _) | with_reducible refine Nat.le_trans ?_ (size_drewN _ _) | with_reducible refine Nat.le_trans ?_ (size_drew _) | (simp; done) | (simp; omega) | omega)
end
section
open Go.RowKit
theorem TwoS.below {W w' w'' : World} {p q i j : Nat} {s s' : ByteArray}
    (h : w'.cell? ⟨p, i, none⟩ = some (.string s) ∧ w'.cell? ⟨q, j, none⟩ = some (.string s') ∧ p < w'.heap.size ∧ q < w'.heap.size ∧ Below W.heap.size W w') (k : Below w'.heap.size w' w'') :
    w''.cell? ⟨p, i, none⟩ = some (.string s) ∧ w''.cell? ⟨q, j, none⟩ = some (.string s') ∧ p < w''.heap.size ∧ q < w''.heap.size ∧ Below W.heap.size W w'' := by
  obtain ⟨h0, h1, l, m, hb⟩ := h
  exact ⟨by rw [k.cell (p := ⟨p, i, none⟩) l]; exact h0, by rw [k.cell (p := ⟨q, j, none⟩) m]; exact h1, Nat.lt_of_lt_of_le l k.size, Nat.lt_of_lt_of_le m k.size, hb.trans (k.mono hb.size)⟩
theorem TwoS.drew {W w' : World} {p q i j : Nat} {s s' : ByteArray}
    (h : w'.cell? ⟨p, i, none⟩ = some (.string s) ∧ w'.cell? ⟨q, j, none⟩ = some (.string s') ∧ p < w'.heap.size ∧ q < w'.heap.size ∧ Below W.heap.size W w') :
    w'.drew.cell? ⟨p, i, none⟩ = some (.string s) ∧ w'.drew.cell? ⟨q, j, none⟩ = some (.string s') ∧ p < w'.drew.heap.size ∧ q < w'.drew.heap.size ∧ Below W.heap.size W w'.drew := ⟨h.1, h.2.1, h.2.2.1, h.2.2.2.1, h.2.2.2.2.drew⟩
theorem TwoS.out {W w' : World} {p q i j : Nat} {s s' : ByteArray}
    (h : w'.cell? ⟨p, i, none⟩ = some (.string s) ∧ w'.cell? ⟨q, j, none⟩ = some (.string s') ∧ p < w'.heap.size ∧ q < w'.heap.size ∧ Below W.heap.size W w') : Below W.heap.size W w' := h.2.2.2.2
set_option maxHeartbeats 1000000 in
theorem ordered_text (n : Int) (s : ByteArray) (b : Bool) (c n' : Int) (s' : ByteArray) (b' : Bool) (c' : Int) (w : World) :
    Calls Tryz.prog 85 #[.agg #[.int .i64 2, .int .i64 n, .string s, .bool b, .int .i64 c], .agg #[.int .i64 2, .int .i64 n', .string s', .bool b', .int .i64 c']] w fun e w' => e = .returned (.int .i64 (cmpL (foldL s.data.toList) (foldL s'.data.toList))) ∧ Below w.heap.size w w' := by
  have HF : Hid (∀ W : World, Calls Tryz.prog 25 #[.string s] W fun e w' => e = .returned (.string ⟨(foldL s.data.toList).toArray⟩) ∧ Below W.heap.size W w') := fun W => fold_any s W
  have HG : Hid (∀ W : World, Calls Tryz.prog 25 #[.string s'] W fun e w' => e = .returned (.string ⟨(foldL s'.data.toList).toArray⟩) ∧ Below W.heap.size W w') := fun W => fold_any s' W
  have hT := list_ba (foldL s.data.toList)
  have hU := list_ba (foldL s'.data.toList)
  generalize (⟨(foldL s.data.toList).toArray⟩ : ByteArray) = T at *
  generalize (⟨(foldL s'.data.toList).toArray⟩ : ByteArray) = U at *
  rw [← hT, ← hU]
  clear hT hU
  have A := ((AtV.at w w.heap.size 2 n s b c 25 rfl).alloc (.cells #[.int .i64 2, .int .i64 n', .string s', .bool b', .int .i64 c'] 25))
  have B := AtV.at (w.alloc (.cells #[.int .i64 2, .int .i64 n, .string s, .bool b, .int .i64 c] 25)) (w.heap.size + 1) 2 n' s' b' c' 25 (by simp)
  have HS := hide (And.intro A.2.2.2.1 (And.intro B.2.2.2.1 (And.intro A.1 (And.intro B.1 (((Below.refl w.heap.size w).alloc (Nat.le_refl _) (.cells #[.int .i64 2, .int .i64 n, .string s, .bool b, .int .i64 c] 25)).alloc (by simp) (.cells #[.int .i64 2, .int .i64 n', .string s', .bool b', .int .i64 c'] 25))))))
  clear A B
  go_enter Tryz.func85, Tryz.ntmps85
  go_wp2
  go_region_held3 (fun w' => w'.cell? ⟨w.heap.size, 2, none⟩ = some (.string s) ∧ w'.cell? ⟨w.heap.size + 1, 2, none⟩ = some (.string s') ∧ w.heap.size < w'.heap.size ∧ w.heap.size + 1 < w'.heap.size ∧ Below w.heap.size w w') (first | exact HS.out | assumption | exact TwoS.drew (by assumption)) (first | (go_at_call_of 25 [Value.string s]; refine (HF.out _).mono ?_; rintro e w2 ⟨rfl, hb2⟩; have hs2 := TwoS.below (by assumption) hb2) | (go_at_call_of 25 [Value.string s']; refine (HG.out _).mono ?_; rintro e w2 ⟨rfl, hb2⟩; have hs2 := TwoS.below (by assumption) hb2) | (go_at_call 97; refine (cmpL_any _ _ _).mono ?_; rintro e w3 ⟨rfl, rfl⟩))
  all_goals go_wp2
  all_goals go_ret
  all_goals exact ⟨rfl, TwoS.out (by assumption)⟩
set_option maxHeartbeats 1000000 in
theorem ordered_any (k n : Int) (s : ByteArray) (b : Bool) (c k' n' : Int) (s' : ByteArray) (b' : Bool) (c' : Int) (w : World) :
    Calls Tryz.prog 85 #[.agg #[.int .i64 k, .int .i64 n, .string s, .bool b, .int .i64 c], .agg #[.int .i64 k', .int .i64 n', .string s', .bool b', .int .i64 c']] w fun e w' => e = .returned (.int .i64 (ordV k n s b k' n' s' b')) ∧ Below w.heap.size w w' := by
  by_cases hk : k = k'
  · subst hk
    by_cases h1 : k = 1
    · subst h1
      rw [show ordV 1 n s b 1 n' s' b' = cmpI n n' by simp [ordV]]
      go_enter Tryz.func85, Tryz.ntmps85
      go_wp2_with (go_at_call 96; refine (cmpI_any _ _ _).mono ?_; rintro e w3 ⟨rfl, rfl⟩)
      go_ret
      refine ⟨rfl, ?_⟩
      repeat' (first | with_reducible exact Below.refl _ _ | with_reducible refine Below.setCell ?_ ?_ _ | with_reducible refine Below.alloc ?_ ?_ _ | with_reducible refine below_drewN ?_ _ | with_reducible refine Below.drew ?_ | with_reducible refine Below.trans ?_ (Below.mono (by assumption) ?_) | with_reducible exact Nat.le_refl _ | with_reducible refine Nat.le_trans ?_ (Below.size (by assumption)) | with_reducible refine Nat.le_trans ?_ (size_alloc _ _) | with_reducible refine Nat.le_trans ?_ (size_set _ _ _) | with_reducible refine Nat.le_trans ?_ (size_drewN _ _) | with_reducible refine Nat.le_trans ?_ (size_drew _) | (simp; done) | (simp; omega) | omega)
    · by_cases h2 : k = 2
      · subst h2
        rw [show ordV 2 n s b 2 n' s' b' = cmpL (foldL s.data.toList) (foldL s'.data.toList) by simp [ordV]]
        exact ordered_text n s b c n' s' b' c' w
      · by_cases h3 : k = 3
        · subst h3
          rw [show ordV 3 n s b 3 n' s' b' = cmpB b b' by simp [ordV]]
          go_enter Tryz.func85, Tryz.ntmps85
          go_wp2_with (go_at_call 98; refine (cmpB_any _ _ _).mono ?_; rintro e w3 ⟨rfl, rfl⟩)
          go_ret
          refine ⟨rfl, ?_⟩
          repeat' (first | with_reducible exact Below.refl _ _ | with_reducible refine Below.setCell ?_ ?_ _ | with_reducible refine Below.alloc ?_ ?_ _ | with_reducible refine below_drewN ?_ _ | with_reducible refine Below.drew ?_ | with_reducible refine Below.trans ?_ (Below.mono (by assumption) ?_) | with_reducible exact Nat.le_refl _ | with_reducible refine Nat.le_trans ?_ (Below.size (by assumption)) | with_reducible refine Nat.le_trans ?_ (size_alloc _ _) | with_reducible refine Nat.le_trans ?_ (size_set _ _ _) | with_reducible refine Nat.le_trans ?_ (size_drewN _ _) | with_reducible refine Nat.le_trans ?_ (size_drew _) | (simp; done) | (simp; omega) | omega)
        · rw [show ordV k n s b k n' s' b' = 0 by simp [ordV, h1, h2, h3]]
          have t1 : (k == 1) = false := by simpa using h1
          have t2 : (k == 2) = false := by simpa using h2
          have t3 : (k == 3) = false := by simpa using h3
          clear h1 h2 h3
          go_enter Tryz.func85, Tryz.ntmps85
          go_wp2
          go_ret
          refine ⟨rfl, ?_⟩
          repeat' (first | with_reducible exact Below.refl _ _ | with_reducible refine Below.setCell ?_ ?_ _ | with_reducible refine Below.alloc ?_ ?_ _ | with_reducible refine below_drewN ?_ _ | with_reducible refine Below.drew ?_ | with_reducible refine Below.trans ?_ (Below.mono (by assumption) ?_) | with_reducible exact Nat.le_refl _ | with_reducible refine Nat.le_trans ?_ (Below.size (by assumption)) | with_reducible refine Nat.le_trans ?_ (size_alloc _ _) | with_reducible refine Nat.le_trans ?_ (size_set _ _ _) | with_reducible refine Nat.le_trans ?_ (size_drewN _ _) | with_reducible refine Nat.le_trans ?_ (size_drew _) | (simp; done) | (simp; omega) | omega)
  · rw [show ordV k n s b k' n' s' b' = cmpI k k' by simp [ordV, hk]]
    have t1 : (k != k') = true := by simpa using hk
    clear hk
    go_enter Tryz.func85, Tryz.ntmps85
    go_wp2_with (go_at_call 95; refine (cmpK_any _ _ _).mono ?_; rintro e w3 ⟨rfl, rfl⟩)
    go_ret
    refine ⟨rfl, ?_⟩
    repeat' (first | with_reducible exact Below.refl _ _ | with_reducible refine Below.setCell ?_ ?_ _ | with_reducible refine Below.alloc ?_ ?_ _ | with_reducible refine below_drewN ?_ _ | with_reducible refine Below.drew ?_ | with_reducible refine Below.trans ?_ (Below.mono (by assumption) ?_) | with_reducible exact Nat.le_refl _ | with_reducible refine Nat.le_trans ?_ (Below.size (by assumption)) | with_reducible refine Nat.le_trans ?_ (size_alloc _ _) | with_reducible refine Nat.le_trans ?_ (size_set _ _ _) | with_reducible refine Nat.le_trans ?_ (size_drewN _ _) | with_reducible refine Nat.le_trans ?_ (size_drew _) | (simp; done) | (simp; omega) | omega)
end
section
open Go.RowKit
theorem Box2.below {W w' w'' : World} {p q : Nat} {k n : Int} {s : ByteArray} {b : Bool} {c : Int} {k' n' : Int} {s' : ByteArray} {b' : Bool} {c' : Int}
    (h : w'.cell? ⟨p, 0, none⟩ = some (.int .i64 k) ∧ w'.cell? ⟨p, 1, none⟩ = some (.int .i64 n) ∧ w'.cell? ⟨p, 2, none⟩ = some (.string s) ∧ w'.cell? ⟨p, 3, none⟩ = some (.bool b) ∧ w'.cell? ⟨p, 4, none⟩ = some (.int .i64 c) ∧ w'.cell? ⟨q, 0, none⟩ = some (.int .i64 k') ∧ w'.cell? ⟨q, 1, none⟩ = some (.int .i64 n') ∧ w'.cell? ⟨q, 2, none⟩ = some (.string s') ∧ w'.cell? ⟨q, 3, none⟩ = some (.bool b') ∧ w'.cell? ⟨q, 4, none⟩ = some (.int .i64 c') ∧ p < w'.heap.size ∧ q < w'.heap.size ∧ Below W.heap.size W w') (z : Below w'.heap.size w' w'') :
    w''.cell? ⟨p, 0, none⟩ = some (.int .i64 k) ∧ w''.cell? ⟨p, 1, none⟩ = some (.int .i64 n) ∧ w''.cell? ⟨p, 2, none⟩ = some (.string s) ∧ w''.cell? ⟨p, 3, none⟩ = some (.bool b) ∧ w''.cell? ⟨p, 4, none⟩ = some (.int .i64 c) ∧ w''.cell? ⟨q, 0, none⟩ = some (.int .i64 k') ∧ w''.cell? ⟨q, 1, none⟩ = some (.int .i64 n') ∧ w''.cell? ⟨q, 2, none⟩ = some (.string s') ∧ w''.cell? ⟨q, 3, none⟩ = some (.bool b') ∧ w''.cell? ⟨q, 4, none⟩ = some (.int .i64 c') ∧ p < w''.heap.size ∧ q < w''.heap.size ∧ Below W.heap.size W w'' := by
  obtain ⟨a0, a1, a2, a3, a4, b0, b1, b2, b3, b4, l, m, hb⟩ := h
  exact ⟨by rw [z.cell (p := ⟨p, 0, none⟩) l]; exact a0, by rw [z.cell (p := ⟨p, 1, none⟩) l]; exact a1, by rw [z.cell (p := ⟨p, 2, none⟩) l]; exact a2, by rw [z.cell (p := ⟨p, 3, none⟩) l]; exact a3, by rw [z.cell (p := ⟨p, 4, none⟩) l]; exact a4, by rw [z.cell (p := ⟨q, 0, none⟩) m]; exact b0, by rw [z.cell (p := ⟨q, 1, none⟩) m]; exact b1, by rw [z.cell (p := ⟨q, 2, none⟩) m]; exact b2, by rw [z.cell (p := ⟨q, 3, none⟩) m]; exact b3, by rw [z.cell (p := ⟨q, 4, none⟩) m]; exact b4, Nat.lt_of_lt_of_le l z.size, Nat.lt_of_lt_of_le m z.size, hb.trans (z.mono hb.size)⟩
theorem Box2.drew {W w' : World} {p q : Nat} {k n : Int} {s : ByteArray} {b : Bool} {c : Int} {k' n' : Int} {s' : ByteArray} {b' : Bool} {c' : Int}
    (h : w'.cell? ⟨p, 0, none⟩ = some (.int .i64 k) ∧ w'.cell? ⟨p, 1, none⟩ = some (.int .i64 n) ∧ w'.cell? ⟨p, 2, none⟩ = some (.string s) ∧ w'.cell? ⟨p, 3, none⟩ = some (.bool b) ∧ w'.cell? ⟨p, 4, none⟩ = some (.int .i64 c) ∧ w'.cell? ⟨q, 0, none⟩ = some (.int .i64 k') ∧ w'.cell? ⟨q, 1, none⟩ = some (.int .i64 n') ∧ w'.cell? ⟨q, 2, none⟩ = some (.string s') ∧ w'.cell? ⟨q, 3, none⟩ = some (.bool b') ∧ w'.cell? ⟨q, 4, none⟩ = some (.int .i64 c') ∧ p < w'.heap.size ∧ q < w'.heap.size ∧ Below W.heap.size W w') :
    w'.drew.cell? ⟨p, 0, none⟩ = some (.int .i64 k) ∧ w'.drew.cell? ⟨p, 1, none⟩ = some (.int .i64 n) ∧ w'.drew.cell? ⟨p, 2, none⟩ = some (.string s) ∧ w'.drew.cell? ⟨p, 3, none⟩ = some (.bool b) ∧ w'.drew.cell? ⟨p, 4, none⟩ = some (.int .i64 c) ∧ w'.drew.cell? ⟨q, 0, none⟩ = some (.int .i64 k') ∧ w'.drew.cell? ⟨q, 1, none⟩ = some (.int .i64 n') ∧ w'.drew.cell? ⟨q, 2, none⟩ = some (.string s') ∧ w'.drew.cell? ⟨q, 3, none⟩ = some (.bool b') ∧ w'.drew.cell? ⟨q, 4, none⟩ = some (.int .i64 c') ∧ p < w'.drew.heap.size ∧ q < w'.drew.heap.size ∧ Below W.heap.size W w'.drew := by
  obtain ⟨a0, a1, a2, a3, a4, b0, b1, b2, b3, b4, l, m, hb⟩ := h
  exact ⟨a0, a1, a2, a3, a4, b0, b1, b2, b3, b4, l, m, hb.drew⟩
theorem Box2.out {W w' : World} {p q : Nat} {k n : Int} {s : ByteArray} {b : Bool} {c : Int} {k' n' : Int} {s' : ByteArray} {b' : Bool} {c' : Int}
    (h : w'.cell? ⟨p, 0, none⟩ = some (.int .i64 k) ∧ w'.cell? ⟨p, 1, none⟩ = some (.int .i64 n) ∧ w'.cell? ⟨p, 2, none⟩ = some (.string s) ∧ w'.cell? ⟨p, 3, none⟩ = some (.bool b) ∧ w'.cell? ⟨p, 4, none⟩ = some (.int .i64 c) ∧ w'.cell? ⟨q, 0, none⟩ = some (.int .i64 k') ∧ w'.cell? ⟨q, 1, none⟩ = some (.int .i64 n') ∧ w'.cell? ⟨q, 2, none⟩ = some (.string s') ∧ w'.cell? ⟨q, 3, none⟩ = some (.bool b') ∧ w'.cell? ⟨q, 4, none⟩ = some (.int .i64 c') ∧ p < w'.heap.size ∧ q < w'.heap.size ∧ Below W.heap.size W w') : Below W.heap.size W w' := by
  obtain ⟨a0, a1, a2, a3, a4, b0, b1, b2, b3, b4, l, m, hb⟩ := h
  exact hb
theorem Box2.new (w : World) (k n : Int) (s : ByteArray) (b : Bool) (c : Int) (k' n' : Int) (s' : ByteArray) (b' : Bool) (c' : Int) :
    ((w.alloc (.cells #[.int .i64 k, .int .i64 n, .string s, .bool b, .int .i64 c] 25)).alloc (.cells #[.int .i64 k', .int .i64 n', .string s', .bool b', .int .i64 c'] 25)).cell? ⟨w.heap.size, 0, none⟩ = some (.int .i64 k) ∧ ((w.alloc (.cells #[.int .i64 k, .int .i64 n, .string s, .bool b, .int .i64 c] 25)).alloc (.cells #[.int .i64 k', .int .i64 n', .string s', .bool b', .int .i64 c'] 25)).cell? ⟨w.heap.size, 1, none⟩ = some (.int .i64 n) ∧ ((w.alloc (.cells #[.int .i64 k, .int .i64 n, .string s, .bool b, .int .i64 c] 25)).alloc (.cells #[.int .i64 k', .int .i64 n', .string s', .bool b', .int .i64 c'] 25)).cell? ⟨w.heap.size, 2, none⟩ = some (.string s) ∧ ((w.alloc (.cells #[.int .i64 k, .int .i64 n, .string s, .bool b, .int .i64 c] 25)).alloc (.cells #[.int .i64 k', .int .i64 n', .string s', .bool b', .int .i64 c'] 25)).cell? ⟨w.heap.size, 3, none⟩ = some (.bool b) ∧ ((w.alloc (.cells #[.int .i64 k, .int .i64 n, .string s, .bool b, .int .i64 c] 25)).alloc (.cells #[.int .i64 k', .int .i64 n', .string s', .bool b', .int .i64 c'] 25)).cell? ⟨w.heap.size, 4, none⟩ = some (.int .i64 c) ∧ ((w.alloc (.cells #[.int .i64 k, .int .i64 n, .string s, .bool b, .int .i64 c] 25)).alloc (.cells #[.int .i64 k', .int .i64 n', .string s', .bool b', .int .i64 c'] 25)).cell? ⟨(w.heap.size + 1), 0, none⟩ = some (.int .i64 k') ∧ ((w.alloc (.cells #[.int .i64 k, .int .i64 n, .string s, .bool b, .int .i64 c] 25)).alloc (.cells #[.int .i64 k', .int .i64 n', .string s', .bool b', .int .i64 c'] 25)).cell? ⟨(w.heap.size + 1), 1, none⟩ = some (.int .i64 n') ∧ ((w.alloc (.cells #[.int .i64 k, .int .i64 n, .string s, .bool b, .int .i64 c] 25)).alloc (.cells #[.int .i64 k', .int .i64 n', .string s', .bool b', .int .i64 c'] 25)).cell? ⟨(w.heap.size + 1), 2, none⟩ = some (.string s') ∧ ((w.alloc (.cells #[.int .i64 k, .int .i64 n, .string s, .bool b, .int .i64 c] 25)).alloc (.cells #[.int .i64 k', .int .i64 n', .string s', .bool b', .int .i64 c'] 25)).cell? ⟨(w.heap.size + 1), 3, none⟩ = some (.bool b') ∧ ((w.alloc (.cells #[.int .i64 k, .int .i64 n, .string s, .bool b, .int .i64 c] 25)).alloc (.cells #[.int .i64 k', .int .i64 n', .string s', .bool b', .int .i64 c'] 25)).cell? ⟨(w.heap.size + 1), 4, none⟩ = some (.int .i64 c') ∧ w.heap.size < ((w.alloc (.cells #[.int .i64 k, .int .i64 n, .string s, .bool b, .int .i64 c] 25)).alloc (.cells #[.int .i64 k', .int .i64 n', .string s', .bool b', .int .i64 c'] 25)).heap.size ∧ (w.heap.size + 1) < ((w.alloc (.cells #[.int .i64 k, .int .i64 n, .string s, .bool b, .int .i64 c] 25)).alloc (.cells #[.int .i64 k', .int .i64 n', .string s', .bool b', .int .i64 c'] 25)).heap.size ∧ Below w.heap.size w ((w.alloc (.cells #[.int .i64 k, .int .i64 n, .string s, .bool b, .int .i64 c] 25)).alloc (.cells #[.int .i64 k', .int .i64 n', .string s', .bool b', .int .i64 c'] 25)) := by
  obtain ⟨l, a0, a1, a2, a3, a4⟩ := (AtV.at w w.heap.size k n s b c 25 rfl).alloc (.cells #[.int .i64 k', .int .i64 n', .string s', .bool b', .int .i64 c'] 25)
  obtain ⟨m, b0, b1, b2, b3, b4⟩ := AtV.at (w.alloc (.cells #[.int .i64 k, .int .i64 n, .string s, .bool b, .int .i64 c] 25)) (w.heap.size + 1) k' n' s' b' c' 25 (by simp)
  exact ⟨a0, a1, a2, a3, a4, b0, b1, b2, b3, b4, l, m, ((Below.refl w.heap.size w).alloc (Nat.le_refl _) _).alloc (by simp) _⟩
set_option maxHeartbeats 1000000 in
theorem trouble2_any (k n : Int) (s : ByteArray) (b : Bool) (c : Int) (k' n' : Int) (s' : ByteArray) (b' : Bool) (c' : Int) (w : World) (hz : s.size ≤ maxLen) (hz' : s'.size ≤ maxLen) :
    Calls Tryz.prog 84 #[.agg #[.int .i64 k, .int .i64 n, .string s, .bool b, .int .i64 c], .agg #[.int .i64 k', .int .i64 n', .string s', .bool b', .int .i64 c']] w fun e w' => e = .returned (.int .i64 (troubleV2 k n s b c k' n' s' b' c')) ∧ Below w.heap.size w w' := by
  have HR : Hid (∀ W : World, Calls Tryz.prog 27 #[.agg #[.int .i64 k, .int .i64 n, .string s, .bool b, .int .i64 c]] W fun e w' => e = .returned (.bool (rightB k n s b c)) ∧ Below W.heap.size W w') := fun W => right_any k n s b c W hz
  have HQ : Hid (∀ W : World, Calls Tryz.prog 27 #[.agg #[.int .i64 k', .int .i64 n', .string s', .bool b', .int .i64 c']] W fun e w' => e = .returned (.bool (rightB k' n' s' b' c')) ∧ Below W.heap.size W w') := fun W => right_any k' n' s' b' c' W hz'
  clear hz hz'
  have HV : Hid (troubleV2 k n s b c k' n' s' b' c' = if rightB k n s b c && rightB k' n' s' b' c' then (if c = 0 then c' else c) else 2) := rfl
  have HS := hide (Box2.new w k n s b c k' n' s' b' c')
  generalize rightB k n s b c = r at *
  generalize rightB k' n' s' b' c' = r' at *
  cases r
  · go_enter Tryz.func84, Tryz.ntmps84
    go_wp2_with fail
    refine (HR.out _).mono ?_
    rintro e w1 ⟨rfl, hb1⟩
    have HS1 := hide (Box2.below HS.out hb1)
    clear hb1 HS
    go_wp2
    go_ret
    exact ⟨by rw [HV.out]; rfl, Box2.out HS1.out⟩
  · cases r'
    · go_enter Tryz.func84, Tryz.ntmps84
      go_wp2_with fail
      refine (HR.out _).mono ?_
      rintro e w1 ⟨rfl, hb1⟩
      have HS1 := hide (Box2.below HS.out hb1)
      clear hb1 HS
      obtain ⟨a0, a1, a2, a3, a4, b0, b1, b2, b3, b4, l, m, hb⟩ := HS1.out
      go_wp2_with fail
      refine (HQ.out _).mono ?_
      rintro e w2 ⟨rfl, hb2⟩
      have HS2 := hide (Box2.below HS1.out hb2)
      clear hb2 HS1 a0 a1 a2 a3 a4 b0 b1 b2 b3 b4 l m hb
      go_wp2
      go_ret
      exact ⟨by rw [HV.out]; rfl, Box2.out HS2.out⟩
    · by_cases hc : c = 0
      · subst hc
        go_enter Tryz.func84, Tryz.ntmps84
        go_wp2_with fail
        refine (HR.out _).mono ?_
        rintro e w1 ⟨rfl, hb1⟩
        have HS1 := hide (Box2.below HS.out hb1)
        clear hb1 HS
        obtain ⟨a0, a1, a2, a3, a4, b0, b1, b2, b3, b4, l, m, hb⟩ := HS1.out
        go_wp2_with fail
        refine (HQ.out _).mono ?_
        rintro e w2 ⟨rfl, hb2⟩
        have HS2 := hide (Box2.below HS1.out hb2)
        clear hb2 HS1 a0 a1 a2 a3 a4 b0 b1 b2 b3 b4 l m hb
        obtain ⟨a0, a1, a2, a3, a4, b0, b1, b2, b3, b4, l, m, hb⟩ := HS2.out
        go_wp2
        go_ret
        exact ⟨by rw [HV.out]; rfl, hb⟩
      · have t : (c != 0) = true := by simpa using hc
        have HV2 : Hid (troubleV2 k n s b c k' n' s' b' c' = c) := by show _ = _; rw [HV.out]; simp [hc]
        clear HV hc
        go_enter Tryz.func84, Tryz.ntmps84
        go_wp2_with fail
        refine (HR.out _).mono ?_
        rintro e w1 ⟨rfl, hb1⟩
        have HS1 := hide (Box2.below HS.out hb1)
        clear hb1 HS
        obtain ⟨a0, a1, a2, a3, a4, b0, b1, b2, b3, b4, l, m, hb⟩ := HS1.out
        go_wp2_with fail
        refine (HQ.out _).mono ?_
        rintro e w2 ⟨rfl, hb2⟩
        have HS2 := hide (Box2.below HS1.out hb2)
        clear hb2 HS1 a0 a1 a2 a3 a4 b0 b1 b2 b3 b4 l m hb
        obtain ⟨a0, a1, a2, a3, a4, b0, b1, b2, b3, b4, l, m, hb⟩ := HS2.out
        go_wp2
        go_ret
        exact ⟨by rw [HV2.out]; rfl, hb⟩
set_option maxHeartbeats 2000000 in
theorem compareV_any (k n : Int) (s : ByteArray) (b : Bool) (c : Int) (k' n' : Int) (s' : ByteArray) (b' : Bool) (c' : Int) (w : World) (hz : s.size ≤ maxLen) (hz' : s'.size ≤ maxLen) :
    Calls Tryz.prog 64 #[.agg #[.int .i64 k, .int .i64 n, .string s, .bool b, .int .i64 c], .agg #[.int .i64 k', .int .i64 n', .string s', .bool b', .int .i64 c']] w fun e w' => e = .returned (.tuple #[.int .i64 (compareV k n s b c k' n' s' b' c').1, .int .i64 (compareV k n s b c k' n' s' b' c').2]) ∧ Below w.heap.size w w' := by
  have HT : Hid (∀ W : World, Calls Tryz.prog 84 #[.agg #[.int .i64 k, .int .i64 n, .string s, .bool b, .int .i64 c], .agg #[.int .i64 k', .int .i64 n', .string s', .bool b', .int .i64 c']] W fun e w' => e = .returned (.int .i64 (troubleV2 k n s b c k' n' s' b' c')) ∧ Below W.heap.size W w') := fun W => trouble2_any k n s b c k' n' s' b' c' W hz hz'
  clear hz hz'
  have HS := hide (Box2.new w k n s b c k' n' s' b' c')
  by_cases ht : troubleV2 k n s b c k' n' s' b' c' = 0
  · rw [show compareV k n s b c k' n' s' b' c' = (ordV (besK k k') n s b (besK k' k) n' s' b', 0) by simp [compareV, ht]]
    have hr : rightB k n s b c = true ∧ rightB k' n' s' b' c' = true := by
      unfold troubleV2 at ht
      split at ht
      · rename_i h; simpa using h
      · exact absurd ht (by decide)
    rw [ht] at HT
    have HB : Hid (∀ W : World, Calls Tryz.prog 86 #[.agg #[.int .i64 k, .int .i64 n, .string s, .bool b, .int .i64 c], .int .i64 k'] W fun e w' => e = .returned (.agg #[.int .i64 (besK k k'), .int .i64 n, .string s, .bool b, .int .i64 c]) ∧ Below W.heap.size W w') := fun W => beside_any k n s b c k' W hr.1
    have HC : Hid (∀ W : World, Calls Tryz.prog 86 #[.agg #[.int .i64 k', .int .i64 n', .string s', .bool b', .int .i64 c'], .int .i64 k] W fun e w' => e = .returned (.agg #[.int .i64 (besK k' k), .int .i64 n', .string s', .bool b', .int .i64 c']) ∧ Below W.heap.size W w') := fun W => beside_any k' n' s' b' c' k W hr.2
    have HO : Hid (∀ W : World, Calls Tryz.prog 85 #[.agg #[.int .i64 (besK k k'), .int .i64 n, .string s, .bool b, .int .i64 c], .agg #[.int .i64 (besK k' k), .int .i64 n', .string s', .bool b', .int .i64 c']] W fun e w' => e = .returned (.int .i64 (ordV (besK k k') n s b (besK k' k) n' s' b')) ∧ Below W.heap.size W w') := fun W => ordered_any _ n s b c _ n' s' b' c' W
    clear hr ht
    generalize ordV (besK k k') n s b (besK k' k) n' s' b' = X at *
    generalize besK k k' = K at *
    generalize besK k' k = K' at *
    go_enter Tryz.func64, Tryz.ntmps64
    go_wp2_with (go_at_call 84; refine (HT.out _).mono ?_; rintro e w1 ⟨rfl, hb1⟩)
    have HS1 := hide (Box2.below HS.out hb1)
    clear hb1 HS
    go_region_held3 (fun w' => w'.cell? ⟨w.heap.size, 0, none⟩ = some (.int .i64 k) ∧ w'.cell? ⟨w.heap.size, 1, none⟩ = some (.int .i64 n) ∧ w'.cell? ⟨w.heap.size, 2, none⟩ = some (.string s) ∧ w'.cell? ⟨w.heap.size, 3, none⟩ = some (.bool b) ∧ w'.cell? ⟨w.heap.size, 4, none⟩ = some (.int .i64 c) ∧ w'.cell? ⟨w.heap.size + 1, 0, none⟩ = some (.int .i64 k') ∧ w'.cell? ⟨w.heap.size + 1, 1, none⟩ = some (.int .i64 n') ∧ w'.cell? ⟨w.heap.size + 1, 2, none⟩ = some (.string s') ∧ w'.cell? ⟨w.heap.size + 1, 3, none⟩ = some (.bool b') ∧ w'.cell? ⟨w.heap.size + 1, 4, none⟩ = some (.int .i64 c') ∧ w.heap.size < w'.heap.size ∧ w.heap.size + 1 < w'.heap.size ∧ Below w.heap.size w w') (first | exact HS1.out | assumption | exact Box2.drew (by assumption)) (first | (go_at_call_of 86 [Value.agg #[Value.int IntKind.i64 k, Value.int IntKind.i64 n, Value.string s, Value.bool b, Value.int IntKind.i64 c], Value.int IntKind.i64 k']; refine (HB.out _).mono ?_; rintro e w2 ⟨rfl, hb2⟩; have hs2 := Box2.below (by assumption) hb2) | (go_at_call_of 86 [Value.agg #[Value.int IntKind.i64 k', Value.int IntKind.i64 n', Value.string s', Value.bool b', Value.int IntKind.i64 c'], Value.int IntKind.i64 k]; refine (HC.out _).mono ?_; rintro e w2 ⟨rfl, hb2⟩; have hs2 := Box2.below (by assumption) hb2) | (go_at_call 85; refine (HO.out _).mono ?_; rintro e w2 ⟨rfl, hb2⟩; have hs2 := Box2.below (by assumption) hb2))
    all_goals go_wp2
    all_goals go_ret2
    all_goals exact ⟨rfl, Box2.out (by assumption)⟩
  · rw [show compareV k n s b c k' n' s' b' c' = (0, troubleV2 k n s b c k' n' s' b' c') by simp [compareV, ht]]
    have t : (troubleV2 k n s b c k' n' s' b' c' != 0) = true := by simpa using ht
    clear ht
    generalize troubleV2 k n s b c k' n' s' b' c' = X at *
    go_enter Tryz.func64, Tryz.ntmps64
    go_wp2_with (go_at_call 84; refine (HT.out _).mono ?_; rintro e w1 ⟨rfl, hb1⟩)
    have HS1 := hide (Box2.below HS.out hb1)
    go_ret2
    exact ⟨rfl, Box2.out HS1.out⟩
end
section
open Go.RowKit
set_option linter.unusedSimpArgs false in
set_option maxHeartbeats 2000000 in
theorem alike_no1 (k n : Int) (s : ByteArray) (b : Bool) (c : Int) (k' n' : Int) (s' : ByteArray) (b' : Bool) (c' : Int) (w : World) (HR : Hid (∀ W : World, Calls Tryz.prog 27 #[.agg #[.int .i64 k, .int .i64 n, .string s, .bool b, .int .i64 c]] W fun e w' => e = .returned (.bool false) ∧ Below W.heap.size W w')) :
    Calls Tryz.prog 63 #[.agg #[.int .i64 k, .int .i64 n, .string s, .bool b, .int .i64 c], .agg #[.int .i64 k', .int .i64 n', .string s', .bool b', .int .i64 c']] w fun e w' => e = .returned (.bool false) ∧ Below w.heap.size w w' := by
  have HS := hide (Box2.new w k n s b c k' n' s' b' c')
  go_enter Tryz.func63, Tryz.ntmps63
  go_wp2
  refine wp_region_held_drew (S := fun w' => w'.cell? ⟨w.heap.size, 0, none⟩ = some (.int .i64 k) ∧ w'.cell? ⟨w.heap.size, 1, none⟩ = some (.int .i64 n) ∧ w'.cell? ⟨w.heap.size, 2, none⟩ = some (.string s) ∧ w'.cell? ⟨w.heap.size, 3, none⟩ = some (.bool b) ∧ w'.cell? ⟨w.heap.size, 4, none⟩ = some (.int .i64 c) ∧ w'.cell? ⟨w.heap.size + 1, 0, none⟩ = some (.int .i64 k') ∧ w'.cell? ⟨w.heap.size + 1, 1, none⟩ = some (.int .i64 n') ∧ w'.cell? ⟨w.heap.size + 1, 2, none⟩ = some (.string s') ∧ w'.cell? ⟨w.heap.size + 1, 3, none⟩ = some (.bool b') ∧ w'.cell? ⟨w.heap.size + 1, 4, none⟩ = some (.int .i64 c') ∧ w.heap.size < w'.heap.size ∧ w.heap.size + 1 < w'.heap.size ∧ Below w.heap.size w w') (by kernel_rfl) (Box2.drew HS.out) (fun hHeld => ?_)
  (refine takeD (i := 0) (some 5) rfl rfl (by kernel_rfl) (by kernel_rfl) (by kernel_rfl) (fun _ _ _ h => h) (v := ?_) rfl ?_ (by assumption) ?_; rotate_left; (focus (intro w hSw; (try dsimp only at hSw); first | (go_simp; done) | (go_simp; with_reducible rfl))); try simp only [Act.put, List.setIfInBounds_toArray, List.set_cons_zero, List.set_cons_succ]); (refine wpAnyH_ready (rs := [1]) (by kernel_rfl) (by simp) ?_; refine AllReadyH.cons (o := _) rfl (fun K hK => ?_) AllReadyH.nil; go_simp; (go_at_call 27; refine (HR.out _).mono ?_; rintro e w2 ⟨rfl, hb2⟩; have hs2 := Box2.below hHeld hb2); refine hK.out _ _ hs2 (fun hHeld => ?_); clear hK K; try simp only [Act.put, List.setIfInBounds_toArray, List.set_cons_zero, List.set_cons_succ]); (refine takeD (i := 2) (some 7) rfl rfl (by kernel_rfl) (by kernel_rfl) (by kernel_rfl) (fun _ _ _ h => h) (v := ?_) rfl ?_ (by assumption) ?_; rotate_left; (focus (intro w hSw; (try dsimp only at hSw); first | (go_simp; done) | (go_simp; with_reducible rfl))); try simp only [Act.put, List.setIfInBounds_toArray, List.set_cons_zero, List.set_cons_succ]); (refine skipD (i := 3) (some 8) rfl rfl (by kernel_rfl) (by kernel_rfl) (by kernel_rfl) (fun _ _ _ h => h) rfl (by assumption) ?_; try simp only [Act.put, List.setIfInBounds_toArray, List.set_cons_zero, List.set_cons_succ]); (refine skipD (i := 4) (some 9) rfl rfl (by kernel_rfl) (by kernel_rfl) (by kernel_rfl) (fun _ _ _ h => h) rfl (by assumption) ?_; try simp only [Act.put, List.setIfInBounds_toArray, List.set_cons_zero, List.set_cons_succ]); (refine takeD (i := 5) (some 10) rfl rfl (by kernel_rfl) (by kernel_rfl) (by kernel_rfl) (fun _ _ _ h => h) (v := ?_) rfl ?_ (by assumption) ?_; rotate_left; (focus (intro w hSw; (try dsimp only at hSw); first | (go_simp; done) | (go_simp; with_reducible rfl))); try simp only [Act.put, List.setIfInBounds_toArray, List.set_cons_zero, List.set_cons_succ]); (refine takeD (i := 6) (some 11) rfl rfl (by kernel_rfl) (by kernel_rfl) (by kernel_rfl) (fun _ _ _ h => h) (v := ?_) rfl ?_ (by assumption) ?_; rotate_left; (focus (intro w hSw; (try dsimp only at hSw); first | (go_simp; done) | (go_simp; with_reducible rfl))); try simp only [Act.put, List.setIfInBounds_toArray, List.set_cons_zero, List.set_cons_succ]); (refine skipD (i := 7) (some 12) rfl rfl (by kernel_rfl) (by kernel_rfl) (by kernel_rfl) (fun _ _ _ h => h) rfl (by assumption) ?_; try simp only [Act.put, List.setIfInBounds_toArray, List.set_cons_zero, List.set_cons_succ]); (refine skipD (i := 8) (some 13) rfl rfl (by kernel_rfl) (by kernel_rfl) (by kernel_rfl) (fun _ _ _ h => h) rfl (by assumption) ?_; try simp only [Act.put, List.setIfInBounds_toArray, List.set_cons_zero, List.set_cons_succ]); (refine skipD (i := 9) (some 14) rfl rfl (by kernel_rfl) (by kernel_rfl) (by kernel_rfl) (fun _ _ _ h => h) rfl (by assumption) ?_; try simp only [Act.put, List.setIfInBounds_toArray, List.set_cons_zero, List.set_cons_succ]); (refine skipD (i := 10) (some 15) rfl rfl (by kernel_rfl) (by kernel_rfl) (by kernel_rfl) (fun _ _ _ h => h) rfl (by assumption) ?_; try simp only [Act.put, List.setIfInBounds_toArray, List.set_cons_zero, List.set_cons_succ]); (refine skipD (i := 11) (some 16) rfl rfl (by kernel_rfl) (by kernel_rfl) (by kernel_rfl) (fun _ _ _ h => h) rfl (by assumption) ?_; try simp only [Act.put, List.setIfInBounds_toArray, List.set_cons_zero, List.set_cons_succ]); (refine takeD (i := 12) (some 17) rfl rfl (by kernel_rfl) (by kernel_rfl) (by kernel_rfl) (fun _ _ _ h => h) (v := ?_) rfl ?_ (by assumption) ?_; rotate_left; (focus (intro w hSw; (try dsimp only at hSw); first | (go_simp; done) | (go_simp; with_reducible rfl))); try simp only [Act.put, List.setIfInBounds_toArray, List.set_cons_zero, List.set_cons_succ]); (refine takeD (i := 13) (some 4) rfl rfl (by kernel_rfl) (by kernel_rfl) (by kernel_rfl) (fun _ _ _ h => h) (v := ?_) rfl ?_ (by assumption) ?_; rotate_left; (focus (intro w hSw; (try dsimp only at hSw); first | (go_simp; done) | (go_simp; with_reducible rfl))); try simp only [Act.put, List.setIfInBounds_toArray, List.set_cons_zero, List.set_cons_succ]); refine wpAnyH_done (by kernel_rfl) ?_ _
  go_wp2
  go_ret
  exact ⟨rfl, Box2.out (by assumption)⟩
set_option linter.unusedSimpArgs false in
set_option maxHeartbeats 2000000 in
theorem alike_no2 (k n : Int) (s : ByteArray) (b : Bool) (c : Int) (k' n' : Int) (s' : ByteArray) (b' : Bool) (c' : Int) (w : World) (HR : Hid (∀ W : World, Calls Tryz.prog 27 #[.agg #[.int .i64 k, .int .i64 n, .string s, .bool b, .int .i64 c]] W fun e w' => e = .returned (.bool true) ∧ Below W.heap.size W w')) (HQ : Hid (∀ W : World, Calls Tryz.prog 27 #[.agg #[.int .i64 k', .int .i64 n', .string s', .bool b', .int .i64 c']] W fun e w' => e = .returned (.bool false) ∧ Below W.heap.size W w')) :
    Calls Tryz.prog 63 #[.agg #[.int .i64 k, .int .i64 n, .string s, .bool b, .int .i64 c], .agg #[.int .i64 k', .int .i64 n', .string s', .bool b', .int .i64 c']] w fun e w' => e = .returned (.bool false) ∧ Below w.heap.size w w' := by
  have HS := hide (Box2.new w k n s b c k' n' s' b' c')
  go_enter Tryz.func63, Tryz.ntmps63
  go_wp2
  refine wp_region_held_drew (S := fun w' => w'.cell? ⟨w.heap.size, 0, none⟩ = some (.int .i64 k) ∧ w'.cell? ⟨w.heap.size, 1, none⟩ = some (.int .i64 n) ∧ w'.cell? ⟨w.heap.size, 2, none⟩ = some (.string s) ∧ w'.cell? ⟨w.heap.size, 3, none⟩ = some (.bool b) ∧ w'.cell? ⟨w.heap.size, 4, none⟩ = some (.int .i64 c) ∧ w'.cell? ⟨w.heap.size + 1, 0, none⟩ = some (.int .i64 k') ∧ w'.cell? ⟨w.heap.size + 1, 1, none⟩ = some (.int .i64 n') ∧ w'.cell? ⟨w.heap.size + 1, 2, none⟩ = some (.string s') ∧ w'.cell? ⟨w.heap.size + 1, 3, none⟩ = some (.bool b') ∧ w'.cell? ⟨w.heap.size + 1, 4, none⟩ = some (.int .i64 c') ∧ w.heap.size < w'.heap.size ∧ w.heap.size + 1 < w'.heap.size ∧ Below w.heap.size w w') (by kernel_rfl) (Box2.drew HS.out) (fun hHeld => ?_)
  (refine takeD (i := 0) (some 5) rfl rfl (by kernel_rfl) (by kernel_rfl) (by kernel_rfl) (fun _ _ _ h => h) (v := ?_) rfl ?_ (by assumption) ?_; rotate_left; (focus (intro w hSw; (try dsimp only at hSw); first | (go_simp; done) | (go_simp; with_reducible rfl))); try simp only [Act.put, List.setIfInBounds_toArray, List.set_cons_zero, List.set_cons_succ]); (refine wpAnyH_ready (rs := [1]) (by kernel_rfl) (by simp) ?_; refine AllReadyH.cons (o := _) rfl (fun K hK => ?_) AllReadyH.nil; go_simp; (go_at_call 27; refine (HR.out _).mono ?_; rintro e w2 ⟨rfl, hb2⟩; have hs2 := Box2.below hHeld hb2); refine hK.out _ _ hs2 (fun hHeld => ?_); clear hK K; try simp only [Act.put, List.setIfInBounds_toArray, List.set_cons_zero, List.set_cons_succ]); (refine takeD (i := 2) (some 7) rfl rfl (by kernel_rfl) (by kernel_rfl) (by kernel_rfl) (fun _ _ _ h => h) (v := ?_) rfl ?_ (by assumption) ?_; rotate_left; (focus (intro w hSw; (try dsimp only at hSw); first | (go_simp; done) | (go_simp; with_reducible rfl))); try simp only [Act.put, List.setIfInBounds_toArray, List.set_cons_zero, List.set_cons_succ]); (refine takeD (i := 3) (some 8) rfl rfl (by kernel_rfl) (by kernel_rfl) (by kernel_rfl) (fun _ _ _ h => h) (v := ?_) rfl ?_ (by assumption) ?_; rotate_left; (focus (intro w hSw; (try dsimp only at hSw); first | (go_simp; done) | (go_simp; with_reducible rfl))); try simp only [Act.put, List.setIfInBounds_toArray, List.set_cons_zero, List.set_cons_succ]); (refine wpAnyH_ready (rs := [4]) (by kernel_rfl) (by simp) ?_; refine AllReadyH.cons (o := _) rfl (fun K hK => ?_) AllReadyH.nil; go_simp; (go_at_call 27; refine (HQ.out _).mono ?_; rintro e w2 ⟨rfl, hb2⟩; have hs2 := Box2.below hHeld hb2); refine hK.out _ _ hs2 (fun hHeld => ?_); clear hK K; try simp only [Act.put, List.setIfInBounds_toArray, List.set_cons_zero, List.set_cons_succ]); (refine takeD (i := 5) (some 10) rfl rfl (by kernel_rfl) (by kernel_rfl) (by kernel_rfl) (fun _ _ _ h => h) (v := ?_) rfl ?_ (by assumption) ?_; rotate_left; (focus (intro w hSw; (try dsimp only at hSw); first | (go_simp; done) | (go_simp; with_reducible rfl))); try simp only [Act.put, List.setIfInBounds_toArray, List.set_cons_zero, List.set_cons_succ]); (refine takeD (i := 6) (some 11) rfl rfl (by kernel_rfl) (by kernel_rfl) (by kernel_rfl) (fun _ _ _ h => h) (v := ?_) rfl ?_ (by assumption) ?_; rotate_left; (focus (intro w hSw; (try dsimp only at hSw); first | (go_simp; done) | (go_simp; with_reducible rfl))); try simp only [Act.put, List.setIfInBounds_toArray, List.set_cons_zero, List.set_cons_succ]); (refine skipD (i := 7) (some 12) rfl rfl (by kernel_rfl) (by kernel_rfl) (by kernel_rfl) (fun _ _ _ h => h) rfl (by assumption) ?_; try simp only [Act.put, List.setIfInBounds_toArray, List.set_cons_zero, List.set_cons_succ]); (refine skipD (i := 8) (some 13) rfl rfl (by kernel_rfl) (by kernel_rfl) (by kernel_rfl) (fun _ _ _ h => h) rfl (by assumption) ?_; try simp only [Act.put, List.setIfInBounds_toArray, List.set_cons_zero, List.set_cons_succ]); (refine skipD (i := 9) (some 14) rfl rfl (by kernel_rfl) (by kernel_rfl) (by kernel_rfl) (fun _ _ _ h => h) rfl (by assumption) ?_; try simp only [Act.put, List.setIfInBounds_toArray, List.set_cons_zero, List.set_cons_succ]); (refine skipD (i := 10) (some 15) rfl rfl (by kernel_rfl) (by kernel_rfl) (by kernel_rfl) (fun _ _ _ h => h) rfl (by assumption) ?_; try simp only [Act.put, List.setIfInBounds_toArray, List.set_cons_zero, List.set_cons_succ]); (refine skipD (i := 11) (some 16) rfl rfl (by kernel_rfl) (by kernel_rfl) (by kernel_rfl) (fun _ _ _ h => h) rfl (by assumption) ?_; try simp only [Act.put, List.setIfInBounds_toArray, List.set_cons_zero, List.set_cons_succ]); (refine takeD (i := 12) (some 17) rfl rfl (by kernel_rfl) (by kernel_rfl) (by kernel_rfl) (fun _ _ _ h => h) (v := ?_) rfl ?_ (by assumption) ?_; rotate_left; (focus (intro w hSw; (try dsimp only at hSw); first | (go_simp; done) | (go_simp; with_reducible rfl))); try simp only [Act.put, List.setIfInBounds_toArray, List.set_cons_zero, List.set_cons_succ]); (refine takeD (i := 13) (some 4) rfl rfl (by kernel_rfl) (by kernel_rfl) (by kernel_rfl) (fun _ _ _ h => h) (v := ?_) rfl ?_ (by assumption) ?_; rotate_left; (focus (intro w hSw; (try dsimp only at hSw); first | (go_simp; done) | (go_simp; with_reducible rfl))); try simp only [Act.put, List.setIfInBounds_toArray, List.set_cons_zero, List.set_cons_succ]); refine wpAnyH_done (by kernel_rfl) ?_ _
  go_wp2
  go_ret
  exact ⟨rfl, Box2.out (by assumption)⟩
theorem same_or (k n : Int) (T : ByteArray) (b : Bool) (c : Int) (k' n' : Int) (U : ByteArray) (b' : Bool) (c' : Int) :
    ((k == k') = true ∧ (n == n') = true ∧ (T.toList == U.toList) = true ∧ (b == b') = true ∧ (c == c') = true) ∨ ((k == k') = false) ∨ ((k == k') = true ∧ (n == n') = false) ∨ ((k == k') = true ∧ (n == n') = true ∧ (T.toList == U.toList) = false) ∨ ((k == k') = true ∧ (n == n') = true ∧ (T.toList == U.toList) = true ∧ (b == b') = false) ∨ ((k == k') = true ∧ (n == n') = true ∧ (T.toList == U.toList) = true ∧ (b == b') = true ∧ (c == c') = false) := by
  cases h0 : (k == k') <;> cases h1 : (n == n') <;> cases h2 : (T.toList == U.toList) <;> cases h3 : (b == b') <;> cases h4 : (c == c') <;> simp
set_option maxHeartbeats 4000000 in
theorem alike_yes (k n : Int) (s : ByteArray) (b : Bool) (c : Int) (k' n' : Int) (s' : ByteArray) (b' : Bool) (c' : Int) (T U : ByteArray) (w : World) (HR : Hid (∀ W : World, Calls Tryz.prog 27 #[.agg #[.int .i64 k, .int .i64 n, .string s, .bool b, .int .i64 c]] W fun e w' => e = .returned (.bool true) ∧ Below W.heap.size W w')) (HQ : Hid (∀ W : World, Calls Tryz.prog 27 #[.agg #[.int .i64 k', .int .i64 n', .string s', .bool b', .int .i64 c']] W fun e w' => e = .returned (.bool true) ∧ Below W.heap.size W w')) (HF : Hid (∀ W : World, Calls Tryz.prog 83 #[.agg #[.int .i64 k, .int .i64 n, .string s, .bool b, .int .i64 c]] W fun e w' => e = .returned (.agg #[.int .i64 k, .int .i64 n, .string T, .bool b, .int .i64 c]) ∧ Below W.heap.size W w')) (HG : Hid (∀ W : World, Calls Tryz.prog 83 #[.agg #[.int .i64 k', .int .i64 n', .string s', .bool b', .int .i64 c']] W fun e w' => e = .returned (.agg #[.int .i64 k', .int .i64 n', .string U, .bool b', .int .i64 c']) ∧ Below W.heap.size W w')) :
    Calls Tryz.prog 63 #[.agg #[.int .i64 k, .int .i64 n, .string s, .bool b, .int .i64 c], .agg #[.int .i64 k', .int .i64 n', .string s', .bool b', .int .i64 c']] w fun e w' => e = .returned (.bool ((k == k') && (n == n') && (T.toList == U.toList) && (b == b') && (c == c'))) ∧ Below w.heap.size w w' := by
  have HS := hide (Box2.new w k n s b c k' n' s' b' c')
  rcases same_or k n T b c k' n' U b' c' with ⟨e0, e1, e2, e3, e4⟩ | e0 | ⟨e0, e1⟩ | ⟨e0, e1, e2⟩ | ⟨e0, e1, e2, e3⟩ | ⟨e0, e1, e2, e3, e4⟩
  · have HE : Hid (((k == k') && (n == n') && (T.toList == U.toList) && (b == b') && (c == c')) = true) := by show _ = _; simp [*]
    go_enter Tryz.func63, Tryz.ntmps63
    go_wp2
    go_region_held3 (fun w' => w'.cell? ⟨w.heap.size, 0, none⟩ = some (.int .i64 k) ∧ w'.cell? ⟨w.heap.size, 1, none⟩ = some (.int .i64 n) ∧ w'.cell? ⟨w.heap.size, 2, none⟩ = some (.string s) ∧ w'.cell? ⟨w.heap.size, 3, none⟩ = some (.bool b) ∧ w'.cell? ⟨w.heap.size, 4, none⟩ = some (.int .i64 c) ∧ w'.cell? ⟨w.heap.size + 1, 0, none⟩ = some (.int .i64 k') ∧ w'.cell? ⟨w.heap.size + 1, 1, none⟩ = some (.int .i64 n') ∧ w'.cell? ⟨w.heap.size + 1, 2, none⟩ = some (.string s') ∧ w'.cell? ⟨w.heap.size + 1, 3, none⟩ = some (.bool b') ∧ w'.cell? ⟨w.heap.size + 1, 4, none⟩ = some (.int .i64 c') ∧ w.heap.size < w'.heap.size ∧ w.heap.size + 1 < w'.heap.size ∧ Below w.heap.size w w') (first | exact HS.out | assumption | exact Box2.drew (by assumption)) (first | (go_at_call_of 27 [Value.agg #[Value.int IntKind.i64 k, Value.int IntKind.i64 n, Value.string s, Value.bool b, Value.int IntKind.i64 c]]; refine (HR.out _).mono ?_; rintro e w2 ⟨rfl, hb2⟩; have hs2 := Box2.below (by assumption) hb2) | (go_at_call_of 27 [Value.agg #[Value.int IntKind.i64 k', Value.int IntKind.i64 n', Value.string s', Value.bool b', Value.int IntKind.i64 c']]; refine (HQ.out _).mono ?_; rintro e w2 ⟨rfl, hb2⟩; have hs2 := Box2.below (by assumption) hb2) | (go_at_call_of 83 [Value.agg #[Value.int IntKind.i64 k, Value.int IntKind.i64 n, Value.string s, Value.bool b, Value.int IntKind.i64 c]]; refine (HF.out _).mono ?_; rintro e w2 ⟨rfl, hb2⟩; have hs2 := Box2.below (by assumption) hb2) | (go_at_call_of 83 [Value.agg #[Value.int IntKind.i64 k', Value.int IntKind.i64 n', Value.string s', Value.bool b', Value.int IntKind.i64 c']]; refine (HG.out _).mono ?_; rintro e w2 ⟨rfl, hb2⟩; have hs2 := Box2.below (by assumption) hb2))
    all_goals go_wp2
    all_goals go_ret
    all_goals exact ⟨by rw [HE.out]; rfl, Box2.out (by assumption)⟩
  all_goals
    have HE : Hid (((k == k') && (n == n') && (T.toList == U.toList) && (b == b') && (c == c')) = false) := by show _ = _; simp [*]
    go_enter Tryz.func63, Tryz.ntmps63
    go_wp2
    go_region_held3 (fun w' => w'.cell? ⟨w.heap.size, 0, none⟩ = some (.int .i64 k) ∧ w'.cell? ⟨w.heap.size, 1, none⟩ = some (.int .i64 n) ∧ w'.cell? ⟨w.heap.size, 2, none⟩ = some (.string s) ∧ w'.cell? ⟨w.heap.size, 3, none⟩ = some (.bool b) ∧ w'.cell? ⟨w.heap.size, 4, none⟩ = some (.int .i64 c) ∧ w'.cell? ⟨w.heap.size + 1, 0, none⟩ = some (.int .i64 k') ∧ w'.cell? ⟨w.heap.size + 1, 1, none⟩ = some (.int .i64 n') ∧ w'.cell? ⟨w.heap.size + 1, 2, none⟩ = some (.string s') ∧ w'.cell? ⟨w.heap.size + 1, 3, none⟩ = some (.bool b') ∧ w'.cell? ⟨w.heap.size + 1, 4, none⟩ = some (.int .i64 c') ∧ w.heap.size < w'.heap.size ∧ w.heap.size + 1 < w'.heap.size ∧ Below w.heap.size w w') (first | exact HS.out | assumption | exact Box2.drew (by assumption)) (first | (go_at_call_of 27 [Value.agg #[Value.int IntKind.i64 k, Value.int IntKind.i64 n, Value.string s, Value.bool b, Value.int IntKind.i64 c]]; refine (HR.out _).mono ?_; rintro e w2 ⟨rfl, hb2⟩; have hs2 := Box2.below (by assumption) hb2) | (go_at_call_of 27 [Value.agg #[Value.int IntKind.i64 k', Value.int IntKind.i64 n', Value.string s', Value.bool b', Value.int IntKind.i64 c']]; refine (HQ.out _).mono ?_; rintro e w2 ⟨rfl, hb2⟩; have hs2 := Box2.below (by assumption) hb2) | (go_at_call_of 83 [Value.agg #[Value.int IntKind.i64 k, Value.int IntKind.i64 n, Value.string s, Value.bool b, Value.int IntKind.i64 c]]; refine (HF.out _).mono ?_; rintro e w2 ⟨rfl, hb2⟩; have hs2 := Box2.below (by assumption) hb2) | (go_at_call_of 83 [Value.agg #[Value.int IntKind.i64 k', Value.int IntKind.i64 n', Value.string s', Value.bool b', Value.int IntKind.i64 c']]; refine (HG.out _).mono ?_; rintro e w2 ⟨rfl, hb2⟩; have hs2 := Box2.below (by assumption) hb2))
    all_goals go_wp2
    all_goals go_ret
    all_goals exact ⟨by rw [HE.out]; rfl, Box2.out (by assumption)⟩
theorem alikeV_any (k n : Int) (s : ByteArray) (b : Bool) (c : Int) (k' n' : Int) (s' : ByteArray) (b' : Bool) (c' : Int) (w : World) (hz : s.size ≤ maxLen) (hz' : s'.size ≤ maxLen) :
    Calls Tryz.prog 63 #[.agg #[.int .i64 k, .int .i64 n, .string s, .bool b, .int .i64 c], .agg #[.int .i64 k', .int .i64 n', .string s', .bool b', .int .i64 c']] w fun e w' => e = .returned (.bool (alikeV k n s b c k' n' s' b' c')) ∧ Below w.heap.size w w' := by
  have HR : Hid (∀ W : World, Calls Tryz.prog 27 #[.agg #[.int .i64 k, .int .i64 n, .string s, .bool b, .int .i64 c]] W fun e w' => e = .returned (.bool (rightB k n s b c)) ∧ Below W.heap.size W w') := fun W => right_any k n s b c W hz
  have HQ : Hid (∀ W : World, Calls Tryz.prog 27 #[.agg #[.int .i64 k', .int .i64 n', .string s', .bool b', .int .i64 c']] W fun e w' => e = .returned (.bool (rightB k' n' s' b' c')) ∧ Below W.heap.size W w') := fun W => right_any k' n' s' b' c' W hz'
  cases hr : rightB k n s b c
  · rw [show alikeV k n s b c k' n' s' b' c' = false by simp [alikeV, hr]]
    rw [hr] at HR
    exact alike_no1 k n s b c k' n' s' b' c' w HR
  · rw [hr] at HR
    cases hq : rightB k' n' s' b' c'
    · rw [show alikeV k n s b c k' n' s' b' c' = false by simp [alikeV, hq]]
      rw [hq] at HQ
      exact alike_no2 k n s b c k' n' s' b' c' w HR HQ
    · rw [hq] at HQ
      have h := alike_yes k n s b c k' n' s' b' c' _ _ w HR HQ (fun W => folded_any k n s b c W) (fun W => folded_any k' n' s' b' c' W)
      have e : alikeV k n s b c k' n' s' b' c' = ((k == k') && (n == n') && ((⟨(foldL s.data.toList).toArray⟩ : ByteArray).toList == (⟨(foldL s'.data.toList).toArray⟩ : ByteArray).toList) && (b == b') && (c == c')) := by
        rw [list_ba, list_ba, Bool.eq_iff_iff]
        simp [alikeV, hr, hq]
      rw [e]
      exact h
end
end Go.Proofs.YtpghgjibpbimeaaGreatDoor
