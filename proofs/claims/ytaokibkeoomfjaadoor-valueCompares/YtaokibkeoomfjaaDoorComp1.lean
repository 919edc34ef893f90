/-
  The contracts of value's beside, folded, ordered.
-/
import Derived.Test.YtaokibkeoomfjaaDoorVal4
import Derived.Test.YtaokibkeoomfjaaDoorCompMath
import Derived.Test.YtaokibkeoomfjaaDoorValMem
namespace Go.Proofs.YtaokibkeoomfjaaDoor
open Go.RowKit

set_option maxHeartbeats 400000 in
theorem beside_blank (kd : Int) (w : World) :
    Calls Tryd.prog 42 #[.agg #[.int .i64 0, .int .i64 0, .string ⟨#[]⟩, .bool false, .int .i64 0], .int .i64 kd] w fun e w' => e = .returned (.agg #[.int .i64 kd, .int .i64 0, .string ⟨#[]⟩, .bool false, .int .i64 0]) ∧ Below w.heap.size w w' := by
  go_enter Tryd.func42, Tryd.ntmps42
  go_wp2
  refine bodyPost_ret (v := .agg #[.int .i64 kd, .int .i64 0, .string ⟨#[]⟩, .bool false, .int .i64 0]) (by simp [results, Tryd.results42, go_sem]) rfl ⟨rfl, ?_⟩
  repeat' (first | with_reducible exact Below.refl _ _ | with_reducible refine Below.setCell ?_ ?_ _ | with_reducible refine Below.alloc ?_ ?_ _ | with_reducible refine below_drewN ?_ _ | with_reducible refine Below.drew ?_ | with_reducible refine Below.trans ?_ (Below.mono (by assumption) ?_) | with_reducible exact Nat.le_refl _ | with_reducible refine Nat.le_trans ?_ (Below.size (by assumption)) | with_reducible refine Nat.le_trans ?_ (size_alloc _ _) | with_reducible refine Nat.le_trans ?_ (size_set _ _ _) | with_reducible refine Nat.le_trans ?_ (size_drewN _ _) | with_reducible refine Nat.le_trans ?_ (size_drew _) | (simp; done) | (simp; omega) | omega)
set_option maxHeartbeats 400000 in
theorem beside_other (k n : Int) (s : ByteArray) (b : Bool) (c kd : Int) (w : World) (hk : (k == 0) = false) :
    Calls Tryd.prog 42 #[.agg #[.int .i64 k, .int .i64 n, .string s, .bool b, .int .i64 c], .int .i64 kd] w fun e w' => e = .returned (.agg #[.int .i64 k, .int .i64 n, .string s, .bool b, .int .i64 c]) ∧ Below w.heap.size w w' := by
  go_enter Tryd.func42, Tryd.ntmps42
  go_wp2
  refine bodyPost_ret (v := .agg #[.int .i64 k, .int .i64 n, .string s, .bool b, .int .i64 c]) (by simp [results, Tryd.results42, go_sem]) rfl ⟨rfl, ?_⟩
  repeat' (first | with_reducible exact Below.refl _ _ | with_reducible refine Below.setCell ?_ ?_ _ | with_reducible refine Below.alloc ?_ ?_ _ | with_reducible refine below_drewN ?_ _ | with_reducible refine Below.drew ?_ | with_reducible refine Below.trans ?_ (Below.mono (by assumption) ?_) | with_reducible exact Nat.le_refl _ | with_reducible refine Nat.le_trans ?_ (Below.size (by assumption)) | with_reducible refine Nat.le_trans ?_ (size_alloc _ _) | with_reducible refine Nat.le_trans ?_ (size_set _ _ _) | with_reducible refine Nat.le_trans ?_ (size_drewN _ _) | with_reducible refine Nat.le_trans ?_ (size_drew _) | (simp; done) | (simp; omega) | omega)
theorem beside_any (k n : Int) (s : ByteArray) (b : Bool) (c kd : Int) (w : World) (hr : rightB k n s b c = true) :
    Calls Tryd.prog 42 #[.agg #[.int .i64 k, .int .i64 n, .string s, .bool b, .int .i64 c], .int .i64 kd] w fun e w' => e = .returned (.agg #[.int .i64 (besK k kd), .int .i64 n, .string s, .bool b, .int .i64 c]) ∧ Below w.heap.size w w' := by
  by_cases h : k = 0
  · subst h
    obtain ⟨rfl, rfl, rfl, rfl⟩ := right_zero hr
    rw [show besK 0 kd = kd by simp [besK]]
    exact beside_blank kd w
  · rw [show besK k kd = k by simp [besK, h]]
    exact beside_other k n s b c kd w (by simpa using h)
set_option maxHeartbeats 400000 in
theorem as_blank (kd : Int) (w : World) :
    Calls Tryd.prog 43 #[.agg #[.int .i64 0, .int .i64 0, .string ⟨#[]⟩, .bool false, .int .i64 0], .int .i64 kd] w fun e w' => e = .returned (.agg #[.int .i64 kd, .int .i64 0, .string ⟨#[]⟩, .bool false, .int .i64 0]) ∧ Below w.heap.size w w' := by
  go_enter Tryd.func43, Tryd.ntmps43
  go_wp2
  refine bodyPost_ret (v := .agg #[.int .i64 kd, .int .i64 0, .string ⟨#[]⟩, .bool false, .int .i64 0]) (by simp [results, Tryd.results43, go_sem]) rfl ⟨rfl, ?_⟩
  repeat' (first | with_reducible exact Below.refl _ _ | with_reducible refine Below.setCell ?_ ?_ _ | with_reducible refine Below.alloc ?_ ?_ _ | with_reducible refine below_drewN ?_ _ | with_reducible refine Below.drew ?_ | with_reducible refine Below.trans ?_ (Below.mono (by assumption) ?_) | with_reducible exact Nat.le_refl _ | with_reducible refine Nat.le_trans ?_ (Below.size (by assumption)) | with_reducible refine Nat.le_trans ?_ (size_alloc _ _) | with_reducible refine Nat.le_trans ?_ (size_set _ _ _) | with_reducible refine Nat.le_trans ?_ (size_drewN _ _) | with_reducible refine Nat.le_trans ?_ (size_drew _) | (simp; done) | (simp; omega) | omega)
set_option maxHeartbeats 400000 in
theorem as_other (k n : Int) (s : ByteArray) (b : Bool) (c kd : Int) (w : World) (hk : (k == 0) = false) :
    Calls Tryd.prog 43 #[.agg #[.int .i64 k, .int .i64 n, .string s, .bool b, .int .i64 c], .int .i64 kd] w fun e w' => e = .returned (.agg #[.int .i64 k, .int .i64 n, .string s, .bool b, .int .i64 c]) ∧ Below w.heap.size w w' := by
  go_enter Tryd.func43, Tryd.ntmps43
  go_wp2
  refine bodyPost_ret (v := .agg #[.int .i64 k, .int .i64 n, .string s, .bool b, .int .i64 c]) (by simp [results, Tryd.results43, go_sem]) rfl ⟨rfl, ?_⟩
  repeat' (first | with_reducible exact Below.refl _ _ | with_reducible refine Below.setCell ?_ ?_ _ | with_reducible refine Below.alloc ?_ ?_ _ | with_reducible refine below_drewN ?_ _ | with_reducible refine Below.drew ?_ | with_reducible refine Below.trans ?_ (Below.mono (by assumption) ?_) | with_reducible exact Nat.le_refl _ | with_reducible refine Nat.le_trans ?_ (Below.size (by assumption)) | with_reducible refine Nat.le_trans ?_ (size_alloc _ _) | with_reducible refine Nat.le_trans ?_ (size_set _ _ _) | with_reducible refine Nat.le_trans ?_ (size_drewN _ _) | with_reducible refine Nat.le_trans ?_ (size_drew _) | (simp; done) | (simp; omega) | omega)
theorem as_any (k n : Int) (s : ByteArray) (b : Bool) (c kd : Int) (w : World) (hr : rightB k n s b c = true) :
    Calls Tryd.prog 43 #[.agg #[.int .i64 k, .int .i64 n, .string s, .bool b, .int .i64 c], .int .i64 kd] w fun e w' => e = .returned (.agg #[.int .i64 (besK k kd), .int .i64 n, .string s, .bool b, .int .i64 c]) ∧ Below w.heap.size w w' := by
  by_cases h : k = 0
  · subst h
    obtain ⟨rfl, rfl, rfl, rfl⟩ := right_zero hr
    rw [show besK 0 kd = kd by simp [besK]]
    exact as_blank kd w
  · rw [show besK k kd = k by simp [besK, h]]
    exact as_other k n s b c kd w (by simpa using h)
set_option maxHeartbeats 1000000 in
theorem folded_any (k n : Int) (s : ByteArray) (b : Bool) (c : Int) (w : World) :
    Calls Tryd.prog 46 #[.agg #[.int .i64 k, .int .i64 n, .string s, .bool b, .int .i64 c]] w fun e w' => e = .returned (.agg #[.int .i64 k, .int .i64 n, .string ⟨(foldL s.data.toList).toArray⟩, .bool b, .int .i64 c]) ∧ Below w.heap.size w w' := by
  have HF : Hid (∀ W : World, Calls Tryd.prog 26 #[.string s] W fun e w' => e = .returned (.string ⟨(foldL s.data.toList).toArray⟩) ∧ Below W.heap.size W w') := fun W => fold_any s W
  generalize (⟨(foldL s.data.toList).toArray⟩ : ByteArray) = T at *
  go_enter Tryd.func46, Tryd.ntmps46
  go_wp2_with fail
  refine (HF.out _).mono ?_
  rintro e w1 ⟨rfl, hb1⟩
  have hB : Below w.heap.size w w1 := by
    repeat' (first | with_reducible exact Below.refl _ _ | with_reducible refine Below.setCell ?_ ?_ _ | with_reducible refine Below.alloc ?_ ?_ _ | with_reducible refine below_drewN ?_ _ | with_reducible refine Below.drew ?_ | with_reducible refine Below.trans ?_ (Below.mono (by assumption) ?_) | with_reducible exact Nat.le_refl _ | with_reducible refine Nat.le_trans ?_ (Below.size (by assumption)) | with_reducible refine Nat.le_trans ?_ (size_alloc _ _) | with_reducible refine Nat.le_trans ?_ (size_set _ _ _) | with_reducible refine Nat.le_trans ?_ (size_drewN _ _) | with_reducible refine Nat.le_trans ?_ (size_drew _) | (simp; done) | (simp; omega) | omega)
  obtain ⟨⟨la, a0, a1, a2, a3, a4⟩, f0, f1, f2, f3, f4⟩ := ((HasV.at w w.heap.size k n s b c 25 rfl).alloc (.cells #[.int .i64 0, .int .i64 0, .string ⟨#[]⟩, .bool false, .int .i64 0] 25)).below hb1
  obtain ⟨⟨lb, b0, b1, b2, b3, b4⟩, g0, g1, g2, g3, g4⟩ := (HasV.at (w.alloc (.cells #[.int .i64 k, .int .i64 n, .string s, .bool b, .int .i64 c] 25)) (w.heap.size + 1) 0 0 ⟨#[]⟩ false 0 25 (by simp)).below hb1
  clear hb1
  go_wp2
  refine bodyPost_ret (v := .agg #[.int .i64 k, .int .i64 n, .string T, .bool b, .int .i64 c]) (by simp [results, Tryd.results46, go_sem, *]) rfl ⟨rfl, ?_⟩
  repeat' (first | with_reducible exact Below.refl _ _ | with_reducible refine Below.setCell ?_ ?_ _ | with_reducible refine Below.alloc ?_ ?_ _ | with_reducible refine below_drewN ?_ _ | with_reducible refine Below.drew ?_ | with_reducible refine Below.trans ?_ (Below.mono (by assumption) ?_) | with_reducible exact Nat.le_refl _ | with_reducible refine Nat.le_trans ?_ (Below.size (by assumption)) | with_reducible refine Nat.le_trans ?_ (size_alloc _ _) | with_reducible refine Nat.le_trans ?_ (size_set _ _ _) | with_reducible refine Nat.le_trans ?_ (size_drewN _ _) | with_reducible refine Nat.le_trans ?_ (size_drew _) | (simp; done) | (simp; omega) | omega)
end Go.Proofs.YtaokibkeoomfjaaDoor
