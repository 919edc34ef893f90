/-
  Out of Val1, Val2, FoldMath, ValMath, what is asked for (laid by pack9.py).
-/
import Derived.Test.YtnhaapcpklfkpaaGreatDoorVDiv
import Derived.Test.YtnhaapcpklfkpaaGreatDoorVNum
import Derived.Test.YtnhaapcpklfkpaaGreatDoorVRm
import Derived.BigCall
import Derived.BigGuard
import Derived.BigQuiet
import Derived.Deep.QuietTactic
import Derived.Deep.RegionWith
import Derived.Laws.EntriesVeiled
import Derived.Laws.IdiomStrings
import Derived.Lib.AppendIntMem
import Derived.Lib.IndexMore
import Derived.Lib.ItoaMem
import Derived.Lib.OthersKept
import Derived.Lib.SmallJoins
import Derived.Lib.Walk
import Derived.WalkKit
import Derived.WalkLawsBesides
import Derived.WalkSpells
import Derived.WideShapes
namespace Go.Proofs.YtnhaapcpklfkpaaGreatDoor
section
open Go.RowKit
/-- Is a value right? -/
def rightB (k n : Int) (s : ByteArray) (b : Bool) (c : Int) : Bool :=
  if k = 0 then decide (n = 0) && decide (s = ⟨#[]⟩) && !b && decide (c = 0)
  else if k = 1 then fitsB n && decide (s = ⟨#[]⟩) && !b && decide (c = 0)
  else if k = 2 then decide (n = 0) && decide (s.size ≤ 255) && !b && decide (c = 0)
  else if k = 3 then decide (n = 0) && decide (s = ⟨#[]⟩) && decide (c = 0)
  else if k = 4 then decide (n = 0) && decide (s = ⟨#[]⟩) && !b && decide (1 ≤ c) && decide (c ≤ 7)
  else false
/-- A value lies in a block. -/
def AtV (w : World) (p : Nat) (k n : Int) (s : ByteArray) (b : Bool) (c : Int) : Prop :=
  p < w.heap.size ∧ w.cell? ⟨p, 0, none⟩ = some (.int .i64 k) ∧ w.cell? ⟨p, 1, none⟩ = some (.int .i64 n) ∧ w.cell? ⟨p, 2, none⟩ = some (.string s) ∧ w.cell? ⟨p, 3, none⟩ = some (.bool b) ∧ w.cell? ⟨p, 4, none⟩ = some (.int .i64 c)
theorem AtV.alloc {w : World} {p : Nat} {k n : Int} {s : ByteArray} {b : Bool} {c : Int} (h : AtV w p k n s b c) (o : Obj) : AtV (w.alloc o) p k n s b c := by
  obtain ⟨l, h0, h1, h2, h3, h4⟩ := h
  exact ⟨by simp; omega, by rw [World.cell?_alloc_past _ _ _ l]; exact h0, by rw [World.cell?_alloc_past _ _ _ l]; exact h1, by rw [World.cell?_alloc_past _ _ _ l]; exact h2, by rw [World.cell?_alloc_past _ _ _ l]; exact h3, by rw [World.cell?_alloc_past _ _ _ l]; exact h4⟩
theorem AtV.below {w w' : World} {p : Nat} {k n : Int} {s : ByteArray} {b : Bool} {c : Int} (h : AtV w p k n s b c) (q : Below w.heap.size w w') : AtV w' p k n s b c := by
  obtain ⟨l, h0, h1, h2, h3, h4⟩ := h
  exact ⟨Nat.lt_of_lt_of_le l q.size, by rw [q.cell (p := ⟨p, 0, none⟩) l]; exact h0, by rw [q.cell (p := ⟨p, 1, none⟩) l]; exact h1, by rw [q.cell (p := ⟨p, 2, none⟩) l]; exact h2, by rw [q.cell (p := ⟨p, 3, none⟩) l]; exact h3, by rw [q.cell (p := ⟨p, 4, none⟩) l]; exact h4⟩
theorem AtV.drew {w : World} {p : Nat} {k n : Int} {s : ByteArray} {b : Bool} {c : Int} (h : AtV w p k n s b c) : AtV w.drew p k n s b c := h
set_option maxHeartbeats 400000 in
theorem number_any (n : Int) (w : World) :
    Calls Tryz.prog 49 #[.int .i64 n] w fun e w' => e = .returned (.agg #[.int .i64 1, .int .i64 n, .string ⟨#[]⟩, .bool false, .int .i64 0]) ∧ Below w.heap.size w w' := by
  go_enter Tryz.func49, Tryz.ntmps49
  go_wp2
  refine bodyPost_ret (v := .agg #[.int .i64 1, .int .i64 n, .string ⟨#[]⟩, .bool false, .int .i64 0]) (by simp [results, Tryz.results49, go_sem]) rfl ⟨rfl, ?_⟩
  repeat' (first | with_reducible exact Below.refl _ _ | with_reducible refine Below.setCell ?_ ?_ _ | with_reducible refine Below.alloc ?_ ?_ _ | with_reducible refine below_drewN ?_ _ | with_reducible refine Below.drew ?_ | with_reducible refine Below.trans ?_ (Below.mono (by assumption) ?_) | with_reducible exact Nat.le_refl _ | with_reducible refine Nat.le_trans ?_ (Below.size (by assumption)) | with_reducible refine Nat.le_trans ?_ (size_alloc _ _) | with_reducible refine Nat.le_trans ?_ (size_set _ _ _) | with_reducible refine Nat.le_trans ?_ (size_drewN _ _) | with_reducible refine Nat.le_trans ?_ (size_drew _) | (simp; done) | (simp; omega) | omega)
set_option maxHeartbeats 400000 in
theorem text_any (s : ByteArray) (w : World) :
    Calls Tryz.prog 51 #[.string s] w fun e w' => e = .returned (.agg #[.int .i64 2, .int .i64 0, .string s, .bool false, .int .i64 0]) ∧ Below w.heap.size w w' := by
  go_enter Tryz.func51, Tryz.ntmps51
  go_wp2
  refine bodyPost_ret (v := .agg #[.int .i64 2, .int .i64 0, .string s, .bool false, .int .i64 0]) (by simp [results, Tryz.results51, go_sem]) rfl ⟨rfl, ?_⟩
  repeat' (first | with_reducible exact Below.refl _ _ | with_reducible refine Below.setCell ?_ ?_ _ | with_reducible refine Below.alloc ?_ ?_ _ | with_reducible refine below_drewN ?_ _ | with_reducible refine Below.drew ?_ | with_reducible refine Below.trans ?_ (Below.mono (by assumption) ?_) | with_reducible exact Nat.le_refl _ | with_reducible refine Nat.le_trans ?_ (Below.size (by assumption)) | with_reducible refine Nat.le_trans ?_ (size_alloc _ _) | with_reducible refine Nat.le_trans ?_ (size_set _ _ _) | with_reducible refine Nat.le_trans ?_ (size_drewN _ _) | with_reducible refine Nat.le_trans ?_ (size_drew _) | (simp; done) | (simp; omega) | omega)
set_option maxHeartbeats 400000 in
theorem truth_any (b : Bool) (w : World) :
    Calls Tryz.prog 52 #[.bool b] w fun e w' => e = .returned (.agg #[.int .i64 3, .int .i64 0, .string ⟨#[]⟩, .bool b, .int .i64 0]) ∧ Below w.heap.size w w' := by
  go_enter Tryz.func52, Tryz.ntmps52
  go_wp2
  refine bodyPost_ret (v := .agg #[.int .i64 3, .int .i64 0, .string ⟨#[]⟩, .bool b, .int .i64 0]) (by simp [results, Tryz.results52, go_sem]) rfl ⟨rfl, ?_⟩
  repeat' (first | with_reducible exact Below.refl _ _ | with_reducible refine Below.setCell ?_ ?_ _ | with_reducible refine Below.alloc ?_ ?_ _ | with_reducible refine below_drewN ?_ _ | with_reducible refine Below.drew ?_ | with_reducible refine Below.trans ?_ (Below.mono (by assumption) ?_) | with_reducible exact Nat.le_refl _ | with_reducible refine Nat.le_trans ?_ (Below.size (by assumption)) | with_reducible refine Nat.le_trans ?_ (size_alloc _ _) | with_reducible refine Nat.le_trans ?_ (size_set _ _ _) | with_reducible refine Nat.le_trans ?_ (size_drewN _ _) | with_reducible refine Nat.le_trans ?_ (size_drew _) | (simp; done) | (simp; omega) | omega)
set_option maxHeartbeats 400000 in
theorem fault_any (c : Int) (w : World) :
    Calls Tryz.prog 53 #[.int .i64 c] w fun e w' => e = .returned (.agg #[.int .i64 4, .int .i64 0, .string ⟨#[]⟩, .bool false, .int .i64 c]) ∧ Below w.heap.size w w' := by
  go_enter Tryz.func53, Tryz.ntmps53
  go_wp2
  refine bodyPost_ret (v := .agg #[.int .i64 4, .int .i64 0, .string ⟨#[]⟩, .bool false, .int .i64 c]) (by simp [results, Tryz.results53, go_sem]) rfl ⟨rfl, ?_⟩
  repeat' (first | with_reducible exact Below.refl _ _ | with_reducible refine Below.setCell ?_ ?_ _ | with_reducible refine Below.alloc ?_ ?_ _ | with_reducible refine below_drewN ?_ _ | with_reducible refine Below.drew ?_ | with_reducible refine Below.trans ?_ (Below.mono (by assumption) ?_) | with_reducible exact Nat.le_refl _ | with_reducible refine Nat.le_trans ?_ (Below.size (by assumption)) | with_reducible refine Nat.le_trans ?_ (size_alloc _ _) | with_reducible refine Nat.le_trans ?_ (size_set _ _ _) | with_reducible refine Nat.le_trans ?_ (size_drewN _ _) | with_reducible refine Nat.le_trans ?_ (size_drew _) | (simp; done) | (simp; omega) | omega)
end
section
open Go.RowKit
theorem empty_or (s : ByteArray) : s = ⟨#[]⟩ ∨ (s ≠ ⟨#[]⟩ ∧ (s.toList == []) = false) := by
  by_cases h : s = ⟨#[]⟩
  · exact .inl h
  · refine .inr ⟨h, ?_⟩
    rw [ByteArray.toList_eq]
    obtain ⟨⟨l⟩⟩ := s
    cases l with
    | nil => exact absurd rfl h
    | cons a l => rfl
theorem zero_or (n : Int) : n = 0 ∨ (n ≠ 0 ∧ (n == 0) = false) := by
  by_cases h : n = 0
  · exact .inl h
  · exact .inr ⟨h, by simpa using h⟩
theorem bad_nsbc (n : Int) (s : ByteArray) (b : Bool) (c : Int) : (n = 0 ∧ s = ⟨#[]⟩ ∧ b = false ∧ c = 0) ∨ (n ≠ 0 ∧ (n == 0) = false) ∨ (n = 0 ∧ s ≠ ⟨#[]⟩ ∧ (s.toList == []) = false) ∨ (n = 0 ∧ s = ⟨#[]⟩ ∧ b = true) ∨ (n = 0 ∧ s = ⟨#[]⟩ ∧ b = false ∧ c ≠ 0 ∧ (c == 0) = false) := by
  rcases zero_or n with h | h <;> rcases empty_or s with i | i <;> rcases zero_or c with j | j <;> cases b <;> simp_all
theorem bad_sbc (s : ByteArray) (b : Bool) (c : Int) : (s = ⟨#[]⟩ ∧ b = false ∧ c = 0) ∨ (s ≠ ⟨#[]⟩ ∧ (s.toList == []) = false) ∨ (s = ⟨#[]⟩ ∧ b = true) ∨ (s = ⟨#[]⟩ ∧ b = false ∧ c ≠ 0 ∧ (c == 0) = false) := by
  rcases empty_or s with i | i <;> rcases zero_or c with j | j <;> cases b <;> simp_all
theorem bad_nbc (n : Int) (b : Bool) (c : Int) : (n = 0 ∧ b = false ∧ c = 0) ∨ (n ≠ 0 ∧ (n == 0) = false) ∨ (n = 0 ∧ b = true) ∨ (n = 0 ∧ b = false ∧ c ≠ 0 ∧ (c == 0) = false) := by
  rcases zero_or n with h | h <;> rcases zero_or c with j | j <;> cases b <;> simp_all
theorem bad_nsc (n : Int) (s : ByteArray) (c : Int) : (n = 0 ∧ s = ⟨#[]⟩ ∧ c = 0) ∨ (n ≠ 0 ∧ (n == 0) = false) ∨ (n = 0 ∧ s ≠ ⟨#[]⟩ ∧ (s.toList == []) = false) ∨ (n = 0 ∧ s = ⟨#[]⟩ ∧ c ≠ 0 ∧ (c == 0) = false) := by
  rcases zero_or n with h | h <;> rcases empty_or s with i | i <;> rcases zero_or c with j | j <;> simp_all
theorem bad_nsb (n : Int) (s : ByteArray) (b : Bool) : (n = 0 ∧ s = ⟨#[]⟩ ∧ b = false) ∨ (n ≠ 0 ∧ (n == 0) = false) ∨ (n = 0 ∧ s ≠ ⟨#[]⟩ ∧ (s.toList == []) = false) ∨ (n = 0 ∧ s = ⟨#[]⟩ ∧ b = true) := by
  rcases zero_or n with h | h <;> rcases empty_or s with i | i <;> cases b <;> simp_all
theorem kind_or (k : Int) : k = 0 ∨ k = 1 ∨ k = 2 ∨ k = 3 ∨ k = 4 ∨ ((k == 0) = false ∧ (k == 1) = false ∧ (k == 2) = false ∧ (k == 3) = false ∧ (k == 4) = false) := by
  by_cases h0 : k = 0 <;> by_cases h1 : k = 1 <;> by_cases h2 : k = 2 <;> by_cases h3 : k = 3 <;> by_cases h4 : k = 4 <;> simp_all
theorem right_none {k n : Int} {s : ByteArray} {b : Bool} {c : Int} (h : (k == 0) = false ∧ (k == 1) = false ∧ (k == 2) = false ∧ (k == 3) = false ∧ (k == 4) = false) : rightB k n s b c = false := by
  simp at h
  simp [rightB, h]
set_option maxHeartbeats 1000000 in
theorem rright_0 (n : Int) (s : ByteArray) (b : Bool) (c : Int) (w : World) :
    Calls Tryz.prog 12 #[.agg #[.int .i64 0, .int .i64 n, .string s, .bool b, .int .i64 c]] w fun e w' => e = .returned (.bool (rightB 0 n s b c)) ∧ Below w.heap.size w w' := by
  rcases bad_nsbc n s b c with ⟨rfl, rfl, rfl, rfl⟩ | ⟨hn, hn2⟩ | ⟨rfl, hs, hs2⟩ | ⟨rfl, rfl, rfl⟩ | ⟨rfl, rfl, rfl, hc, hc2⟩
  all_goals
    go_enter Tryz.func12, Tryz.ntmps12
    go_wp2
    go_ret
    refine ⟨by simp [rightB, *], ?_⟩
    repeat' (first | with_reducible exact Below.refl _ _ | with_reducible refine Below.setCell ?_ ?_ _ | with_reducible refine Below.alloc ?_ ?_ _ | with_reducible refine below_drewN ?_ _ | with_reducible refine Below.drew ?_ | with_reducible refine Below.trans ?_ (Below.mono (by assumption) ?_) | with_reducible exact Nat.le_refl _ | with_reducible refine Nat.le_trans ?_ (Below.size (by assumption)) | with_reducible refine Nat.le_trans ?_ (size_alloc _ _) | with_reducible refine Nat.le_trans ?_ (size_set _ _ _) | with_reducible refine Nat.le_trans ?_ (size_drewN _ _) | with_reducible refine Nat.le_trans ?_ (size_drew _) | (simp; done) | (simp; omega) | omega)
set_option maxHeartbeats 1000000 in
theorem rright_1 (n : Int) (s : ByteArray) (b : Bool) (c : Int) (w : World) :
    Calls Tryz.prog 12 #[.agg #[.int .i64 1, .int .i64 n, .string s, .bool b, .int .i64 c]] w fun e w' => e = .returned (.bool (rightB 1 n s b c)) ∧ Below w.heap.size w w' := by
  cases hf : fitsB n
  · go_enter Tryz.func12, Tryz.ntmps12
    go_wp2_with (go_at_call 37; refine (rfits_any _ _).mono ?_; rintro e w1 ⟨rfl, rfl⟩)
    go_ret
    refine ⟨by simp [rightB, *], ?_⟩
    repeat' (first | with_reducible exact Below.refl _ _ | with_reducible refine Below.setCell ?_ ?_ _ | with_reducible refine Below.alloc ?_ ?_ _ | with_reducible refine below_drewN ?_ _ | with_reducible refine Below.drew ?_ | with_reducible refine Below.trans ?_ (Below.mono (by assumption) ?_) | with_reducible exact Nat.le_refl _ | with_reducible refine Nat.le_trans ?_ (Below.size (by assumption)) | with_reducible refine Nat.le_trans ?_ (size_alloc _ _) | with_reducible refine Nat.le_trans ?_ (size_set _ _ _) | with_reducible refine Nat.le_trans ?_ (size_drewN _ _) | with_reducible refine Nat.le_trans ?_ (size_drew _) | (simp; done) | (simp; omega) | omega)
  · rcases bad_sbc s b c with ⟨rfl, rfl, rfl⟩ | ⟨hs, hs2⟩ | ⟨rfl, rfl⟩ | ⟨rfl, rfl, hc, hc2⟩
    all_goals
      go_enter Tryz.func12, Tryz.ntmps12
      go_wp2_with (go_at_call 37; refine (rfits_any _ _).mono ?_; rintro e w1 ⟨rfl, rfl⟩)
      go_ret
      refine ⟨by simp [rightB, *], ?_⟩
      repeat' (first | with_reducible exact Below.refl _ _ | with_reducible refine Below.setCell ?_ ?_ _ | with_reducible refine Below.alloc ?_ ?_ _ | with_reducible refine below_drewN ?_ _ | with_reducible refine Below.drew ?_ | with_reducible refine Below.trans ?_ (Below.mono (by assumption) ?_) | with_reducible exact Nat.le_refl _ | with_reducible refine Nat.le_trans ?_ (Below.size (by assumption)) | with_reducible refine Nat.le_trans ?_ (size_alloc _ _) | with_reducible refine Nat.le_trans ?_ (size_set _ _ _) | with_reducible refine Nat.le_trans ?_ (size_drewN _ _) | with_reducible refine Nat.le_trans ?_ (size_drew _) | (simp; done) | (simp; omega) | omega)
set_option maxHeartbeats 1000000 in
theorem rright_2 (n : Int) (s : ByteArray) (b : Bool) (c : Int) (w : World) (hz : s.size ≤ maxLen) :
    Calls Tryz.prog 12 #[.agg #[.int .i64 2, .int .i64 n, .string s, .bool b, .int .i64 c]] w fun e w' => e = .returned (.bool (rightB 2 n s b c)) ∧ Below w.heap.size w w' := by
  unfold maxLen at hz
  by_cases hl : (s.size : Int) ≤ 255
  · have hl2 : s.size ≤ 255 := by omega
    rcases bad_nbc n b c with ⟨rfl, rfl, rfl⟩ | ⟨hn, hn2⟩ | ⟨rfl, rfl⟩ | ⟨rfl, rfl, hc, hc2⟩
    all_goals
      go_enter Tryz.func12, Tryz.ntmps12
      go_wp2
      go_ret
      refine ⟨by simp [rightB, *], ?_⟩
      repeat' (first | with_reducible exact Below.refl _ _ | with_reducible refine Below.setCell ?_ ?_ _ | with_reducible refine Below.alloc ?_ ?_ _ | with_reducible refine below_drewN ?_ _ | with_reducible refine Below.drew ?_ | with_reducible refine Below.trans ?_ (Below.mono (by assumption) ?_) | with_reducible exact Nat.le_refl _ | with_reducible refine Nat.le_trans ?_ (Below.size (by assumption)) | with_reducible refine Nat.le_trans ?_ (size_alloc _ _) | with_reducible refine Nat.le_trans ?_ (size_set _ _ _) | with_reducible refine Nat.le_trans ?_ (size_drewN _ _) | with_reducible refine Nat.le_trans ?_ (size_drew _) | (simp; done) | (simp; omega) | omega)
  · have hl2 : ¬ s.size ≤ 255 := by omega
    go_enter Tryz.func12, Tryz.ntmps12
    go_wp2
    go_ret
    refine ⟨by simp [rightB, *], ?_⟩
    repeat' (first | with_reducible exact Below.refl _ _ | with_reducible refine Below.setCell ?_ ?_ _ | with_reducible refine Below.alloc ?_ ?_ _ | with_reducible refine below_drewN ?_ _ | with_reducible refine Below.drew ?_ | with_reducible refine Below.trans ?_ (Below.mono (by assumption) ?_) | with_reducible exact Nat.le_refl _ | with_reducible refine Nat.le_trans ?_ (Below.size (by assumption)) | with_reducible refine Nat.le_trans ?_ (size_alloc _ _) | with_reducible refine Nat.le_trans ?_ (size_set _ _ _) | with_reducible refine Nat.le_trans ?_ (size_drewN _ _) | with_reducible refine Nat.le_trans ?_ (size_drew _) | (simp; done) | (simp; omega) | omega)
set_option maxHeartbeats 1000000 in
theorem rright_3 (n : Int) (s : ByteArray) (b : Bool) (c : Int) (w : World) :
    Calls Tryz.prog 12 #[.agg #[.int .i64 3, .int .i64 n, .string s, .bool b, .int .i64 c]] w fun e w' => e = .returned (.bool (rightB 3 n s b c)) ∧ Below w.heap.size w w' := by
  rcases bad_nsc n s c with ⟨rfl, rfl, rfl⟩ | ⟨hn, hn2⟩ | ⟨rfl, hs, hs2⟩ | ⟨rfl, rfl, hc, hc2⟩
  all_goals
    go_enter Tryz.func12, Tryz.ntmps12
    go_wp2
    go_ret
    refine ⟨by simp [rightB, *], ?_⟩
    repeat' (first | with_reducible exact Below.refl _ _ | with_reducible refine Below.setCell ?_ ?_ _ | with_reducible refine Below.alloc ?_ ?_ _ | with_reducible refine below_drewN ?_ _ | with_reducible refine Below.drew ?_ | with_reducible refine Below.trans ?_ (Below.mono (by assumption) ?_) | with_reducible exact Nat.le_refl _ | with_reducible refine Nat.le_trans ?_ (Below.size (by assumption)) | with_reducible refine Nat.le_trans ?_ (size_alloc _ _) | with_reducible refine Nat.le_trans ?_ (size_set _ _ _) | with_reducible refine Nat.le_trans ?_ (size_drewN _ _) | with_reducible refine Nat.le_trans ?_ (size_drew _) | (simp; done) | (simp; omega) | omega)
set_option maxHeartbeats 1000000 in
theorem rright_4 (n : Int) (s : ByteArray) (b : Bool) (c : Int) (w : World) :
    Calls Tryz.prog 12 #[.agg #[.int .i64 4, .int .i64 n, .string s, .bool b, .int .i64 c]] w fun e w' => e = .returned (.bool (rightB 4 n s b c)) ∧ Below w.heap.size w w' := by
  by_cases h1 : 1 ≤ c
  · by_cases h7 : c ≤ 7
    · have hc0 : c ≠ 0 := by omega
      rcases bad_nsb n s b with ⟨rfl, rfl, rfl⟩ | ⟨hn, hn2⟩ | ⟨rfl, hs, hs2⟩ | ⟨rfl, rfl, rfl⟩
      all_goals
        go_enter Tryz.func12, Tryz.ntmps12
        go_wp2
        go_ret
        refine ⟨by simp [rightB, *], ?_⟩
        repeat' (first | with_reducible exact Below.refl _ _ | with_reducible refine Below.setCell ?_ ?_ _ | with_reducible refine Below.alloc ?_ ?_ _ | with_reducible refine below_drewN ?_ _ | with_reducible refine Below.drew ?_ | with_reducible refine Below.trans ?_ (Below.mono (by assumption) ?_) | with_reducible exact Nat.le_refl _ | with_reducible refine Nat.le_trans ?_ (Below.size (by assumption)) | with_reducible refine Nat.le_trans ?_ (size_alloc _ _) | with_reducible refine Nat.le_trans ?_ (size_set _ _ _) | with_reducible refine Nat.le_trans ?_ (size_drewN _ _) | with_reducible refine Nat.le_trans ?_ (size_drew _) | (simp; done) | (simp; omega) | omega)
    · go_enter Tryz.func12, Tryz.ntmps12
      go_wp2
      go_ret
      refine ⟨by simp [rightB, *], ?_⟩
      repeat' (first | with_reducible exact Below.refl _ _ | with_reducible refine Below.setCell ?_ ?_ _ | with_reducible refine Below.alloc ?_ ?_ _ | with_reducible refine below_drewN ?_ _ | with_reducible refine Below.drew ?_ | with_reducible refine Below.trans ?_ (Below.mono (by assumption) ?_) | with_reducible exact Nat.le_refl _ | with_reducible refine Nat.le_trans ?_ (Below.size (by assumption)) | with_reducible refine Nat.le_trans ?_ (size_alloc _ _) | with_reducible refine Nat.le_trans ?_ (size_set _ _ _) | with_reducible refine Nat.le_trans ?_ (size_drewN _ _) | with_reducible refine Nat.le_trans ?_ (size_drew _) | (simp; done) | (simp; omega) | omega)
  · go_enter Tryz.func12, Tryz.ntmps12
    go_wp2
    go_ret
    refine ⟨by simp [rightB, *] <;> omega, ?_⟩
    repeat' (first | with_reducible exact Below.refl _ _ | with_reducible refine Below.setCell ?_ ?_ _ | with_reducible refine Below.alloc ?_ ?_ _ | with_reducible refine below_drewN ?_ _ | with_reducible refine Below.drew ?_ | with_reducible refine Below.trans ?_ (Below.mono (by assumption) ?_) | with_reducible exact Nat.le_refl _ | with_reducible refine Nat.le_trans ?_ (Below.size (by assumption)) | with_reducible refine Nat.le_trans ?_ (size_alloc _ _) | with_reducible refine Nat.le_trans ?_ (size_set _ _ _) | with_reducible refine Nat.le_trans ?_ (size_drewN _ _) | with_reducible refine Nat.le_trans ?_ (size_drew _) | (simp; done) | (simp; omega) | omega)
set_option maxHeartbeats 1000000 in
theorem rright_no (k : Int) (n : Int) (s : ByteArray) (b : Bool) (c : Int) (w : World) (h : (k == 0) = false ∧ (k == 1) = false ∧ (k == 2) = false ∧ (k == 3) = false ∧ (k == 4) = false) :
    Calls Tryz.prog 12 #[.agg #[.int .i64 k, .int .i64 n, .string s, .bool b, .int .i64 c]] w fun e w' => e = .returned (.bool (rightB k n s b c)) ∧ Below w.heap.size w w' := by
  have HE := hide (right_none (n := n) (s := s) (b := b) (c := c) h)
  obtain ⟨h0, h1, h2, h3, h4⟩ := h
  go_enter Tryz.func12, Tryz.ntmps12
  go_wp2
  go_ret
  refine ⟨by rw [HE.out]; rfl, ?_⟩
  repeat' (first | with_reducible exact Below.refl _ _ | with_reducible refine Below.setCell ?_ ?_ _ | with_reducible refine Below.alloc ?_ ?_ _ | with_reducible refine below_drewN ?_ _ | with_reducible refine Below.drew ?_ | with_reducible refine Below.trans ?_ (Below.mono (by assumption) ?_) | with_reducible exact Nat.le_refl _ | with_reducible refine Nat.le_trans ?_ (Below.size (by assumption)) | with_reducible refine Nat.le_trans ?_ (size_alloc _ _) | with_reducible refine Nat.le_trans ?_ (size_set _ _ _) | with_reducible refine Nat.le_trans ?_ (size_drewN _ _) | with_reducible refine Nat.le_trans ?_ (size_drew _) | (simp; done) | (simp; omega) | omega)
theorem rright_any (k n : Int) (s : ByteArray) (b : Bool) (c : Int) (w : World) (hz : s.size ≤ maxLen) :
    Calls Tryz.prog 12 #[.agg #[.int .i64 k, .int .i64 n, .string s, .bool b, .int .i64 c]] w fun e w' => e = .returned (.bool (rightB k n s b c)) ∧ Below w.heap.size w w' := by
  rcases kind_or k with rfl | rfl | rfl | rfl | rfl | h
  · exact rright_0 n s b c w
  · exact rright_1 n s b c w
  · exact rright_2 n s b c w hz
  · exact rright_3 n s b c w
  · exact rright_4 n s b c w
  · exact rright_no k n s b c w h
end
section
open Go.RowKit
/-- A row of bytes lies in a block that may be written. -/
def RowB (w : World) (p : Nat) (l : List UInt8) : Prop :=
  p < w.heap.size ∧ ∀ j (hj : j < l.length), w.cell? ⟨p, j, none⟩ = some (.int .u8 (l[j].toNat : Int)) ∧ w.frozen? ⟨p, j, none⟩ = false
theorem RowB.block {w w' : World} {p : Nat} {l : List UInt8} (h : RowB w p l) (hs : w.heap.size ≤ w'.heap.size) (hb : w'.heap[p]? = w.heap[p]?) : RowB w' p l :=
  ⟨Nat.lt_of_lt_of_le h.1 hs, fun j hj => ⟨by rw [World.cell?_of_block (w := w) (a := ⟨p, j, none⟩) hb]; exact (h.2 j hj).1, by rw [World.frozen?_of_block (w := w) (a := ⟨p, j, none⟩) hb]; exact (h.2 j hj).2⟩⟩
theorem RowB.below {w w' : World} {p : Nat} {l : List UInt8} (h : RowB w p l) (q : Below w.heap.size w w') : RowB w' p l := h.block q.size (q.block p h.1)
theorem RowB.alloc {w : World} {p : Nat} {l : List UInt8} (h : RowB w p l) (o : Obj) : RowB (w.alloc o) p l := h.block (by simp) (Below.heap_alloc w o p h.1)
theorem RowB.set {w : World} {p : Nat} {l : List UInt8} (h : RowB w p l) {k : Nat} (hk : k < l.length) (c : UInt8) : RowB (w.setCell ⟨p, k, none⟩ (.int .u8 (c.toNat : Int))) p (l.set k c) := by
  refine ⟨by simpa using h.1, fun j hj => ?_⟩
  have hj' : j < l.length := by simpa using hj
  refine ⟨?_, by rw [World.frozen?_setCell]; exact (h.2 j hj').2⟩
  rw [List.getElem_set]
  by_cases e : k = j
  · subst e
    rw [if_pos rfl, World.cell?_setCell_same _ _ _ (h.2 k hk).1]
  · rw [if_neg e, World.cell?_setCell_other (h := show (⟨p, k, none⟩ : Addr) ≠ ⟨p, j, none⟩ from fun x => e (congrArg Addr.off x))]
    exact (h.2 j hj').1
end
section
open Go.RowKit
theorem right_cases {k n : Int} {s : ByteArray} {b : Bool} {c : Int} (h : rightB k n s b c = true) :
    (k = 0 ∧ n = 0 ∧ s = ⟨#[]⟩ ∧ b = false ∧ c = 0) ∨ (k = 1 ∧ fitsB n = true ∧ s = ⟨#[]⟩ ∧ b = false ∧ c = 0) ∨ (k = 2 ∧ n = 0 ∧ s.size ≤ 255 ∧ b = false ∧ c = 0) ∨ (k = 3 ∧ n = 0 ∧ s = ⟨#[]⟩ ∧ c = 0) ∨ (k = 4 ∧ n = 0 ∧ s = ⟨#[]⟩ ∧ b = false ∧ 1 ≤ c ∧ c ≤ 7) := by
  rcases kind_or k with rfl | rfl | rfl | rfl | rfl | hk
  · left; simp [rightB] at h; exact ⟨rfl, h.1.1.1, h.1.1.2, h.1.2, h.2⟩
  · right; left; simp [rightB] at h; exact ⟨rfl, h.1.1.1, h.1.1.2, h.1.2, h.2⟩
  · right; right; left; simp [rightB] at h; exact ⟨rfl, h.1.1.1, h.1.1.2, h.1.2, h.2⟩
  · right; right; right; left; simp [rightB] at h; exact ⟨rfl, h.1.1, h.1.2, h.2⟩
  · right; right; right; right; simp [rightB] at h; exact ⟨rfl, h.1.1.1.1, h.1.1.1.2, h.1.1.2, h.1.2, h.2⟩
  · rw [right_none hk] at h; cases h
theorem ba_eta (s : ByteArray) : (⟨s.data.toList.toArray⟩ : ByteArray) = s := by cases s; rfl
/-- Why a value counts for nothing. -/
def troubleV (k n : Int) (s : ByteArray) (b : Bool) (c : Int) : Int := if rightB k n s b c then c else 2
theorem troubleV_no {k n : Int} {s : ByteArray} {b : Bool} {c : Int} (h : rightB k n s b c = false) : troubleV k n s b c = 2 := by simp [troubleV, h]
theorem troubleV_yes {k n : Int} {s : ByteArray} {b : Bool} {c : Int} (h : rightB k n s b c = true) : troubleV k n s b c = c := by simp [troubleV, h]
def wordsV (k n : Int) (s : ByteArray) (b : Bool) (c : Int) : List UInt8 × Int :=
  if rightB k n s b c = false then ([], 2) else if k = 4 then ([], c) else if k = 1 then (textOf n, 0) else if k = 3 then (if b then [84, 82, 85, 69] else [70, 65, 76, 83, 69], 0) else (s.data.toList, 0)
/-- Check. -/
def checkV (k n : Int) (s : ByteArray) (b : Bool) (c : Int) : Int := if rightB k n s b c then 0 else 2
end
end Go.Proofs.YtnhaapcpklfkpaaGreatDoor
