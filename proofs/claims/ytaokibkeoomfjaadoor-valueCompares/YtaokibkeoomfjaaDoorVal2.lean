/-
  The contracts of the answer's Right and of value's right: is a value right?
-/
import Derived.Test.YtaokibkeoomfjaaDoorVal1
namespace Go.Proofs.YtaokibkeoomfjaaDoor
open Go.RowKit

theorem empty_or (s : ByteArray) : s = ⟨#[]⟩ ∨ (s ≠ ⟨#[]⟩ ∧ (s.toList == []) = false) := by
  by_cases h : s = ⟨#[]⟩
  · exact .inl h
  · refine .inr ⟨h, ?_⟩
    rw [ByteArray.toList_eq]
    obtain ⟨⟨l⟩⟩ := s
    cases l with
    | nil => exact absurd rfl h
    | cons a l => rfl
theorem zero_or (n : Int) : n = 0 ∨ (n ≠ 0 ∧ (n == 0) = false) := by
  by_cases h : n = 0
  · exact .inl h
  · exact .inr ⟨h, by simpa using h⟩
theorem bad_nsbc (n : Int) (s : ByteArray) (b : Bool) (c : Int) : (n = 0 ∧ s = ⟨#[]⟩ ∧ b = false ∧ c = 0) ∨ (n ≠ 0 ∧ (n == 0) = false) ∨ (n = 0 ∧ s ≠ ⟨#[]⟩ ∧ (s.toList == []) = false) ∨ (n = 0 ∧ s = ⟨#[]⟩ ∧ b = true) ∨ (n = 0 ∧ s = ⟨#[]⟩ ∧ b = false ∧ c ≠ 0 ∧ (c == 0) = false) := by
  rcases zero_or n with h | h <;> rcases empty_or s with i | i <;> rcases zero_or c with j | j <;> cases b <;> simp_all
theorem bad_sbc (s : ByteArray) (b : Bool) (c : Int) : (s = ⟨#[]⟩ ∧ b = false ∧ c = 0) ∨ (s ≠ ⟨#[]⟩ ∧ (s.toList == []) = false) ∨ (s = ⟨#[]⟩ ∧ b = true) ∨ (s = ⟨#[]⟩ ∧ b = false ∧ c ≠ 0 ∧ (c == 0) = false) := by
  rcases empty_or s with i | i <;> rcases zero_or c with j | j <;> cases b <;> simp_all
theorem bad_nbc (n : Int) (b : Bool) (c : Int) : (n = 0 ∧ b = false ∧ c = 0) ∨ (n ≠ 0 ∧ (n == 0) = false) ∨ (n = 0 ∧ b = true) ∨ (n = 0 ∧ b = false ∧ c ≠ 0 ∧ (c == 0) = false) := by
  rcases zero_or n with h | h <;> rcases zero_or c with j | j <;> cases b <;> simp_all
theorem bad_nsc (n : Int) (s : ByteArray) (c : Int) : (n = 0 ∧ s = ⟨#[]⟩ ∧ c = 0) ∨ (n ≠ 0 ∧ (n == 0) = false) ∨ (n = 0 ∧ s ≠ ⟨#[]⟩ ∧ (s.toList == []) = false) ∨ (n = 0 ∧ s = ⟨#[]⟩ ∧ c ≠ 0 ∧ (c == 0) = false) := by
  rcases zero_or n with h | h <;> rcases empty_or s with i | i <;> rcases zero_or c with j | j <;> simp_all
theorem bad_nsb (n : Int) (s : ByteArray) (b : Bool) : (n = 0 ∧ s = ⟨#[]⟩ ∧ b = false) ∨ (n ≠ 0 ∧ (n == 0) = false) ∨ (n = 0 ∧ s ≠ ⟨#[]⟩ ∧ (s.toList == []) = false) ∨ (n = 0 ∧ s = ⟨#[]⟩ ∧ b = true) := by
  rcases zero_or n with h | h <;> rcases empty_or s with i | i <;> cases b <;> simp_all
theorem kind_or (k : Int) : k = 0 ∨ k = 1 ∨ k = 2 ∨ k = 3 ∨ k = 4 ∨ ((k == 0) = false ∧ (k == 1) = false ∧ (k == 2) = false ∧ (k == 3) = false ∧ (k == 4) = false) := by
  by_cases h0 : k = 0 <;> by_cases h1 : k = 1 <;> by_cases h2 : k = 2 <;> by_cases h3 : k = 3 <;> by_cases h4 : k = 4 <;> simp_all
theorem right_none {k n : Int} {s : ByteArray} {b : Bool} {c : Int} (h : (k == 0) = false ∧ (k == 1) = false ∧ (k == 2) = false ∧ (k == 3) = false ∧ (k == 4) = false) : rightB k n s b c = false := by
  simp at h
  simp [rightB, h]
set_option maxHeartbeats 1000000 in
theorem rright_0 (n : Int) (s : ByteArray) (b : Bool) (c : Int) (w : World) :
    Calls Tryd.prog 39 #[.agg #[.int .i64 0, .int .i64 n, .string s, .bool b, .int .i64 c]] w fun e w' => e = .returned (.bool (rightB 0 n s b c)) ∧ Below w.heap.size w w' := by
  rcases bad_nsbc n s b c with ⟨rfl, rfl, rfl, rfl⟩ | ⟨hn, hn2⟩ | ⟨rfl, hs, hs2⟩ | ⟨rfl, rfl, rfl⟩ | ⟨rfl, rfl, rfl, hc, hc2⟩
  all_goals
    go_enter Tryd.func39, Tryd.ntmps39
    go_wp2
    go_ret
    refine ⟨by simp [rightB, *], ?_⟩
    repeat' (first | with_reducible exact Below.refl _ _ | with_reducible refine Below.setCell ?_ ?_ _ | with_reducible refine Below.alloc ?_ ?_ _ | with_reducible refine below_drewN ?_ _ | with_reducible refine Below.drew ?_ | with_reducible refine Below.trans ?_ (Below.mono (by assumption) ?_) | with_reducible exact Nat.le_refl _ | with_reducible refine Nat.le_trans ?_ (Below.size (by assumption)) | with_reducible refine Nat.le_trans ?_ (size_alloc _ _) | with_reducible refine Nat.le_trans ?_ (size_set _ _ _) | with_reducible refine Nat.le_trans ?_ (size_drewN _ _) | with_reducible refine Nat.le_trans ?_ (size_drew _) | (simp; done) | (simp; omega) | omega)
set_option maxHeartbeats 1000000 in
theorem rright_1 (n : Int) (s : ByteArray) (b : Bool) (c : Int) (w : World) :
    Calls Tryd.prog 39 #[.agg #[.int .i64 1, .int .i64 n, .string s, .bool b, .int .i64 c]] w fun e w' => e = .returned (.bool (rightB 1 n s b c)) ∧ Below w.heap.size w w' := by
  cases hf : fitsB n
  · go_enter Tryd.func39, Tryd.ntmps39
    go_wp2_with (go_at_call 59; refine (rfits_any _ _).mono ?_; rintro e w1 ⟨rfl, rfl⟩)
    go_ret
    refine ⟨by simp [rightB, *], ?_⟩
    repeat' (first | with_reducible exact Below.refl _ _ | with_reducible refine Below.setCell ?_ ?_ _ | with_reducible refine Below.alloc ?_ ?_ _ | with_reducible refine below_drewN ?_ _ | with_reducible refine Below.drew ?_ | with_reducible refine Below.trans ?_ (Below.mono (by assumption) ?_) | with_reducible exact Nat.le_refl _ | with_reducible refine Nat.le_trans ?_ (Below.size (by assumption)) | with_reducible refine Nat.le_trans ?_ (size_alloc _ _) | with_reducible refine Nat.le_trans ?_ (size_set _ _ _) | with_reducible refine Nat.le_trans ?_ (size_drewN _ _) | with_reducible refine Nat.le_trans ?_ (size_drew _) | (simp; done) | (simp; omega) | omega)
  · rcases bad_sbc s b c with ⟨rfl, rfl, rfl⟩ | ⟨hs, hs2⟩ | ⟨rfl, rfl⟩ | ⟨rfl, rfl, hc, hc2⟩
    all_goals
      go_enter Tryd.func39, Tryd.ntmps39
      go_wp2_with (go_at_call 59; refine (rfits_any _ _).mono ?_; rintro e w1 ⟨rfl, rfl⟩)
      go_ret
      refine ⟨by simp [rightB, *], ?_⟩
      repeat' (first | with_reducible exact Below.refl _ _ | with_reducible refine Below.setCell ?_ ?_ _ | with_reducible refine Below.alloc ?_ ?_ _ | with_reducible refine below_drewN ?_ _ | with_reducible refine Below.drew ?_ | with_reducible refine Below.trans ?_ (Below.mono (by assumption) ?_) | with_reducible exact Nat.le_refl _ | with_reducible refine Nat.le_trans ?_ (Below.size (by assumption)) | with_reducible refine Nat.le_trans ?_ (size_alloc _ _) | with_reducible refine Nat.le_trans ?_ (size_set _ _ _) | with_reducible refine Nat.le_trans ?_ (size_drewN _ _) | with_reducible refine Nat.le_trans ?_ (size_drew _) | (simp; done) | (simp; omega) | omega)
set_option maxHeartbeats 1000000 in
theorem rright_2 (n : Int) (s : ByteArray) (b : Bool) (c : Int) (w : World) (hz : s.size ≤ maxLen) :
    Calls Tryd.prog 39 #[.agg #[.int .i64 2, .int .i64 n, .string s, .bool b, .int .i64 c]] w fun e w' => e = .returned (.bool (rightB 2 n s b c)) ∧ Below w.heap.size w w' := by
  unfold maxLen at hz
  by_cases hl : (s.size : Int) ≤ 255
  · have hl2 : s.size ≤ 255 := by omega
    rcases bad_nbc n b c with ⟨rfl, rfl, rfl⟩ | ⟨hn, hn2⟩ | ⟨rfl, rfl⟩ | ⟨rfl, rfl, hc, hc2⟩
    all_goals
      go_enter Tryd.func39, Tryd.ntmps39
      go_wp2
      go_ret
      refine ⟨by simp [rightB, *], ?_⟩
      repeat' (first | with_reducible exact Below.refl _ _ | with_reducible refine Below.setCell ?_ ?_ _ | with_reducible refine Below.alloc ?_ ?_ _ | with_reducible refine below_drewN ?_ _ | with_reducible refine Below.drew ?_ | with_reducible refine Below.trans ?_ (Below.mono (by assumption) ?_) | with_reducible exact Nat.le_refl _ | with_reducible refine Nat.le_trans ?_ (Below.size (by assumption)) | with_reducible refine Nat.le_trans ?_ (size_alloc _ _) | with_reducible refine Nat.le_trans ?_ (size_set _ _ _) | with_reducible refine Nat.le_trans ?_ (size_drewN _ _) | with_reducible refine Nat.le_trans ?_ (size_drew _) | (simp; done) | (simp; omega) | omega)
  · have hl2 : ¬ s.size ≤ 255 := by omega
    go_enter Tryd.func39, Tryd.ntmps39
    go_wp2
    go_ret
    refine ⟨by simp [rightB, *], ?_⟩
    repeat' (first | with_reducible exact Below.refl _ _ | with_reducible refine Below.setCell ?_ ?_ _ | with_reducible refine Below.alloc ?_ ?_ _ | with_reducible refine below_drewN ?_ _ | with_reducible refine Below.drew ?_ | with_reducible refine Below.trans ?_ (Below.mono (by assumption) ?_) | with_reducible exact Nat.le_refl _ | with_reducible refine Nat.le_trans ?_ (Below.size (by assumption)) | with_reducible refine Nat.le_trans ?_ (size_alloc _ _) | with_reducible refine Nat.le_trans ?_ (size_set _ _ _) | with_reducible refine Nat.le_trans ?_ (size_drewN _ _) | with_reducible refine Nat.le_trans ?_ (size_drew _) | (simp; done) | (simp; omega) | omega)
set_option maxHeartbeats 1000000 in
theorem rright_3 (n : Int) (s : ByteArray) (b : Bool) (c : Int) (w : World) :
    Calls Tryd.prog 39 #[.agg #[.int .i64 3, .int .i64 n, .string s, .bool b, .int .i64 c]] w fun e w' => e = .returned (.bool (rightB 3 n s b c)) ∧ Below w.heap.size w w' := by
  rcases bad_nsc n s c with ⟨rfl, rfl, rfl⟩ | ⟨hn, hn2⟩ | ⟨rfl, hs, hs2⟩ | ⟨rfl, rfl, hc, hc2⟩
  all_goals
    go_enter Tryd.func39, Tryd.ntmps39
    go_wp2
    go_ret
    refine ⟨by simp [rightB, *], ?_⟩
    repeat' (first | with_reducible exact Below.refl _ _ | with_reducible refine Below.setCell ?_ ?_ _ | with_reducible refine Below.alloc ?_ ?_ _ | with_reducible refine below_drewN ?_ _ | with_reducible refine Below.drew ?_ | with_reducible refine Below.trans ?_ (Below.mono (by assumption) ?_) | with_reducible exact Nat.le_refl _ | with_reducible refine Nat.le_trans ?_ (Below.size (by assumption)) | with_reducible refine Nat.le_trans ?_ (size_alloc _ _) | with_reducible refine Nat.le_trans ?_ (size_set _ _ _) | with_reducible refine Nat.le_trans ?_ (size_drewN _ _) | with_reducible refine Nat.le_trans ?_ (size_drew _) | (simp; done) | (simp; omega) | omega)
set_option maxHeartbeats 1000000 in
theorem rright_4 (n : Int) (s : ByteArray) (b : Bool) (c : Int) (w : World) :
    Calls Tryd.prog 39 #[.agg #[.int .i64 4, .int .i64 n, .string s, .bool b, .int .i64 c]] w fun e w' => e = .returned (.bool (rightB 4 n s b c)) ∧ Below w.heap.size w w' := by
  by_cases h1 : 1 ≤ c
  · by_cases h7 : c ≤ 7
    · have hc0 : c ≠ 0 := by omega
      rcases bad_nsb n s b with ⟨rfl, rfl, rfl⟩ | ⟨hn, hn2⟩ | ⟨rfl, hs, hs2⟩ | ⟨rfl, rfl, rfl⟩
      all_goals
        go_enter Tryd.func39, Tryd.ntmps39
        go_wp2
        go_ret
        refine ⟨by simp [rightB, *], ?_⟩
        repeat' (first | with_reducible exact Below.refl _ _ | with_reducible refine Below.setCell ?_ ?_ _ | with_reducible refine Below.alloc ?_ ?_ _ | with_reducible refine below_drewN ?_ _ | with_reducible refine Below.drew ?_ | with_reducible refine Below.trans ?_ (Below.mono (by assumption) ?_) | with_reducible exact Nat.le_refl _ | with_reducible refine Nat.le_trans ?_ (Below.size (by assumption)) | with_reducible refine Nat.le_trans ?_ (size_alloc _ _) | with_reducible refine Nat.le_trans ?_ (size_set _ _ _) | with_reducible refine Nat.le_trans ?_ (size_drewN _ _) | with_reducible refine Nat.le_trans ?_ (size_drew _) | (simp; done) | (simp; omega) | omega)
    · go_enter Tryd.func39, Tryd.ntmps39
      go_wp2
      go_ret
      refine ⟨by simp [rightB, *], ?_⟩
      repeat' (first | with_reducible exact Below.refl _ _ | with_reducible refine Below.setCell ?_ ?_ _ | with_reducible refine Below.alloc ?_ ?_ _ | with_reducible refine below_drewN ?_ _ | with_reducible refine Below.drew ?_ | with_reducible refine Below.trans ?_ (Below.mono (by assumption) ?_) | with_reducible exact Nat.le_refl _ | with_reducible refine Nat.le_trans ?_ (Below.size (by assumption)) | with_reducible refine Nat.le_trans ?_ (size_alloc _ _) | with_reducible refine Nat.le_trans ?_ (size_set _ _ _) | with_reducible refine Nat.le_trans ?_ (size_drewN _ _) | with_reducible refine Nat.le_trans ?_ (size_drew _) | (simp; done) | (simp; omega) | omega)
  · go_enter Tryd.func39, Tryd.ntmps39
    go_wp2
    go_ret
    refine ⟨by simp [rightB, *] <;> omega, ?_⟩
    repeat' (first | with_reducible exact Below.refl _ _ | with_reducible refine Below.setCell ?_ ?_ _ | with_reducible refine Below.alloc ?_ ?_ _ | with_reducible refine below_drewN ?_ _ | with_reducible refine Below.drew ?_ | with_reducible refine Below.trans ?_ (Below.mono (by assumption) ?_) | with_reducible exact Nat.le_refl _ | with_reducible refine Nat.le_trans ?_ (Below.size (by assumption)) | with_reducible refine Nat.le_trans ?_ (size_alloc _ _) | with_reducible refine Nat.le_trans ?_ (size_set _ _ _) | with_reducible refine Nat.le_trans ?_ (size_drewN _ _) | with_reducible refine Nat.le_trans ?_ (size_drew _) | (simp; done) | (simp; omega) | omega)
set_option maxHeartbeats 1000000 in
theorem rright_no (k : Int) (n : Int) (s : ByteArray) (b : Bool) (c : Int) (w : World) (h : (k == 0) = false ∧ (k == 1) = false ∧ (k == 2) = false ∧ (k == 3) = false ∧ (k == 4) = false) :
    Calls Tryd.prog 39 #[.agg #[.int .i64 k, .int .i64 n, .string s, .bool b, .int .i64 c]] w fun e w' => e = .returned (.bool (rightB k n s b c)) ∧ Below w.heap.size w w' := by
  have HE := hide (right_none (n := n) (s := s) (b := b) (c := c) h)
  obtain ⟨h0, h1, h2, h3, h4⟩ := h
  go_enter Tryd.func39, Tryd.ntmps39
  go_wp2
  go_ret
  refine ⟨by rw [HE.out]; rfl, ?_⟩
  repeat' (first | with_reducible exact Below.refl _ _ | with_reducible refine Below.setCell ?_ ?_ _ | with_reducible refine Below.alloc ?_ ?_ _ | with_reducible refine below_drewN ?_ _ | with_reducible refine Below.drew ?_ | with_reducible refine Below.trans ?_ (Below.mono (by assumption) ?_) | with_reducible exact Nat.le_refl _ | with_reducible refine Nat.le_trans ?_ (Below.size (by assumption)) | with_reducible refine Nat.le_trans ?_ (size_alloc _ _) | with_reducible refine Nat.le_trans ?_ (size_set _ _ _) | with_reducible refine Nat.le_trans ?_ (size_drewN _ _) | with_reducible refine Nat.le_trans ?_ (size_drew _) | (simp; done) | (simp; omega) | omega)
theorem rright_any (k n : Int) (s : ByteArray) (b : Bool) (c : Int) (w : World) (hz : s.size ≤ maxLen) :
    Calls Tryd.prog 39 #[.agg #[.int .i64 k, .int .i64 n, .string s, .bool b, .int .i64 c]] w fun e w' => e = .returned (.bool (rightB k n s b c)) ∧ Below w.heap.size w w' := by
  rcases kind_or k with rfl | rfl | rfl | rfl | rfl | h
  · exact rright_0 n s b c w
  · exact rright_1 n s b c w
  · exact rright_2 n s b c w hz
  · exact rright_3 n s b c w
  · exact rright_4 n s b c w
  · exact rright_no k n s b c w h
end Go.Proofs.YtaokibkeoomfjaaDoor
