/-
  The contracts of move's small functions.
-/
import Derived.Test.YtkkoeanjmldmdaaMv0
namespace Go.Proofs.Ytkkoeanjmldmdaa
open Go.RowKit

/-- An edit lies in a block of its own. -/
def At3 (w : World) (b : Nat) (x y u : Int) : Prop := b < w.heap.size ∧ w.cell? ⟨b, 0, none⟩ = some (.int .i64 x) ∧ w.cell? ⟨b, 1, none⟩ = some (.int .i64 y) ∧ w.cell? ⟨b, 2, none⟩ = some (.int .i64 u)
theorem At3.new (w : World) (x y u : Int) (t : TypeId) : At3 (w.alloc (.cells #[.int .i64 x, .int .i64 y, .int .i64 u] t)) w.heap.size x y u := ⟨by simp, by simp [go_sem], by simp [go_sem], by simp [go_sem]⟩
theorem At3.below {w w' : World} {b : Nat} {x y u : Int} (h : At3 w b x y u) (k : Below w.heap.size w w') : At3 w' b x y u :=
  ⟨Nat.lt_of_lt_of_le h.1 k.size, by rw [k.cell (p := ⟨b, 0, none⟩) h.1]; exact h.2.1, by rw [k.cell (p := ⟨b, 1, none⟩) h.1]; exact h.2.2.1, by rw [k.cell (p := ⟨b, 2, none⟩) h.1]; exact h.2.2.2⟩
theorem At3.alloc {w : World} {b : Nat} {x y u : Int} (h : At3 w b x y u) (o : Obj) : At3 (w.alloc o) b x y u := h.below ((Below.refl _ _).alloc (Nat.le_refl _) o)
/-- Two integers lie in a block that may be written. -/
def Has2 (w : World) (b : Nat) (x y : Int) : Prop := At2 w b x y ∧ w.frozen? ⟨b, 0, none⟩ = false ∧ w.frozen? ⟨b, 1, none⟩ = false
theorem Has2.new (w : World) (x y : Int) (t : TypeId) : Has2 (w.alloc (.cells #[.int .i64 x, .int .i64 y] t)) w.heap.size x y := ⟨At2.new w x y t, by simp, by simp⟩
theorem Has2.below {w w' : World} {b : Nat} {x y : Int} (h : Has2 w b x y) (k : Below w.heap.size w w') : Has2 w' b x y :=
  ⟨h.1.below k, by rw [k.frozen (p := ⟨b, 0, none⟩) h.1.1]; exact h.2.1, by rw [k.frozen (p := ⟨b, 1, none⟩) h.1.1]; exact h.2.2⟩
theorem Has2.alloc {w : World} {b : Nat} {x y : Int} (h : Has2 w b x y) (o : Obj) : Has2 (w.alloc o) b x y := h.below ((Below.refl _ _).alloc (Nat.le_refl _) o)
/-- Three integers lie in a block that may be written. -/
def Has3 (w : World) (b : Nat) (x y u : Int) : Prop := At3 w b x y u ∧ w.frozen? ⟨b, 0, none⟩ = false ∧ w.frozen? ⟨b, 1, none⟩ = false ∧ w.frozen? ⟨b, 2, none⟩ = false
theorem Has3.new (w : World) (x y u : Int) (t : TypeId) : Has3 (w.alloc (.cells #[.int .i64 x, .int .i64 y, .int .i64 u] t)) w.heap.size x y u := ⟨At3.new w x y u t, by simp, by simp, by simp⟩
theorem Has3.below {w w' : World} {b : Nat} {x y u : Int} (h : Has3 w b x y u) (k : Below w.heap.size w w') : Has3 w' b x y u :=
  ⟨h.1.below k, by rw [k.frozen (p := ⟨b, 0, none⟩) h.1.1]; exact h.2.1, by rw [k.frozen (p := ⟨b, 1, none⟩) h.1.1]; exact h.2.2.1, by rw [k.frozen (p := ⟨b, 2, none⟩) h.1.1]; exact h.2.2.2⟩
theorem Has3.alloc {w : World} {b : Nat} {x y u : Int} (h : Has3 w b x y u) (o : Obj) : Has3 (w.alloc o) b x y u := h.below ((Below.refl _ _).alloc (Nat.le_refl _) o)
/-- All lines that a kind of edit knows. -/
def wholeL (k : Int) : Int := if 1 ≤ k ∧ k ≤ 4 then topE k else 0
def wholeF (k : Int) : Int := if 1 ≤ k ∧ k ≤ 4 then 1 else 0

set_option maxHeartbeats 1000000 in
theorem inserts_any (k : Int) (w : World) :
    Calls Try.prog 41 #[.int .i64 k] w fun e w' => e = .returned (.bool (insB k)) ∧ w' = w := by
  by_cases h1 : k = 1
  · subst h1
    go_enter Try.func41, Try.ntmps41
    go_wp2
    go_ret
    exact ⟨rfl, rfl⟩
  · by_cases h3 : k = 3
    · subst h3
      go_enter Try.func41, Try.ntmps41
      go_wp2
      go_ret
      exact ⟨rfl, rfl⟩
    · have e : insB k = false := by simp [insB, h1, h3]
      have e1 : (k == 1) = false := by simpa using h1
      have e3 : (k == 3) = false := by simpa using h3
      rw [e]
      clear e h1 h3
      go_enter Try.func41, Try.ntmps41
      go_wp2
      go_ret
      exact ⟨rfl, rfl⟩
set_option maxHeartbeats 1000000 in
theorem opposite_any (k : Int) (w : World) :
    Calls Try.prog 32 #[.int .i64 k] w fun e w' => e = .returned (.int .i64 (backK k)) ∧ w' = w := by
  by_cases h1 : k = 1
  · subst h1
    go_enter Try.func32, Try.ntmps32
    go_wp2
    go_ret
    exact ⟨rfl, rfl⟩
  by_cases h2 : k = 2
  · subst h2
    go_enter Try.func32, Try.ntmps32
    go_wp2
    go_ret
    exact ⟨rfl, rfl⟩
  by_cases h3 : k = 3
  · subst h3
    go_enter Try.func32, Try.ntmps32
    go_wp2
    go_ret
    exact ⟨rfl, rfl⟩
  have e : backK k = 3 := by simp [backK, h1, h2, h3]
  have e1 : (k == 1) = false := by simpa using h1
  have e2 : (k == 2) = false := by simpa using h2
  have e3 : (k == 3) = false := by simpa using h3
  rw [e]
  clear e h1 h2 h3
  go_enter Try.func32, Try.ntmps32
  go_wp2
  go_ret
  exact ⟨rfl, rfl⟩
set_option maxHeartbeats 1000000 in
theorem whole_any (k : Int) (w : World) :
    Calls Try.prog 33 #[.int .i64 k] w fun e w' => e = .returned (.agg #[.int .i64 (wholeF k), .int .i64 (wholeL k)]) ∧ Below w.heap.size w w' := by
  by_cases h1 : k = 1
  · subst h1
    go_enter Try.func33, Try.ntmps33
    go_wp2
    refine bodyPost_ret (v := .agg #[.int .i64 1, .int .i64 1048576]) (by simp [results, Try.results33, go_sem]) rfl ⟨rfl, ?_⟩
    repeat' (first | with_reducible exact Below.refl _ _ | with_reducible refine Below.setCell ?_ ?_ _ | with_reducible refine Below.alloc ?_ ?_ _ | with_reducible refine below_drewN ?_ _ | with_reducible refine Below.drew ?_ | with_reducible refine Below.trans ?_ (Below.mono (by assumption) ?_) | with_reducible exact Nat.le_refl _ | with_reducible refine Nat.le_trans ?_ (Below.size (by assumption)) | with_reducible refine Nat.le_trans ?_ (size_alloc _ _) | with_reducible refine Nat.le_trans ?_ (size_set _ _ _) | with_reducible refine Nat.le_trans ?_ (size_drewN _ _) | with_reducible refine Nat.le_trans ?_ (size_drew _) | (simp; done) | (simp; omega) | omega)
  by_cases h2 : k = 2
  · subst h2
    go_enter Try.func33, Try.ntmps33
    go_wp2
    refine bodyPost_ret (v := .agg #[.int .i64 1, .int .i64 1048576]) (by simp [results, Try.results33, go_sem]) rfl ⟨rfl, ?_⟩
    repeat' (first | with_reducible exact Below.refl _ _ | with_reducible refine Below.setCell ?_ ?_ _ | with_reducible refine Below.alloc ?_ ?_ _ | with_reducible refine below_drewN ?_ _ | with_reducible refine Below.drew ?_ | with_reducible refine Below.trans ?_ (Below.mono (by assumption) ?_) | with_reducible exact Nat.le_refl _ | with_reducible refine Nat.le_trans ?_ (Below.size (by assumption)) | with_reducible refine Nat.le_trans ?_ (size_alloc _ _) | with_reducible refine Nat.le_trans ?_ (size_set _ _ _) | with_reducible refine Nat.le_trans ?_ (size_drewN _ _) | with_reducible refine Nat.le_trans ?_ (size_drew _) | (simp; done) | (simp; omega) | omega)
  by_cases h3 : k = 3
  · subst h3
    go_enter Try.func33, Try.ntmps33
    go_wp2
    refine bodyPost_ret (v := .agg #[.int .i64 1, .int .i64 16384]) (by simp [results, Try.results33, go_sem]) rfl ⟨rfl, ?_⟩
    repeat' (first | with_reducible exact Below.refl _ _ | with_reducible refine Below.setCell ?_ ?_ _ | with_reducible refine Below.alloc ?_ ?_ _ | with_reducible refine below_drewN ?_ _ | with_reducible refine Below.drew ?_ | with_reducible refine Below.trans ?_ (Below.mono (by assumption) ?_) | with_reducible exact Nat.le_refl _ | with_reducible refine Nat.le_trans ?_ (Below.size (by assumption)) | with_reducible refine Nat.le_trans ?_ (size_alloc _ _) | with_reducible refine Nat.le_trans ?_ (size_set _ _ _) | with_reducible refine Nat.le_trans ?_ (size_drewN _ _) | with_reducible refine Nat.le_trans ?_ (size_drew _) | (simp; done) | (simp; omega) | omega)
  by_cases h4 : k = 4
  · subst h4
    go_enter Try.func33, Try.ntmps33
    go_wp2
    refine bodyPost_ret (v := .agg #[.int .i64 1, .int .i64 16384]) (by simp [results, Try.results33, go_sem]) rfl ⟨rfl, ?_⟩
    repeat' (first | with_reducible exact Below.refl _ _ | with_reducible refine Below.setCell ?_ ?_ _ | with_reducible refine Below.alloc ?_ ?_ _ | with_reducible refine below_drewN ?_ _ | with_reducible refine Below.drew ?_ | with_reducible refine Below.trans ?_ (Below.mono (by assumption) ?_) | with_reducible exact Nat.le_refl _ | with_reducible refine Nat.le_trans ?_ (Below.size (by assumption)) | with_reducible refine Nat.le_trans ?_ (size_alloc _ _) | with_reducible refine Nat.le_trans ?_ (size_set _ _ _) | with_reducible refine Nat.le_trans ?_ (size_drewN _ _) | with_reducible refine Nat.le_trans ?_ (size_drew _) | (simp; done) | (simp; omega) | omega)
  have h : ¬ (1 ≤ k ∧ k ≤ 4) := by omega
  have e : wholeF k = 0 := by unfold wholeF; rw [if_neg h]
  have e' : wholeL k = 0 := by unfold wholeL; rw [if_neg h]
  have e1 : (k == 1) = false := by simpa using h1
  have e2 : (k == 2) = false := by simpa using h2
  have e3 : (k == 3) = false := by simpa using h3
  have e4 : (k == 4) = false := by simpa using h4
  rw [e, e']
  clear e e' h h1 h2 h3 h4
  go_enter Try.func33, Try.ntmps33
  go_wp2
  refine bodyPost_ret (v := .agg #[.int .i64 0, .int .i64 0]) (by simp [results, Try.results33, go_sem]) rfl ⟨rfl, ?_⟩
  repeat' (first | with_reducible exact Below.refl _ _ | with_reducible refine Below.setCell ?_ ?_ _ | with_reducible refine Below.alloc ?_ ?_ _ | with_reducible refine below_drewN ?_ _ | with_reducible refine Below.drew ?_ | with_reducible refine Below.trans ?_ (Below.mono (by assumption) ?_) | with_reducible exact Nat.le_refl _ | with_reducible refine Nat.le_trans ?_ (Below.size (by assumption)) | with_reducible refine Nat.le_trans ?_ (size_alloc _ _) | with_reducible refine Nat.le_trans ?_ (size_set _ _ _) | with_reducible refine Nat.le_trans ?_ (size_drewN _ _) | with_reducible refine Nat.le_trans ?_ (size_drew _) | (simp; done) | (simp; omega) | omega)
set_option maxHeartbeats 1000000 in
theorem fate_any (k : Int) (w : World) :
    Calls Try.prog 26 #[.int .i64 k] w fun e w' => e = .returned (.int .i64 (fateR k)) ∧ w' = w := by
  have HI : Hid (∀ W : World, Calls Try.prog 41 #[.int .i64 k] W fun e w' => e = .returned (.bool (insB k)) ∧ w' = W) := fun W => inserts_any k W
  unfold fateR
  cases h : insB k
  · rw [h] at HI
    clear h
    go_enter Try.func26, Try.ntmps26
    go_wp2_with (go_at_call 41; refine (HI.out _).mono ?_; rintro e w' ⟨rfl, rfl⟩)
    go_ret
    exact ⟨rfl, rfl⟩
  · rw [h] at HI
    clear h
    go_enter Try.func26, Try.ntmps26
    go_wp2_with (go_at_call 41; refine (HI.out _).mono ?_; rintro e w' ⟨rfl, rfl⟩)
    go_ret
    exact ⟨rfl, rfl⟩
theorem hasB_none (x : Int) : hasB 0 0 x = false := rfl
theorem hasB_some {f l : Int} (h : 1 ≤ l) (x : Int) : hasB f l x = (decide (f ≤ x) && decide (x ≤ l)) := by
  have : (l == 0) = false := by rw [beq_eq_false_iff_ne]; omega
  unfold hasB; rw [this]; simp
set_option maxHeartbeats 1000000 in
theorem has_none (x : Int) (w : World) :
    Calls Try.prog 25 #[.agg #[.int .i64 0, .int .i64 0], .int .i64 x] w fun e w' => e = .returned (.bool false) ∧ w' = w.alloc (.cells #[.int .i64 0, .int .i64 0] 63) := by
  go_enter Try.func25, Try.ntmps25
  go_wp2
  go_ret
  exact ⟨rfl, rfl⟩
set_option maxHeartbeats 1000000 in
theorem has_some (f l x : Int) (hl : 1 ≤ l) (w : World) :
    Calls Try.prog 25 #[.agg #[.int .i64 f, .int .i64 l], .int .i64 x] w fun e w' => e = .returned (.bool (decide (f ≤ x) && decide (x ≤ l))) ∧ w' = w.alloc (.cells #[.int .i64 f, .int .i64 l] 63) := by
  have e0 : (l == 0) = false := by rw [beq_eq_false_iff_ne]; omega
  clear hl
  cases e1 : (f == 0)
  all_goals
    by_cases h1 : f ≤ x
    · by_cases h2 : x ≤ l
      · rw [decide_eq_true h1, decide_eq_true h2]
        go_enter Try.func25, Try.ntmps25
        go_wp2
        go_ret
        exact ⟨rfl, rfl⟩
      · rw [decide_eq_true h1, decide_eq_false h2]
        go_enter Try.func25, Try.ntmps25
        go_wp2
        go_ret
        exact ⟨rfl, rfl⟩
    · rw [decide_eq_false h1]
      go_enter Try.func25, Try.ntmps25
      go_wp2
      go_ret
      exact ⟨rfl, rfl⟩
end Go.Proofs.Ytkkoeanjmldmdaa
