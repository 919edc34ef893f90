/-
  The contracts of place's small functions (isColumn, isRow, isPlace, Of, Check, Meet, In, Area) and of the answer's (Place, Right, Check, Of, In, Meet, Area).
-/
import Derived.Test.YtkkoeanjmldmdaaPl0
namespace Go.Proofs.Ytkkoeanjmldmdaa
open Go.RowKit

set_option maxHeartbeats 400000 in
theorem isColumn_any (c : Int) (w : World) :
    Calls Try.prog 45 #[.int .i64 c] w fun e w' => e = .returned (.bool (colB c)) ∧ w' = w := by
  cases h : colB c
  · rw [colB_no] at h
    by_cases h1 : 1 ≤ c
    · have h2 : ¬ c ≤ 16384 := by omega
      go_enter Try.func45, Try.ntmps45
      go_wp2
      go_ret
      exact ⟨rfl, rfl⟩
    · go_enter Try.func45, Try.ntmps45
      go_wp2
      go_ret
      exact ⟨rfl, rfl⟩
  · obtain ⟨h1, h2⟩ := colB_iff.1 h
    go_enter Try.func45, Try.ntmps45
    go_wp2
    go_ret
    exact ⟨rfl, rfl⟩
set_option maxHeartbeats 400000 in
theorem isRow_any (c : Int) (w : World) :
    Calls Try.prog 44 #[.int .i64 c] w fun e w' => e = .returned (.bool (rowB c)) ∧ w' = w := by
  cases h : rowB c
  · rw [rowB_no] at h
    by_cases h1 : 1 ≤ c
    · have h2 : ¬ c ≤ 1048576 := by omega
      go_enter Try.func44, Try.ntmps44
      go_wp2
      go_ret
      exact ⟨rfl, rfl⟩
    · go_enter Try.func44, Try.ntmps44
      go_wp2
      go_ret
      exact ⟨rfl, rfl⟩
  · obtain ⟨h1, h2⟩ := rowB_iff.1 h
    go_enter Try.func44, Try.ntmps44
    go_wp2
    go_ret
    exact ⟨rfl, rfl⟩
set_option maxHeartbeats 400000 in
theorem isPlace_any (r c : Int) (w : World) :
    Calls Try.prog 40 #[.agg #[.int .i64 r, .int .i64 c]] w fun e w' => e = .returned (.bool (placeB r c)) ∧ w' = w.alloc (.cells #[.int .i64 r, .int .i64 c] 26) := by
  unfold placeB
  cases h1 : rowB r
  · go_enter Try.func40, Try.ntmps40
    go_wp2_with (first | (go_at_call 44; refine (isRow_any _ _).mono ?_; rintro e w' ⟨rfl, rfl⟩) | (go_at_call 45; refine (isColumn_any _ _).mono ?_; rintro e w' ⟨rfl, rfl⟩))
    go_ret
    exact ⟨rfl, rfl⟩
  · go_enter Try.func40, Try.ntmps40
    go_wp2_with (first | (go_at_call 44; refine (isRow_any _ _).mono ?_; rintro e w' ⟨rfl, rfl⟩) | (go_at_call 45; refine (isColumn_any _ _).mono ?_; rintro e w' ⟨rfl, rfl⟩))
    go_ret
    exact ⟨rfl, rfl⟩
/-- A rectangle lies in a block of its own. -/
def At4 (w : World) (b : Nat) (x y u v : Int) : Prop := b < w.heap.size ∧ w.cell? ⟨b, 0, none⟩ = some (.int .i64 x) ∧ w.cell? ⟨b, 1, none⟩ = some (.int .i64 y) ∧ w.cell? ⟨b, 2, none⟩ = some (.int .i64 u) ∧ w.cell? ⟨b, 3, none⟩ = some (.int .i64 v)
theorem At4.new (w : World) (x y u v : Int) (t : TypeId) : At4 (w.alloc (.cells #[.int .i64 x, .int .i64 y, .int .i64 u, .int .i64 v] t)) w.heap.size x y u v := ⟨by simp, by simp [go_sem], by simp [go_sem], by simp [go_sem], by simp [go_sem]⟩
theorem At4.below {w w' : World} {b : Nat} {x y u v : Int} (h : At4 w b x y u v) (k : Below w.heap.size w w') : At4 w' b x y u v :=
  ⟨Nat.lt_of_lt_of_le h.1 k.size, by rw [k.cell (p := ⟨b, 0, none⟩) h.1]; exact h.2.1, by rw [k.cell (p := ⟨b, 1, none⟩) h.1]; exact h.2.2.1, by rw [k.cell (p := ⟨b, 2, none⟩) h.1]; exact h.2.2.2.1, by rw [k.cell (p := ⟨b, 3, none⟩) h.1]; exact h.2.2.2.2⟩
theorem At4.alloc {w : World} {b : Nat} {x y u v : Int} (h : At4 w b x y u v) (o : Obj) : At4 (w.alloc o) b x y u v := h.below ((Below.refl _ _).alloc (Nat.le_refl _) o)
/-- A rectangle lies in a block that may be written. -/
def Has4 (w : World) (b : Nat) (x y u v : Int) : Prop := At4 w b x y u v ∧ w.frozen? ⟨b, 0, none⟩ = false ∧ w.frozen? ⟨b, 1, none⟩ = false ∧ w.frozen? ⟨b, 2, none⟩ = false ∧ w.frozen? ⟨b, 3, none⟩ = false
theorem Has4.new (w : World) (x y u v : Int) (t : TypeId) : Has4 (w.alloc (.cells #[.int .i64 x, .int .i64 y, .int .i64 u, .int .i64 v] t)) w.heap.size x y u v := ⟨At4.new w x y u v t, by simp, by simp, by simp, by simp⟩
theorem Has4.below {w w' : World} {b : Nat} {x y u v : Int} (h : Has4 w b x y u v) (k : Below w.heap.size w w') : Has4 w' b x y u v :=
  ⟨h.1.below k, by rw [k.frozen (p := ⟨b, 0, none⟩) h.1.1]; exact h.2.1, by rw [k.frozen (p := ⟨b, 1, none⟩) h.1.1]; exact h.2.2.1, by rw [k.frozen (p := ⟨b, 2, none⟩) h.1.1]; exact h.2.2.2.1, by rw [k.frozen (p := ⟨b, 3, none⟩) h.1.1]; exact h.2.2.2.2⟩
theorem Has4.alloc {w : World} {b : Nat} {x y u v : Int} (h : Has4 w b x y u v) (o : Obj) : Has4 (w.alloc o) b x y u v := h.below ((Below.refl _ _).alloc (Nat.le_refl _) o)
/-- A place lies in a block of its own. -/
def At2 (w : World) (b : Nat) (x y : Int) : Prop := b < w.heap.size ∧ w.cell? ⟨b, 0, none⟩ = some (.int .i64 x) ∧ w.cell? ⟨b, 1, none⟩ = some (.int .i64 y)
theorem At2.new (w : World) (x y : Int) (t : TypeId) : At2 (w.alloc (.cells #[.int .i64 x, .int .i64 y] t)) w.heap.size x y := ⟨by simp, by simp [go_sem], by simp [go_sem]⟩
theorem At2.below {w w' : World} {b : Nat} {x y : Int} (h : At2 w b x y) (k : Below w.heap.size w w') : At2 w' b x y :=
  ⟨Nat.lt_of_lt_of_le h.1 k.size, by rw [k.cell (p := ⟨b, 0, none⟩) h.1]; exact h.2.1, by rw [k.cell (p := ⟨b, 1, none⟩) h.1]; exact h.2.2⟩
theorem At2.alloc {w : World} {b : Nat} {x y : Int} (h : At2 w b x y) (o : Obj) : At2 (w.alloc o) b x y := h.below ((Below.refl _ _).alloc (Nat.le_refl _) o)
set_option maxHeartbeats 1000000 in
theorem of_any (a b c d : Int) (w : World) :
    Calls Try.prog 22 #[.agg #[.int .i64 a, .int .i64 b], .agg #[.int .i64 c, .int .i64 d]] w fun e w' => e = .returned (.tuple #[.agg #[.int .i64 (ofR a b c d).1, .int .i64 (ofR a b c d).2.1, .int .i64 (ofR a b c d).2.2.1, .int .i64 (ofR a b c d).2.2.2.1], .int .i64 (ofR a b c d).2.2.2.2]) ∧ Below w.heap.size w w' := by
  unfold ofR
  cases h1 : placeB a b
  · go_enter Try.func22, Try.ntmps22
    go_wp2_with (go_at_call 40; refine (isPlace_any _ _ _).mono ?_; rintro e w' ⟨rfl, rfl⟩)
    refine bodyPost_ret (v := .tuple #[.agg #[.int .i64 0, .int .i64 0, .int .i64 0, .int .i64 0], .int .i64 2]) (by simp [results, Try.results22, go_sem]) rfl ⟨rfl, ?_⟩
    repeat' (first | with_reducible exact Below.refl _ _ | with_reducible refine Below.setCell ?_ ?_ _ | with_reducible refine Below.alloc ?_ ?_ _ | with_reducible refine below_drewN ?_ _ | with_reducible refine Below.drew ?_ | with_reducible refine Below.trans ?_ (Below.mono (by assumption) ?_) | with_reducible exact Nat.le_refl _ | with_reducible refine Nat.le_trans ?_ (Below.size (by assumption)) | with_reducible refine Nat.le_trans ?_ (size_alloc _ _) | with_reducible refine Nat.le_trans ?_ (size_set _ _ _) | with_reducible refine Nat.le_trans ?_ (size_drewN _ _) | with_reducible refine Nat.le_trans ?_ (size_drew _) | (simp; done) | (simp; omega) | omega)
  · cases h2 : placeB c d
    · go_enter Try.func22, Try.ntmps22
      go_wp2_with (go_at_call 40; refine (isPlace_any _ _ _).mono ?_; rintro e w' ⟨rfl, rfl⟩)
      refine bodyPost_ret (v := .tuple #[.agg #[.int .i64 0, .int .i64 0, .int .i64 0, .int .i64 0], .int .i64 2]) (by simp [results, Try.results22, go_sem]) rfl ⟨rfl, ?_⟩
      repeat' (first | with_reducible exact Below.refl _ _ | with_reducible refine Below.setCell ?_ ?_ _ | with_reducible refine Below.alloc ?_ ?_ _ | with_reducible refine below_drewN ?_ _ | with_reducible refine Below.drew ?_ | with_reducible refine Below.trans ?_ (Below.mono (by assumption) ?_) | with_reducible exact Nat.le_refl _ | with_reducible refine Nat.le_trans ?_ (Below.size (by assumption)) | with_reducible refine Nat.le_trans ?_ (size_alloc _ _) | with_reducible refine Nat.le_trans ?_ (size_set _ _ _) | with_reducible refine Nat.le_trans ?_ (size_drewN _ _) | with_reducible refine Nat.le_trans ?_ (size_drew _) | (simp; done) | (simp; omega) | omega)
    · go_enter Try.func22, Try.ntmps22
      go_wp2_with (go_at_call 40; refine (isPlace_any _ _ _).mono ?_; rintro e w' ⟨rfl, rfl⟩)
      refine bodyPost_ret (v := .tuple #[.agg #[.int .i64 (min a c), .int .i64 (min b d), .int .i64 (max a c), .int .i64 (max b d)], .int .i64 0]) (by simp [results, Try.results22, go_sem]) rfl ⟨rfl, ?_⟩
      repeat' (first | with_reducible exact Below.refl _ _ | with_reducible refine Below.setCell ?_ ?_ _ | with_reducible refine Below.alloc ?_ ?_ _ | with_reducible refine below_drewN ?_ _ | with_reducible refine Below.drew ?_ | with_reducible refine Below.trans ?_ (Below.mono (by assumption) ?_) | with_reducible exact Nat.le_refl _ | with_reducible refine Nat.le_trans ?_ (Below.size (by assumption)) | with_reducible refine Nat.le_trans ?_ (size_alloc _ _) | with_reducible refine Nat.le_trans ?_ (size_set _ _ _) | with_reducible refine Nat.le_trans ?_ (size_drewN _ _) | with_reducible refine Nat.le_trans ?_ (size_drew _) | (simp; done) | (simp; omega) | omega)
theorem ofR_right {t l b r : Int} (h : rightB t l b r = true) : ofR t l b r = (t, l, b, r, 0) := by
  have h' := rightB_iff.1 h
  unfold ofR
  rw [placeB_iff.2 (by omega), placeB_iff.2 (by omega)]
  simp only [Bool.and_self, if_true]
  rw [Int.min_eq_left (by omega), Int.min_eq_left (by omega), Int.max_eq_right (by omega), Int.max_eq_right (by omega)]
theorem ofR_no {a b c d : Int} (h : placeB a b = false ∨ placeB c d = false) : ofR a b c d = (0, 0, 0, 0, 2) := by
  unfold ofR; rcases h with h | h <;> simp [h]
theorem ofR_yes {a b c d : Int} (h : placeB a b = true) (h' : placeB c d = true) : ofR a b c d = (min a c, min b d, max a c, max b d, 0) := by
  unfold ofR; simp [h, h']
set_option maxHeartbeats 1000000 in
theorem check_any (t l b r : Int) (w : World) :
    Calls Try.prog 21 #[.agg #[.int .i64 t, .int .i64 l, .int .i64 b, .int .i64 r]] w fun e w' => e = .returned (.int .i64 (checkR t l b r)) ∧ Below w.heap.size w w' := by
  have HO : Hid (∀ W : World, Calls Try.prog 22 #[.agg #[.int .i64 t, .int .i64 l], .agg #[.int .i64 b, .int .i64 r]] W fun e w' => e = .returned (.tuple #[.agg #[.int .i64 (ofR t l b r).1, .int .i64 (ofR t l b r).2.1, .int .i64 (ofR t l b r).2.2.1, .int .i64 (ofR t l b r).2.2.2.1], .int .i64 (ofR t l b r).2.2.2.2]) ∧ Below W.heap.size W w') := fun W => of_any t l b r W
  cases h : rightB t l b r
  · rw [checkR_no h]
    by_cases hp : placeB t l = false ∨ placeB b r = false
    · rw [ofR_no hp] at HO
      clear h hp
      go_enter Try.func21, Try.ntmps21
      go_wp2_with (go_at_call 22; refine (HO.out _).mono ?_; rintro e w1 ⟨rfl, hb1⟩)
      go_ret
      refine ⟨rfl, ?_⟩
      repeat' (first | with_reducible exact Below.refl _ _ | with_reducible refine Below.setCell ?_ ?_ _ | with_reducible refine Below.alloc ?_ ?_ _ | with_reducible refine below_drewN ?_ _ | with_reducible refine Below.drew ?_ | with_reducible refine Below.trans ?_ (Below.mono (by assumption) ?_) | with_reducible exact Nat.le_refl _ | with_reducible refine Nat.le_trans ?_ (Below.size (by assumption)) | with_reducible refine Nat.le_trans ?_ (size_alloc _ _) | with_reducible refine Nat.le_trans ?_ (size_set _ _ _) | with_reducible refine Nat.le_trans ?_ (size_drewN _ _) | with_reducible refine Nat.le_trans ?_ (size_drew _) | (simp; done) | (simp; omega) | omega)
    · have p1 : placeB t l = true := by cases e : placeB t l <;> simp_all
      have p2 : placeB b r = true := by cases e : placeB b r <;> simp_all
      rw [ofR_yes p1 p2] at HO
      have q1 := placeB_iff.1 p1
      have q2 := placeB_iff.1 p2
      have q3 := rightB_no.1 h
      by_cases c1 : t ≤ b
      · have e1 : (min t b == t) = true := by simp; omega
        have e2 : (min l r == l) = false := by simp; omega
        generalize min t b = m1 at *
        generalize min l r = m2 at *
        generalize max t b = m3 at *
        generalize max l r = m4 at *
        clear h hp p1 p2 q1 q2 q3 c1
        go_enter Try.func21, Try.ntmps21
        go_wp2_with (go_at_call 22; refine (HO.out _).mono ?_; rintro e w1 ⟨rfl, hb1⟩; have ⟨z1, k0, k1, k2, k3⟩ := (At4.new w t l b r 42).below hb1)
        go_ret
        refine ⟨rfl, ?_⟩
        repeat' (first | with_reducible exact Below.refl _ _ | with_reducible refine Below.setCell ?_ ?_ _ | with_reducible refine Below.alloc ?_ ?_ _ | with_reducible refine below_drewN ?_ _ | with_reducible refine Below.drew ?_ | with_reducible refine Below.trans ?_ (Below.mono (by assumption) ?_) | with_reducible exact Nat.le_refl _ | with_reducible refine Nat.le_trans ?_ (Below.size (by assumption)) | with_reducible refine Nat.le_trans ?_ (size_alloc _ _) | with_reducible refine Nat.le_trans ?_ (size_set _ _ _) | with_reducible refine Nat.le_trans ?_ (size_drewN _ _) | with_reducible refine Nat.le_trans ?_ (size_drew _) | (simp; done) | (simp; omega) | omega)
      · have e1 : (min t b == t) = false := by simp; omega
        generalize min t b = m1 at *
        generalize min l r = m2 at *
        generalize max t b = m3 at *
        generalize max l r = m4 at *
        clear h hp p1 p2 q1 q2 q3 c1
        go_enter Try.func21, Try.ntmps21
        go_wp2_with (go_at_call 22; refine (HO.out _).mono ?_; rintro e w1 ⟨rfl, hb1⟩; have ⟨z1, k0, k1, k2, k3⟩ := (At4.new w t l b r 42).below hb1)
        go_ret
        refine ⟨rfl, ?_⟩
        repeat' (first | with_reducible exact Below.refl _ _ | with_reducible refine Below.setCell ?_ ?_ _ | with_reducible refine Below.alloc ?_ ?_ _ | with_reducible refine below_drewN ?_ _ | with_reducible refine Below.drew ?_ | with_reducible refine Below.trans ?_ (Below.mono (by assumption) ?_) | with_reducible exact Nat.le_refl _ | with_reducible refine Nat.le_trans ?_ (Below.size (by assumption)) | with_reducible refine Nat.le_trans ?_ (size_alloc _ _) | with_reducible refine Nat.le_trans ?_ (size_set _ _ _) | with_reducible refine Nat.le_trans ?_ (size_drewN _ _) | with_reducible refine Nat.le_trans ?_ (size_drew _) | (simp; done) | (simp; omega) | omega)
  · rw [ofR_right h] at HO
    rw [checkR_yes h]
    clear h
    have e1 : (t == t) = true := by simp
    have e2 : (l == l) = true := by simp
    have e3 : (b == b) = true := by simp
    have e4 : (r == r) = true := by simp
    go_enter Try.func21, Try.ntmps21
    go_wp2_with (go_at_call 22; refine (HO.out _).mono ?_; rintro e w1 ⟨rfl, hb1⟩; have ⟨z1, k0, k1, k2, k3⟩ := (At4.new w t l b r 42).below hb1)
    go_ret
    refine ⟨rfl, ?_⟩
    repeat' (first | with_reducible exact Below.refl _ _ | with_reducible refine Below.setCell ?_ ?_ _ | with_reducible refine Below.alloc ?_ ?_ _ | with_reducible refine below_drewN ?_ _ | with_reducible refine Below.drew ?_ | with_reducible refine Below.trans ?_ (Below.mono (by assumption) ?_) | with_reducible exact Nat.le_refl _ | with_reducible refine Nat.le_trans ?_ (Below.size (by assumption)) | with_reducible refine Nat.le_trans ?_ (size_alloc _ _) | with_reducible refine Nat.le_trans ?_ (size_set _ _ _) | with_reducible refine Nat.le_trans ?_ (size_drewN _ _) | with_reducible refine Nat.le_trans ?_ (size_drew _) | (simp; done) | (simp; omega) | omega)
end Go.Proofs.Ytkkoeanjmldmdaa
