/-
  Out of Pl0, Pl1, Pl2, Pt0, Pt3, Pt4, what is asked for (laid by pack9.py).
-/
import Derived.Test.YtklldmidcmfbdaaGreatDoorProg
import Derived.Test.YtklldmidcmfbdaaGreatDoorShelf
import Derived.Deep.RegionHeld3
import Derived.Laws.IdiomStrings
import Derived.Lib.Atoi
import Derived.Lib.AtoiErrMem
import Derived.Lib.MinMax
import Derived.Lib.OthersKept
import Derived.LoopTactic
import Derived.WalkKit
import Derived.WalkLawsBesides
import Derived.WalkSpells
namespace Go.Proofs.YtklldmidcmfbdaaGreatDoor.Pla
section
open Go.RowKit
theorem hide {p : Prop} (h : p) : Hid p := h
theorem below_drewN {B : Nat} {w w' : World} (h : Below B w w') (n : Nat) : Below B w (w'.drewN n) := by
  induction n with
  | zero => exact h
  | succ n ih => exact ih.drew
/-- A column. -/
def colB (c : Int) : Bool := decide (1 ≤ c) && decide (c ≤ 16384)
/-- A row. -/
def rowB (r : Int) : Bool := decide (1 ≤ r) && decide (r ≤ 1048576)
/-- A place. -/
def placeB (r c : Int) : Bool := rowB r && colB c
theorem colB_iff {c : Int} : colB c = true ↔ 1 ≤ c ∧ c ≤ 16384 := by unfold colB; simp
theorem rowB_iff {c : Int} : rowB c = true ↔ 1 ≤ c ∧ c ≤ 1048576 := by unfold rowB; simp
theorem colB_no {c : Int} : colB c = false ↔ c < 1 ∨ 16384 < c := by unfold colB; simp; omega
theorem rowB_no {c : Int} : rowB c = false ↔ c < 1 ∨ 1048576 < c := by unfold rowB; simp; omega
theorem placeB_iff {r c : Int} : placeB r c = true ↔ 1 ≤ r ∧ r ≤ 1048576 ∧ 1 ≤ c ∧ c ≤ 16384 := by unfold placeB; rw [Bool.and_eq_true, rowB_iff, colB_iff]; omega
theorem placeB_no {r c : Int} : placeB r c = false ↔ r < 1 ∨ 1048576 < r ∨ c < 1 ∨ 16384 < c := by unfold placeB; rw [Bool.and_eq_false_iff, rowB_no, colB_no]; omega
/-- The rectangle of two places, and why there is none. -/
def ofR (a b c d : Int) : Int × Int × Int × Int × Int := if placeB a b && placeB c d then (min a c, min b d, max a c, max b d, 0) else (0, 0, 0, 0, 2)
end
section
open Go.RowKit
set_option maxHeartbeats 400000 in
theorem isColumn_any (c : Int) (w : World) :
    Calls Tryz.prog 86 #[.int .i64 c] w fun e w' => e = .returned (.bool (colB c)) ∧ w' = w := by
  cases h : colB c
  · rw [colB_no] at h
    by_cases h1 : 1 ≤ c
    · have h2 : ¬ c ≤ 16384 := by omega
      go_enter Tryz.func86, Tryz.ntmps86
      go_wp2
      go_ret
      exact ⟨rfl, rfl⟩
    · go_enter Tryz.func86, Tryz.ntmps86
      go_wp2
      go_ret
      exact ⟨rfl, rfl⟩
  · obtain ⟨h1, h2⟩ := colB_iff.1 h
    go_enter Tryz.func86, Tryz.ntmps86
    go_wp2
    go_ret
    exact ⟨rfl, rfl⟩
set_option maxHeartbeats 400000 in
theorem isRow_any (c : Int) (w : World) :
    Calls Tryz.prog 85 #[.int .i64 c] w fun e w' => e = .returned (.bool (rowB c)) ∧ w' = w := by
  cases h : rowB c
  · rw [rowB_no] at h
    by_cases h1 : 1 ≤ c
    · have h2 : ¬ c ≤ 1048576 := by omega
      go_enter Tryz.func85, Tryz.ntmps85
      go_wp2
      go_ret
      exact ⟨rfl, rfl⟩
    · go_enter Tryz.func85, Tryz.ntmps85
      go_wp2
      go_ret
      exact ⟨rfl, rfl⟩
  · obtain ⟨h1, h2⟩ := rowB_iff.1 h
    go_enter Tryz.func85, Tryz.ntmps85
    go_wp2
    go_ret
    exact ⟨rfl, rfl⟩
set_option maxHeartbeats 400000 in
theorem isPlace_any (r c : Int) (w : World) :
    Calls Tryz.prog 66 #[.agg #[.int .i64 r, .int .i64 c]] w fun e w' => e = .returned (.bool (placeB r c)) ∧ w' = w.alloc (.cells #[.int .i64 r, .int .i64 c] 63) := by
  unfold placeB
  cases h1 : rowB r
  · go_enter Tryz.func66, Tryz.ntmps66
    go_wp2_with (first | (go_at_call 85; refine (isRow_any _ _).mono ?_; rintro e w' ⟨rfl, rfl⟩) | (go_at_call 86; refine (isColumn_any _ _).mono ?_; rintro e w' ⟨rfl, rfl⟩))
    go_ret
    exact ⟨rfl, rfl⟩
  · go_enter Tryz.func66, Tryz.ntmps66
    go_wp2_with (first | (go_at_call 85; refine (isRow_any _ _).mono ?_; rintro e w' ⟨rfl, rfl⟩) | (go_at_call 86; refine (isColumn_any _ _).mono ?_; rintro e w' ⟨rfl, rfl⟩))
    go_ret
    exact ⟨rfl, rfl⟩
/-- A rectangle lies in a block of its own. -/
def At4 (w : World) (b : Nat) (x y u v : Int) : Prop := b < w.heap.size ∧ w.cell? ⟨b, 0, none⟩ = some (.int .i64 x) ∧ w.cell? ⟨b, 1, none⟩ = some (.int .i64 y) ∧ w.cell? ⟨b, 2, none⟩ = some (.int .i64 u) ∧ w.cell? ⟨b, 3, none⟩ = some (.int .i64 v)
theorem At4.below {w w' : World} {b : Nat} {x y u v : Int} (h : At4 w b x y u v) (k : Below w.heap.size w w') : At4 w' b x y u v :=
  ⟨Nat.lt_of_lt_of_le h.1 k.size, by rw [k.cell (p := ⟨b, 0, none⟩) h.1]; exact h.2.1, by rw [k.cell (p := ⟨b, 1, none⟩) h.1]; exact h.2.2.1, by rw [k.cell (p := ⟨b, 2, none⟩) h.1]; exact h.2.2.2.1, by rw [k.cell (p := ⟨b, 3, none⟩) h.1]; exact h.2.2.2.2⟩
theorem At4.alloc {w : World} {b : Nat} {x y u v : Int} (h : At4 w b x y u v) (o : Obj) : At4 (w.alloc o) b x y u v := h.below ((Below.refl _ _).alloc (Nat.le_refl _) o)
/-- A rectangle lies in a block that may be written. -/
def Has4 (w : World) (b : Nat) (x y u v : Int) : Prop := At4 w b x y u v ∧ w.frozen? ⟨b, 0, none⟩ = false ∧ w.frozen? ⟨b, 1, none⟩ = false ∧ w.frozen? ⟨b, 2, none⟩ = false ∧ w.frozen? ⟨b, 3, none⟩ = false
theorem Has4.below {w w' : World} {b : Nat} {x y u v : Int} (h : Has4 w b x y u v) (k : Below w.heap.size w w') : Has4 w' b x y u v :=
  ⟨h.1.below k, by rw [k.frozen (p := ⟨b, 0, none⟩) h.1.1]; exact h.2.1, by rw [k.frozen (p := ⟨b, 1, none⟩) h.1.1]; exact h.2.2.1, by rw [k.frozen (p := ⟨b, 2, none⟩) h.1.1]; exact h.2.2.2.1, by rw [k.frozen (p := ⟨b, 3, none⟩) h.1.1]; exact h.2.2.2.2⟩
theorem Has4.alloc {w : World} {b : Nat} {x y u v : Int} (h : Has4 w b x y u v) (o : Obj) : Has4 (w.alloc o) b x y u v := h.below ((Below.refl _ _).alloc (Nat.le_refl _) o)
/-- A place lies in a block of its own. -/
def At2 (w : World) (b : Nat) (x y : Int) : Prop := b < w.heap.size ∧ w.cell? ⟨b, 0, none⟩ = some (.int .i64 x) ∧ w.cell? ⟨b, 1, none⟩ = some (.int .i64 y)
theorem At2.below {w w' : World} {b : Nat} {x y : Int} (h : At2 w b x y) (k : Below w.heap.size w w') : At2 w' b x y :=
  ⟨Nat.lt_of_lt_of_le h.1 k.size, by rw [k.cell (p := ⟨b, 0, none⟩) h.1]; exact h.2.1, by rw [k.cell (p := ⟨b, 1, none⟩) h.1]; exact h.2.2⟩
theorem At2.alloc {w : World} {b : Nat} {x y : Int} (h : At2 w b x y) (o : Obj) : At2 (w.alloc o) b x y := h.below ((Below.refl _ _).alloc (Nat.le_refl _) o)
set_option maxHeartbeats 1000000 in
theorem of_any (a b c d : Int) (w : World) :
    Calls Tryz.prog 44 #[.agg #[.int .i64 a, .int .i64 b], .agg #[.int .i64 c, .int .i64 d]] w fun e w' => e = .returned (.tuple #[.agg #[.int .i64 (ofR a b c d).1, .int .i64 (ofR a b c d).2.1, .int .i64 (ofR a b c d).2.2.1, .int .i64 (ofR a b c d).2.2.2.1], .int .i64 (ofR a b c d).2.2.2.2]) ∧ Below w.heap.size w w' := by
  unfold ofR
  cases h1 : placeB a b
  · go_enter Tryz.func44, Tryz.ntmps44
    go_wp2_with (go_at_call 66; refine (isPlace_any _ _ _).mono ?_; rintro e w' ⟨rfl, rfl⟩)
    refine bodyPost_ret (v := .tuple #[.agg #[.int .i64 0, .int .i64 0, .int .i64 0, .int .i64 0], .int .i64 2]) (by simp [results, Tryz.results44, go_sem]) rfl ⟨rfl, ?_⟩
    repeat' (first | with_reducible exact Below.refl _ _ | with_reducible refine Below.setCell ?_ ?_ _ | with_reducible refine Below.alloc ?_ ?_ _ | with_reducible refine below_drewN ?_ _ | with_reducible refine Below.drew ?_ | with_reducible refine Below.trans ?_ (Below.mono (by assumption) ?_) | with_reducible exact Nat.le_refl _ | with_reducible refine Nat.le_trans ?_ (Below.size (by assumption)) | with_reducible refine Nat.le_trans ?_ (size_alloc _ _) | with_reducible refine Nat.le_trans ?_ (size_set _ _ _) | with_reducible refine Nat.le_trans ?_ (size_drewN _ _) | with_reducible refine Nat.le_trans ?_ (size_drew _) | (simp; done) | (simp; omega) | omega)
  · cases h2 : placeB c d
    · go_enter Tryz.func44, Tryz.ntmps44
      go_wp2_with (go_at_call 66; refine (isPlace_any _ _ _).mono ?_; rintro e w' ⟨rfl, rfl⟩)
      refine bodyPost_ret (v := .tuple #[.agg #[.int .i64 0, .int .i64 0, .int .i64 0, .int .i64 0], .int .i64 2]) (by simp [results, Tryz.results44, go_sem]) rfl ⟨rfl, ?_⟩
      repeat' (first | with_reducible exact Below.refl _ _ | with_reducible refine Below.setCell ?_ ?_ _ | with_reducible refine Below.alloc ?_ ?_ _ | with_reducible refine below_drewN ?_ _ | with_reducible refine Below.drew ?_ | with_reducible refine Below.trans ?_ (Below.mono (by assumption) ?_) | with_reducible exact Nat.le_refl _ | with_reducible refine Nat.le_trans ?_ (Below.size (by assumption)) | with_reducible refine Nat.le_trans ?_ (size_alloc _ _) | with_reducible refine Nat.le_trans ?_ (size_set _ _ _) | with_reducible refine Nat.le_trans ?_ (size_drewN _ _) | with_reducible refine Nat.le_trans ?_ (size_drew _) | (simp; done) | (simp; omega) | omega)
    · go_enter Tryz.func44, Tryz.ntmps44
      go_wp2_with (go_at_call 66; refine (isPlace_any _ _ _).mono ?_; rintro e w' ⟨rfl, rfl⟩)
      refine bodyPost_ret (v := .tuple #[.agg #[.int .i64 (min a c), .int .i64 (min b d), .int .i64 (max a c), .int .i64 (max b d)], .int .i64 0]) (by simp [results, Tryz.results44, go_sem]) rfl ⟨rfl, ?_⟩
      repeat' (first | with_reducible exact Below.refl _ _ | with_reducible refine Below.setCell ?_ ?_ _ | with_reducible refine Below.alloc ?_ ?_ _ | with_reducible refine below_drewN ?_ _ | with_reducible refine Below.drew ?_ | with_reducible refine Below.trans ?_ (Below.mono (by assumption) ?_) | with_reducible exact Nat.le_refl _ | with_reducible refine Nat.le_trans ?_ (Below.size (by assumption)) | with_reducible refine Nat.le_trans ?_ (size_alloc _ _) | with_reducible refine Nat.le_trans ?_ (size_set _ _ _) | with_reducible refine Nat.le_trans ?_ (size_drewN _ _) | with_reducible refine Nat.le_trans ?_ (size_drew _) | (simp; done) | (simp; omega) | omega)
end
section
open Go.RowKit
theorem three {w w' : World} {p q s : Nat} {t l b r t' l' b' r' x y u v : Int} (h : At4 w p t l b r ∧ At4 w q t' l' b' r' ∧ Has4 w s x y u v) (k : Below w.heap.size w w') : At4 w' p t l b r ∧ At4 w' q t' l' b' r' ∧ Has4 w' s x y u v :=
  ⟨h.1.below k, h.2.1.below k, h.2.2.below k⟩
end
section
open Go.RowKit
/-- A letter. -/
def letB (c : UInt8) : Bool := decide (65 ≤ c.toNat ∧ c.toNat ≤ 90) || decide (97 ≤ c.toNat ∧ c.toNat ≤ 122)
theorem letB_iff {c : UInt8} : letB c = true ↔ (65 ≤ c.toNat ∧ c.toNat ≤ 90) ∨ (97 ≤ c.toNat ∧ c.toNat ≤ 122) := by unfold letB; simp
theorem letB_no {c : UInt8} : letB c = false ↔ ¬ ((65 ≤ c.toNat ∧ c.toNat ≤ 90) ∨ (97 ≤ c.toNat ∧ c.toNat ≤ 122)) := by rw [← Bool.not_eq_true, letB_iff]
/-- A letter's number. -/
def letV (c : UInt8) : Nat := if 97 ≤ c.toNat then c.toNat - 96 else c.toNat - 64
/-- The column that letters name. -/
def colV (l : List UInt8) : Nat := l.foldl (fun n c => n * 26 + letV c) 0
theorem letV_bd {c : UInt8} (h : letB c = true) : 1 ≤ letV c ∧ letV c ≤ 26 := by
  rw [letB_iff] at h; unfold letV; split <;> omega
theorem colV_snoc (l : List UInt8) (c : UInt8) : colV (l ++ [c]) = colV l * 26 + letV c := by simp [colV]
theorem col_pos {l : List UInt8} (h : l ≠ []) (ha : l.all letB = true) : 1 ≤ colV l := by
  rcases List.eq_nil_or_concat l with e | ⟨m, c, e⟩
  · exact absurd e h
  · rw [List.concat_eq_append] at e
    subst e
    rw [List.all_append] at ha
    simp at ha
    rw [colV_snoc]
    have := (letV_bd ha.2).1
    omega
theorem col_bd (l : List UInt8) (ha : l.all letB = true) : l.length ≤ 3 → colV l ≤ 18278 := by
  intro h
  rcases l with _ | ⟨a, _ | ⟨b, _ | ⟨c, _ | ⟨d, l⟩⟩⟩⟩
  · decide
  · simp [List.all_cons] at ha; have := letV_bd ha; simp [colV]; omega
  · simp [List.all_cons] at ha; have := letV_bd ha.1; have := letV_bd ha.2; simp [colV]; omega
  · simp [List.all_cons] at ha; have := letV_bd ha.1; have := letV_bd ha.2.1; have := letV_bd ha.2.2; simp [colV]; omega
  · simp at h
end
section
open Go.RowKit
/-- A row of bytes lies in a block that may be written. -/
def RowB (w : World) (p : Nat) (l : List UInt8) : Prop :=
  p < w.heap.size ∧ ∀ j (hj : j < l.length), w.cell? ⟨p, j, none⟩ = some (.int .u8 (l[j].toNat : Int)) ∧ w.frozen? ⟨p, j, none⟩ = false
theorem RowB.block {w w' : World} {p : Nat} {l : List UInt8} (h : RowB w p l) (hs : w.heap.size ≤ w'.heap.size) (hb : w'.heap[p]? = w.heap[p]?) : RowB w' p l :=
  ⟨Nat.lt_of_lt_of_le h.1 hs, fun j hj => ⟨by rw [World.cell?_of_block (w := w) (a := ⟨p, j, none⟩) hb]; exact (h.2 j hj).1, by rw [World.frozen?_of_block (w := w) (a := ⟨p, j, none⟩) hb]; exact (h.2 j hj).2⟩⟩
theorem RowB.below {w w' : World} {p : Nat} {l : List UInt8} (h : RowB w p l) (q : Below w.heap.size w w') : RowB w' p l := h.block q.size (q.block p h.1)
theorem RowB.alloc {w : World} {p : Nat} {l : List UInt8} (h : RowB w p l) (o : Obj) : RowB (w.alloc o) p l := h.block (by simp) (Below.heap_alloc w o p h.1)
/-- A digit. -/
def digB (c : UInt8) : Bool := decide (48 ≤ c.toNat) && decide (c.toNat ≤ 57)
theorem digB_iff {c : UInt8} : digB c = true ↔ 48 ≤ c.toNat ∧ c.toNat ≤ 57 := by unfold digB; simp
theorem digB_no {c : UInt8} : digB c = false ↔ ¬ (48 ≤ c.toNat ∧ c.toNat ≤ 57) := by rw [← Bool.not_eq_true, digB_iff]
/-- What stands ahead of what is fixed. -/
def fixB (c : UInt8) : Bool := decide (c.toNat = 36)
/-- The number of digits. -/
def decV (l : List UInt8) : Nat := l.foldl (fun n c => n * 10 + (c.toNat - 48)) 0
/-- The row that digits name. -/
def rowV (l : List UInt8) : Nat := if l.head? = none ∨ l.head? = some 48 then 0 else decV l
theorem dec_from : ∀ (l : List UInt8) (acc : Nat), l.all digB = true → Lib.decFrom acc l = some (l.foldl (fun n c => n * 10 + (c.toNat - 48)) acc)
  | [], acc, _ => rfl
  | c :: l, acc, h => by
    simp only [List.all_cons, Bool.and_eq_true] at h
    have h1 := digB_iff.1 h.1
    have : Lib.digitVal c = some (c.toNat - 48) := by unfold Lib.digitVal; rw [if_pos h1]
    rw [Lib.decFrom, this]
    exact dec_from l _ h.2
theorem col_take {l : List UInt8} {k : Nat} (hk : k < l.length) : colV (l.take (k + 1)) = colV (l.take k) * 26 + letV l[k] := by
  rw [List.take_succ_eq_append_getElem hk, colV_snoc]
theorem all_take {l : List UInt8} {p : UInt8 → Bool} (k : Nat) (h : l.all p = true) : (l.take k).all p = true := by
  rw [List.all_eq_true] at *; intro x hx; exact h x (List.mem_of_mem_take hx)
theorem rowV_zero (l : List UInt8) : rowV (48 :: l) = 0 := rfl
theorem rowV_dec {c : UInt8} {l : List UInt8} (h : c ≠ 48) : rowV (c :: l) = decV (c :: l) := by
  unfold rowV; rw [if_neg (by simp [h])]
end
section
open Go.RowKit
/-- The longest front of at most m bytes, all of a kind. -/
def pre (p : UInt8 → Bool) (m : Nat) (l : List UInt8) : List UInt8 := (l.take m).takeWhile p
/-- What is behind it. -/
def rest (p : UInt8 → Bool) (m : Nat) (l : List UInt8) : List UInt8 := l.drop (pre p m l).length
theorem takeWhile_at (p : UInt8 → Bool) : ∀ (l : List UInt8) (k : Nat), k ≤ l.length → (l.take k).all p = true → (∀ h : k < l.length, p l[k] = false) → l.takeWhile p = l.take k
  | [], k, _, _, _ => by simp
  | c :: l, 0, _, _, h => by
    have := h (by simp)
    simp at this
    simp [this]
  | c :: l, k + 1, hk, ha, h => by
    simp only [List.take_succ_cons, List.all_cons, Bool.and_eq_true] at ha
    rw [List.takeWhile_cons, if_pos ha.1, List.take_succ_cons, takeWhile_at p l k (by simpa using hk) ha.2 (fun h' => by have := h (by simpa using h'); simpa using this)]
theorem pre_at {p : UInt8 → Bool} {m k : Nat} {l : List UInt8} (hk : k ≤ l.length) (hm : k ≤ m) (ha : (l.take k).all p = true) (h : k = m ∨ (∀ h : k < l.length, p l[k] = false)) : pre p m l = l.take k := by
  unfold pre
  rw [takeWhile_at p (l.take m) k (by rw [List.length_take]; omega) (by rw [List.take_take, Nat.min_eq_left hm]; exact ha) (fun hx => ?_), List.take_take, Nat.min_eq_left hm]
  rw [List.length_take] at hx
  rcases h with h | h
  · omega
  · rw [List.getElem_take]; exact h (by omega)
theorem rest_at {p : UInt8 → Bool} {m k : Nat} {l : List UInt8} (hk : k ≤ l.length) (h : pre p m l = l.take k) : rest p m l = l.drop k := by
  unfold rest; rw [h, List.length_take, Nat.min_eq_left hk]
theorem pre_all (p : UInt8 → Bool) (m : Nat) (l : List UInt8) : (pre p m l).all p = true := by
  unfold pre; exact List.all_takeWhile
theorem pre_len (p : UInt8 → Bool) (m : Nat) (l : List UInt8) : (pre p m l).length ≤ m := by
  unfold pre
  have := (List.takeWhile_sublist p (l := l.take m)).length_le
  rw [List.length_take] at this; omega
/-- One number lies in a block that may be written. -/
def One (w : World) (b : Nat) (v : Int) : Prop := b < w.heap.size ∧ w.cell? ⟨b, 0, none⟩ = some (.int .i64 v) ∧ w.frozen? ⟨b, 0, none⟩ = false
theorem One.below {w w' : World} {b : Nat} {v : Int} (h : One w b v) (k : Below w.heap.size w w') : One w' b v :=
  ⟨Nat.lt_of_lt_of_le h.1 k.size, by rw [k.cell (p := ⟨b, 0, none⟩) h.1]; exact h.2.1, by rw [k.frozen (p := ⟨b, 0, none⟩) h.1]; exact h.2.2⟩
theorem str_take (s : ByteArray) (k : Nat) : (s.extract 0 k).data.toList = s.data.toList.take k := by simp
theorem str_drop (s : ByteArray) (k : Nat) : (s.extract k s.size).data.toList = s.data.toList.drop k := by
  simp; rw [List.take_of_length_le (by simp)]
/-- What Column tells. -/
def columnR (l : List UInt8) : Int × Int := if colV (pre letB 3 l) = 0 ∨ rest letB 3 l ≠ [] then (0, 5) else if colB (colV (pre letB 3 l)) then (colV (pre letB 3 l), 0) else (0, 11)
end
end Go.Proofs.YtklldmidcmfbdaaGreatDoor.Pla
