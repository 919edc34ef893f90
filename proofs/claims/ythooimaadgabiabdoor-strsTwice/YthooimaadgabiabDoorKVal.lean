/-
  Out of Val1, Val2, FoldMath, Fold, ValMath, what is asked for (laid by pack9.py).
-/
import Derived.Test.YthooimaadgabiabDoorKNum
import Derived.BigCall
import Derived.BigGuard
import Derived.BigQuiet
import Derived.Deep.QuietTactic
import Derived.Deep.RegionWith
import Derived.Laws.EntriesVeiled
import Derived.Laws.IdiomStrings
import Derived.Lib.AppendIntMem
import Derived.Lib.IndexMore
import Derived.Lib.ItoaMem
import Derived.Lib.OthersKept
import Derived.Lib.SmallJoins
import Derived.Lib.Walk
import Derived.LoopTactic
import Derived.WalkKit
import Derived.WalkLawsBesides
import Derived.WalkSpells
import Derived.WideShapes
namespace Go.Proofs.YthooimaadgabiabDoor
section
open Go.RowKit
theorem size_alloc (w : World) (o : Obj) : w.heap.size ≤ (w.alloc o).heap.size := by simp
theorem size_set (w : World) (a : Addr) (v : Value) : w.heap.size ≤ (w.setCell a v).heap.size := by simp
theorem size_drewN (w : World) (n : Nat) : w.heap.size ≤ (w.drewN n).heap.size := by simp
theorem size_drew (w : World) : w.heap.size ≤ w.drew.heap.size := by simp
/-- Is a value right? -/
def rightB (k n : Int) (s : ByteArray) (b : Bool) (c : Int) : Bool :=
  if k = 0 then decide (n = 0) && decide (s = ⟨#[]⟩) && !b && decide (c = 0)
  else if k = 1 then fitsB n && decide (s = ⟨#[]⟩) && !b && decide (c = 0)
  else if k = 2 then decide (n = 0) && decide (s.size ≤ 255) && !b && decide (c = 0)
  else if k = 3 then decide (n = 0) && decide (s = ⟨#[]⟩) && decide (c = 0)
  else if k = 4 then decide (n = 0) && decide (s = ⟨#[]⟩) && !b && decide (1 ≤ c) && decide (c ≤ 7)
  else false
/-- A value lies in a block. -/
def AtV (w : World) (p : Nat) (k n : Int) (s : ByteArray) (b : Bool) (c : Int) : Prop :=
  p < w.heap.size ∧ w.cell? ⟨p, 0, none⟩ = some (.int .i64 k) ∧ w.cell? ⟨p, 1, none⟩ = some (.int .i64 n) ∧ w.cell? ⟨p, 2, none⟩ = some (.string s) ∧ w.cell? ⟨p, 3, none⟩ = some (.bool b) ∧ w.cell? ⟨p, 4, none⟩ = some (.int .i64 c)
theorem AtV.at (w : World) (p : Nat) (k n : Int) (s : ByteArray) (b : Bool) (c : Int) (t : TypeId) (h : p = w.heap.size) : AtV (w.alloc (.cells #[.int .i64 k, .int .i64 n, .string s, .bool b, .int .i64 c] t)) p k n s b c := by
  subst h; exact ⟨by simp, by simp [go_sem], by simp [go_sem], by simp [go_sem], by simp [go_sem], by simp [go_sem]⟩
theorem AtV.alloc {w : World} {p : Nat} {k n : Int} {s : ByteArray} {b : Bool} {c : Int} (h : AtV w p k n s b c) (o : Obj) : AtV (w.alloc o) p k n s b c := by
  obtain ⟨l, h0, h1, h2, h3, h4⟩ := h
  exact ⟨by simp; omega, by rw [World.cell?_alloc_past _ _ _ l]; exact h0, by rw [World.cell?_alloc_past _ _ _ l]; exact h1, by rw [World.cell?_alloc_past _ _ _ l]; exact h2, by rw [World.cell?_alloc_past _ _ _ l]; exact h3, by rw [World.cell?_alloc_past _ _ _ l]; exact h4⟩
theorem AtV.below {w w' : World} {p : Nat} {k n : Int} {s : ByteArray} {b : Bool} {c : Int} (h : AtV w p k n s b c) (q : Below w.heap.size w w') : AtV w' p k n s b c := by
  obtain ⟨l, h0, h1, h2, h3, h4⟩ := h
  exact ⟨Nat.lt_of_lt_of_le l q.size, by rw [q.cell (p := ⟨p, 0, none⟩) l]; exact h0, by rw [q.cell (p := ⟨p, 1, none⟩) l]; exact h1, by rw [q.cell (p := ⟨p, 2, none⟩) l]; exact h2, by rw [q.cell (p := ⟨p, 3, none⟩) l]; exact h3, by rw [q.cell (p := ⟨p, 4, none⟩) l]; exact h4⟩
theorem AtV.drew {w : World} {p : Nat} {k n : Int} {s : ByteArray} {b : Bool} {c : Int} (h : AtV w p k n s b c) : AtV w.drew p k n s b c := h
set_option maxHeartbeats 400000 in
theorem number_any (n : Int) (w : World) :
    Calls Tryd.prog 60 #[.int .i64 n] w fun e w' => e = .returned (.agg #[.int .i64 1, .int .i64 n, .string ⟨#[]⟩, .bool false, .int .i64 0]) ∧ Below w.heap.size w w' := by
  go_enter Tryd.func60, Tryd.ntmps60
  go_wp2
  refine bodyPost_ret (v := .agg #[.int .i64 1, .int .i64 n, .string ⟨#[]⟩, .bool false, .int .i64 0]) (by simp [results, Tryd.results60, go_sem]) rfl ⟨rfl, ?_⟩
  repeat' (first | with_reducible exact Below.refl _ _ | with_reducible refine Below.setCell ?_ ?_ _ | with_reducible refine Below.alloc ?_ ?_ _ | with_reducible refine below_drewN ?_ _ | with_reducible refine Below.drew ?_ | with_reducible refine Below.trans ?_ (Below.mono (by assumption) ?_) | with_reducible exact Nat.le_refl _ | with_reducible refine Nat.le_trans ?_ (Below.size (by assumption)) | with_reducible refine Nat.le_trans ?_ (size_alloc _ _) | with_reducible refine Nat.le_trans ?_ (size_set _ _ _) | with_reducible refine Nat.le_trans ?_ (size_drewN _ _) | with_reducible refine Nat.le_trans ?_ (size_drew _) | (simp; done) | (simp; omega) | omega)
set_option maxHeartbeats 400000 in
theorem text_any (s : ByteArray) (w : World) :
    Calls Tryd.prog 62 #[.string s] w fun e w' => e = .returned (.agg #[.int .i64 2, .int .i64 0, .string s, .bool false, .int .i64 0]) ∧ Below w.heap.size w w' := by
  go_enter Tryd.func62, Tryd.ntmps62
  go_wp2
  refine bodyPost_ret (v := .agg #[.int .i64 2, .int .i64 0, .string s, .bool false, .int .i64 0]) (by simp [results, Tryd.results62, go_sem]) rfl ⟨rfl, ?_⟩
  repeat' (first | with_reducible exact Below.refl _ _ | with_reducible refine Below.setCell ?_ ?_ _ | with_reducible refine Below.alloc ?_ ?_ _ | with_reducible refine below_drewN ?_ _ | with_reducible refine Below.drew ?_ | with_reducible refine Below.trans ?_ (Below.mono (by assumption) ?_) | with_reducible exact Nat.le_refl _ | with_reducible refine Nat.le_trans ?_ (Below.size (by assumption)) | with_reducible refine Nat.le_trans ?_ (size_alloc _ _) | with_reducible refine Nat.le_trans ?_ (size_set _ _ _) | with_reducible refine Nat.le_trans ?_ (size_drewN _ _) | with_reducible refine Nat.le_trans ?_ (size_drew _) | (simp; done) | (simp; omega) | omega)
set_option maxHeartbeats 400000 in
theorem truth_any (b : Bool) (w : World) :
    Calls Tryd.prog 63 #[.bool b] w fun e w' => e = .returned (.agg #[.int .i64 3, .int .i64 0, .string ⟨#[]⟩, .bool b, .int .i64 0]) ∧ Below w.heap.size w w' := by
  go_enter Tryd.func63, Tryd.ntmps63
  go_wp2
  refine bodyPost_ret (v := .agg #[.int .i64 3, .int .i64 0, .string ⟨#[]⟩, .bool b, .int .i64 0]) (by simp [results, Tryd.results63, go_sem]) rfl ⟨rfl, ?_⟩
  repeat' (first | with_reducible exact Below.refl _ _ | with_reducible refine Below.setCell ?_ ?_ _ | with_reducible refine Below.alloc ?_ ?_ _ | with_reducible refine below_drewN ?_ _ | with_reducible refine Below.drew ?_ | with_reducible refine Below.trans ?_ (Below.mono (by assumption) ?_) | with_reducible exact Nat.le_refl _ | with_reducible refine Nat.le_trans ?_ (Below.size (by assumption)) | with_reducible refine Nat.le_trans ?_ (size_alloc _ _) | with_reducible refine Nat.le_trans ?_ (size_set _ _ _) | with_reducible refine Nat.le_trans ?_ (size_drewN _ _) | with_reducible refine Nat.le_trans ?_ (size_drew _) | (simp; done) | (simp; omega) | omega)
set_option maxHeartbeats 400000 in
theorem fault_any (c : Int) (w : World) :
    Calls Tryd.prog 64 #[.int .i64 c] w fun e w' => e = .returned (.agg #[.int .i64 4, .int .i64 0, .string ⟨#[]⟩, .bool false, .int .i64 c]) ∧ Below w.heap.size w w' := by
  go_enter Tryd.func64, Tryd.ntmps64
  go_wp2
  refine bodyPost_ret (v := .agg #[.int .i64 4, .int .i64 0, .string ⟨#[]⟩, .bool false, .int .i64 c]) (by simp [results, Tryd.results64, go_sem]) rfl ⟨rfl, ?_⟩
  repeat' (first | with_reducible exact Below.refl _ _ | with_reducible refine Below.setCell ?_ ?_ _ | with_reducible refine Below.alloc ?_ ?_ _ | with_reducible refine below_drewN ?_ _ | with_reducible refine Below.drew ?_ | with_reducible refine Below.trans ?_ (Below.mono (by assumption) ?_) | with_reducible exact Nat.le_refl _ | with_reducible refine Nat.le_trans ?_ (Below.size (by assumption)) | with_reducible refine Nat.le_trans ?_ (size_alloc _ _) | with_reducible refine Nat.le_trans ?_ (size_set _ _ _) | with_reducible refine Nat.le_trans ?_ (size_drewN _ _) | with_reducible refine Nat.le_trans ?_ (size_drew _) | (simp; done) | (simp; omega) | omega)
end
section
open Go.RowKit
theorem empty_or (s : ByteArray) : s = ⟨#[]⟩ ∨ (s ≠ ⟨#[]⟩ ∧ (s.toList == []) = false) := by
  by_cases h : s = ⟨#[]⟩
  · exact .inl h
  · refine .inr ⟨h, ?_⟩
    rw [ByteArray.toList_eq]
    obtain ⟨⟨l⟩⟩ := s
    cases l with
    | nil => exact absurd rfl h
    | cons a l => rfl
theorem zero_or (n : Int) : n = 0 ∨ (n ≠ 0 ∧ (n == 0) = false) := by
  by_cases h : n = 0
  · exact .inl h
  · exact .inr ⟨h, by simpa using h⟩
theorem bad_nsbc (n : Int) (s : ByteArray) (b : Bool) (c : Int) : (n = 0 ∧ s = ⟨#[]⟩ ∧ b = false ∧ c = 0) ∨ (n ≠ 0 ∧ (n == 0) = false) ∨ (n = 0 ∧ s ≠ ⟨#[]⟩ ∧ (s.toList == []) = false) ∨ (n = 0 ∧ s = ⟨#[]⟩ ∧ b = true) ∨ (n = 0 ∧ s = ⟨#[]⟩ ∧ b = false ∧ c ≠ 0 ∧ (c == 0) = false) := by
  rcases zero_or n with h | h <;> rcases empty_or s with i | i <;> rcases zero_or c with j | j <;> cases b <;> simp_all
theorem bad_sbc (s : ByteArray) (b : Bool) (c : Int) : (s = ⟨#[]⟩ ∧ b = false ∧ c = 0) ∨ (s ≠ ⟨#[]⟩ ∧ (s.toList == []) = false) ∨ (s = ⟨#[]⟩ ∧ b = true) ∨ (s = ⟨#[]⟩ ∧ b = false ∧ c ≠ 0 ∧ (c == 0) = false) := by
  rcases empty_or s with i | i <;> rcases zero_or c with j | j <;> cases b <;> simp_all
theorem bad_nbc (n : Int) (b : Bool) (c : Int) : (n = 0 ∧ b = false ∧ c = 0) ∨ (n ≠ 0 ∧ (n == 0) = false) ∨ (n = 0 ∧ b = true) ∨ (n = 0 ∧ b = false ∧ c ≠ 0 ∧ (c == 0) = false) := by
  rcases zero_or n with h | h <;> rcases zero_or c with j | j <;> cases b <;> simp_all
theorem bad_nsc (n : Int) (s : ByteArray) (c : Int) : (n = 0 ∧ s = ⟨#[]⟩ ∧ c = 0) ∨ (n ≠ 0 ∧ (n == 0) = false) ∨ (n = 0 ∧ s ≠ ⟨#[]⟩ ∧ (s.toList == []) = false) ∨ (n = 0 ∧ s = ⟨#[]⟩ ∧ c ≠ 0 ∧ (c == 0) = false) := by
  rcases zero_or n with h | h <;> rcases empty_or s with i | i <;> rcases zero_or c with j | j <;> simp_all
theorem bad_nsb (n : Int) (s : ByteArray) (b : Bool) : (n = 0 ∧ s = ⟨#[]⟩ ∧ b = false) ∨ (n ≠ 0 ∧ (n == 0) = false) ∨ (n = 0 ∧ s ≠ ⟨#[]⟩ ∧ (s.toList == []) = false) ∨ (n = 0 ∧ s = ⟨#[]⟩ ∧ b = true) := by
  rcases zero_or n with h | h <;> rcases empty_or s with i | i <;> cases b <;> simp_all
theorem kind_or (k : Int) : k = 0 ∨ k = 1 ∨ k = 2 ∨ k = 3 ∨ k = 4 ∨ ((k == 0) = false ∧ (k == 1) = false ∧ (k == 2) = false ∧ (k == 3) = false ∧ (k == 4) = false) := by
  by_cases h0 : k = 0 <;> by_cases h1 : k = 1 <;> by_cases h2 : k = 2 <;> by_cases h3 : k = 3 <;> by_cases h4 : k = 4 <;> simp_all
theorem right_none {k n : Int} {s : ByteArray} {b : Bool} {c : Int} (h : (k == 0) = false ∧ (k == 1) = false ∧ (k == 2) = false ∧ (k == 3) = false ∧ (k == 4) = false) : rightB k n s b c = false := by
  simp at h
  simp [rightB, h]
end
section
open Go.RowKit
/-- A byte, folded. -/
def foldB (c : UInt8) : UInt8 := if 97 ≤ c.toNat ∧ c.toNat ≤ 122 then c - 32 else c
/-- A text, folded. -/
def foldL (l : List UInt8) : List UInt8 := l.map foldB
theorem foldL_len (l : List UInt8) : (foldL l).length = l.length := by simp [foldL]
theorem foldB_in {c : UInt8} (h1 : 97 ≤ c.toNat) (h2 : c.toNat ≤ 122) : (foldB c).toNat = c.toNat - 32 := by
  unfold foldB
  rw [if_pos ⟨h1, h2⟩, UInt8.toNat_sub_of_le _ _ (by rw [UInt8.le_iff_toNat_le]; show 32 ≤ _; omega)]
  rfl
theorem foldB_out {c : UInt8} (h : ¬ (97 ≤ c.toNat ∧ c.toNat ≤ 122)) : foldB c = c := by
  unfold foldB; rw [if_neg h]
/-- A row of bytes lies in a block that may be written. -/
def RowB (w : World) (p : Nat) (l : List UInt8) : Prop :=
  p < w.heap.size ∧ ∀ j (hj : j < l.length), w.cell? ⟨p, j, none⟩ = some (.int .u8 (l[j].toNat : Int)) ∧ w.frozen? ⟨p, j, none⟩ = false
theorem RowB.block {w w' : World} {p : Nat} {l : List UInt8} (h : RowB w p l) (hs : w.heap.size ≤ w'.heap.size) (hb : w'.heap[p]? = w.heap[p]?) : RowB w' p l :=
  ⟨Nat.lt_of_lt_of_le h.1 hs, fun j hj => ⟨by rw [World.cell?_of_block (w := w) (a := ⟨p, j, none⟩) hb]; exact (h.2 j hj).1, by rw [World.frozen?_of_block (w := w) (a := ⟨p, j, none⟩) hb]; exact (h.2 j hj).2⟩⟩
theorem RowB.below {w w' : World} {p : Nat} {l : List UInt8} (h : RowB w p l) (q : Below w.heap.size w w') : RowB w' p l := h.block q.size (q.block p h.1)
theorem RowB.alloc {w : World} {p : Nat} {l : List UInt8} (h : RowB w p l) (o : Obj) : RowB (w.alloc o) p l := h.block (by simp) (Below.heap_alloc w o p h.1)
theorem RowB.iterAt {w : World} {p : Nat} {l : List UInt8} (h : RowB w p l) {k : Nat} (hk : p ≠ k) (s : ByteArray) (pos : Nat) : RowB (w.iterAt k s pos) p l :=
  h.block (by rw [Lib.iterAt_size]; exact Nat.le_refl _) (Lib.iterAt_other w k p s pos hk)
theorem RowB.set {w : World} {p : Nat} {l : List UInt8} (h : RowB w p l) {k : Nat} (hk : k < l.length) (c : UInt8) : RowB (w.setCell ⟨p, k, none⟩ (.int .u8 (c.toNat : Int))) p (l.set k c) := by
  refine ⟨by simpa using h.1, fun j hj => ?_⟩
  have hj' : j < l.length := by simpa using hj
  refine ⟨?_, by rw [World.frozen?_setCell]; exact (h.2 j hj').2⟩
  rw [List.getElem_set]
  by_cases e : k = j
  · subst e
    rw [if_pos rfl, World.cell?_setCell_same _ _ _ (h.2 k hk).1]
  · rw [if_neg e, World.cell?_setCell_other (h := show (⟨p, k, none⟩ : Addr) ≠ ⟨p, j, none⟩ from fun x => e (congrArg Addr.off x))]
    exact (h.2 j hj').1
/-- The first k bytes folded. -/
def foldTo (l : List UInt8) (k : Nat) : List UInt8 := foldL (l.take k) ++ l.drop k
theorem foldTo_len (l : List UInt8) (k : Nat) : (foldTo l k).length = l.length := by
  simp [foldTo, foldL]; omega
theorem foldTo_zero (l : List UInt8) : foldTo l 0 = l := by simp [foldTo, foldL]
theorem foldTo_all (l : List UInt8) {k : Nat} (h : l.length ≤ k) : foldTo l k = foldL l := by
  simp [foldTo, List.take_of_length_le h, List.drop_eq_nil_of_le h]
theorem foldTo_at (l : List UInt8) (k : Nat) (h : k < l.length) (h' : k < (foldTo l k).length) : (foldTo l k)[k] = l[k] := by
  have e : (foldL (l.take k)).length = k := by rw [foldL_len, List.length_take]; omega
  have : (foldTo l k)[k]? = l[k]? := by
    unfold foldTo
    rw [List.getElem?_append_right (by omega), e, Nat.sub_self, List.getElem?_drop, Nat.add_zero]
  rw [List.getElem?_eq_getElem h', List.getElem?_eq_getElem h] at this
  exact Option.some.inj this
theorem foldTo_step (l : List UInt8) (k : Nat) (h : k < l.length) : foldTo l (k + 1) = (foldTo l k).set k (foldB l[k]) := by
  have e : (foldL (l.take k)).length = k := by rw [foldL_len, List.length_take]; omega
  unfold foldTo
  rw [List.set_append_right _ _ (by omega), e, Nat.sub_self, List.drop_eq_getElem_cons h, List.set_cons_zero, List.take_succ_eq_append_getElem h]
  rw [show foldL (l.take k ++ [l[k]]) = foldL (l.take k) ++ [foldB l[k]] from List.map_append, List.append_assoc]
  rfl
theorem foldTo_skip (l : List UInt8) (k : Nat) (h : k < l.length) (hc : foldB l[k] = l[k]) : foldTo l (k + 1) = foldTo l k := by
  rw [foldTo_step l k h, hc, ← foldTo_at l k h (by rw [foldTo_len]; exact h), List.set_getElem_self]
theorem foldTo_more (l : List UInt8) (k : Nat) : ∀ d, (∀ j (hj : k + j < l.length), j < d → foldB l[k + j] = l[k + j]) → k + d ≤ l.length → foldTo l (k + d) = foldTo l k
  | 0, _, _ => rfl
  | d + 1, h, hl => by
    have hd : k + d < l.length := by omega
    rw [show k + (d + 1) = k + d + 1 from rfl, foldTo_skip l (k + d) hd (h d hd (by omega))]
    exact foldTo_more l k d (fun j hj hjd => h j hj (by omega)) (by omega)
/-- A rune that begins with a byte above 127: where it ends, and what its bytes are. -/
theorem decode_wide (s : ByteArray) (pos : Nat) (h : pos < s.size) (ha : 128 ≤ (s[pos]'h).toNat) :
    pos + (Utf8.decode s pos).2 ≤ s.size ∧ ∀ j, j < (Utf8.decode s pos).2 → 128 ≤ (s.get! (pos + j)).toNat := by
  have e0 : s.get! (pos + 0) = s[pos]'h := by
    show s.get! pos = _
    simp [ByteArray.get!, getElem!_pos, h]
    rfl
  have hn : ¬ (s.get! (pos + 0)).toNat < 128 := by rw [e0]; omega
  have hz : 128 ≤ (s.get! (pos + 0)).toNat := by omega
  simp only [Utf8.decode, hn, if_false]
  have one : pos + 1 ≤ s.size ∧ ∀ j, j < 1 → 128 ≤ (s.get! (pos + j)).toNat := by
    refine ⟨h, fun j hj => ?_⟩
    obtain rfl : j = 0 := by omega
    exact hz
  split
  · rename_i hc
    simp only [Bool.and_eq_true, beq_iff_eq, decide_eq_true_eq] at hc
    split
    · refine ⟨by omega, fun j hj => ?_⟩
      have : j = 0 ∨ j = 1 := by omega
      rcases this with rfl | rfl
      · exact hz
      · omega
    · exact one
  · split
    · rename_i hc
      simp only [Bool.and_eq_true, beq_iff_eq, decide_eq_true_eq] at hc
      split
      · refine ⟨by omega, fun j hj => ?_⟩
        have : j = 0 ∨ j = 1 ∨ j = 2 := by omega
        rcases this with rfl | rfl | rfl
        · exact hz
        · omega
        · omega
      · exact one
    · split
      · rename_i hc
        simp only [Bool.and_eq_true, beq_iff_eq, decide_eq_true_eq] at hc
        split
        · refine ⟨by omega, fun j hj => ?_⟩
          have : j = 0 ∨ j = 1 ∨ j = 2 ∨ j = 3 := by omega
          rcases this with rfl | rfl | rfl | rfl
          · exact hz
          · omega
          · omega
          · omega
        · exact one
      · exact one
theorem get_list (s : ByteArray) (j : Nat) (h : j < s.data.toList.length) : s.get! j = s.data.toList[j] := by
  have h' : j < s.size := by simpa using h
  simp [ByteArray.get!, getElem!_pos, h']
/-- A round over such a rune changes nothing. -/
theorem foldTo_wide (s : ByteArray) (pos : Nat) (h : pos < s.size) (ha : 128 ≤ (s[pos]'h).toNat) : foldTo s.data.toList (pos + (Utf8.decode s pos).2) = foldTo s.data.toList pos := by
  obtain ⟨h1, h2⟩ := decode_wide s pos h ha
  refine foldTo_more _ _ _ (fun j hj hd => ?_) (by simpa using h1)
  have := h2 j hd
  rw [get_list s (pos + j) hj] at this
  exact foldB_out (by omega)
/-- '[]byte(s)': a new row of the text's bytes. -/
theorem bytes_conv (s : ByteArray) (w : World) : ∃ (cap : Nat) (w1 : World), (convert 9 42 (.string s)).run Tryd.prog w = .ok (.slice (some ⟨w.heap.size, 0, none⟩) s.size cap) w1 ∧ Below w.heap.size w w1 ∧ RowB w1 w.heap.size s.data.toList ∧ w1.heap.size = w.heap.size + 1 := by
  refine ⟨_, _, run_bytes_of_string w 9 42 5 s Tryd.underlying9 Tryd.underlying42 Tryd.underlying5, ?_, ⟨by simp, fun j hj => ?_⟩, by simp⟩
  · exact ((Below.refl _ _).drew).alloc (Nat.le_refl _) _
  · have hj' : j < s.data.size := by simpa using hj
    refine ⟨?_, ?_⟩
    · have := World.cell?_alloc_mark w.drew (bytesRow s (grownCap w s.size 0 5)) 5 ((bytesRow s (grownCap w s.size 0 5)).size, (bytesRow s (grownCap w s.size 0 5)).size + 1) j
      rw [bytesRow_at s _ j hj'] at this
      exact this
    · have := World.frozen?_alloc_mark w.drew (bytesRow s (grownCap w s.size 0 5)) 5 (bytesRow s (grownCap w s.size 0 5)).size ((bytesRow s (grownCap w s.size 0 5)).size + 1) j
      have hl : j < (bytesRow s (grownCap w s.size 0 5)).size := by
        have hg := grownCap_ge w s.size 0 5
        have hq : s.data.size = s.size := rfl
        unfold bytesRow
        rw [Array.size_append, Array.size_map]
        omega
      rw [decide_eq_false (by omega)] at this
      exact this
/-- 'string(b)' of such a row. -/
theorem bytes_back (w : World) (p cap n : Nat) (l : List UInt8) (h : RowB w p l) (hn : n = l.length) : (convert 42 9 (.slice (some ⟨p, 0, none⟩) n cap)).run Tryd.prog w = .ok (.string ⟨l.toArray⟩) w := by
  subst hn
  refine run_convert_bytes_back w 42 9 5 ⟨p, 0, none⟩ cap l Tryd.underlying42 Tryd.underlying5 Tryd.underlying9 (fun j hj => ?_)
  have := (h.2 j hj).1
  have e : (⟨p, 0, none⟩ : Addr).add j = ⟨p, j, none⟩ := by
    by_cases h0 : j = 0
    · subst h0; simp [Addr.add]
    · simp [Addr.add, h0]
  rw [e]; exact this
end
section
open Go.RowKit
set_option maxHeartbeats 1000000 in
theorem fold_any (s : ByteArray) (w : World) :
    Calls Tryd.prog 12 #[.string s] w fun e w' => e = .returned (.string ⟨(foldL s.data.toList).toArray⟩) ∧ Below w.heap.size w w' := by
  obtain ⟨cap, w1, hconv, hb1, hr1, hz1⟩ := bytes_conv s w
  have HB1 := hide hb1
  have HR1 := hide hr1
  have hl : s.data.toList.length = s.size := by simp
  have HL := hide hl
  clear hb1 hr1 hl
  go_enter Tryd.func12, Tryd.ntmps12
  go_wp2
  go_loopw [4] (fun _ wr => ∃ pos : Nat, pos ≤ s.size ∧ Below w.heap.size w wr ∧ wr.heap[w.heap.size + 1]? = some (.stringIter s pos) ∧ RowB wr w.heap.size (foldTo s.data.toList pos)) (fun _ wr => s.size - wr.iterPos (w.heap.size + 1))
  case atStart =>
    refine ⟨0, Nat.zero_le _, HB1.out.alloc (by omega) _, ?_, by rw [foldTo_zero]; exact HR1.out.alloc _⟩
    have := World.iter_heap w1 s 0
    rw [hz1] at this
    exact this
  case round =>
    obtain ⟨pos, hk, hb, hit, hr⟩ := hrel
    clear hconv HB1 HR1
    have HB := hide hb
    have HR := hide hr
    have HI := hide hit
    clear hb hr hit
    by_cases hlt : pos < s.size
    · have hl := HL.out
      have hkl : pos < s.data.toList.length := by omega
      have hle : pos + (Utf8.decode s pos).2 ≤ s.size ∧ 1 ≤ (Utf8.decode s pos).2 := by
        by_cases ha : (s[pos]'hlt).toNat < 128
        · rw [decode_ascii s pos hlt ha]; exact ⟨hlt, Nat.le_refl _⟩
        · exact ⟨(decode_wide s pos hlt (by omega)).1, (decode_high s pos hlt (by omega)).2⟩
      have hnx : ∀ ty, (Instr.next (.pointer (some ⟨w.heap.size + 1, 0, none⟩)) true ty).run Tryd.prog wr = _ := fun ty => Lib.run_next_any_at wr (w.heap.size + 1) s pos ty HI.out hlt
      have HB2 := hide (Lib.below_iterAt HB.out (k := w.heap.size + 1) (by omega) s (pos + (Utf8.decode s pos).2))
      have HR2 := hide (HR.out.iterAt (k := w.heap.size + 1) (by omega) s (pos + (Utf8.decode s pos).2))
      have HI2 := hide (Lib.iterAt_heap wr (w.heap.size + 1) s pos (pos + (Utf8.decode s pos).2) HI.out)
      have HP := hide (show wr.iterPos (w.heap.size + 1) = pos by simp [World.iterPos, HI.out])
      generalize wr.iterAt (w.heap.size + 1) s (pos + (Utf8.decode s pos).2) = W2 at *
      have HP2 := hide (show W2.iterPos (w.heap.size + 1) = pos + (Utf8.decode s pos).2 by simp [World.iterPos, HI2.out])
      have hkf : pos < (foldTo s.data.toList pos).length := by rw [foldTo_len]; exact hkl
      have hcell := (HR2.out.2 pos hkf).1
      have hfz := (HR2.out.2 pos hkf).2
      rw [foldTo_at _ pos hkl] at hcell
      have hu : s.data.toList[pos].toNat < 256 := UInt8.toNat_lt _
      have e0 : s[pos] = s.data.toList[pos] := by rw [ByteArray.getElem_eq_getElem_data, Array.getElem_toList]
      by_cases hi : 97 ≤ s.data.toList[pos].toNat ∧ s.data.toList[pos].toNat ≤ 122
      · have hd : Utf8.decode s pos = (s.data.toList[pos].toNat, 1) := by rw [← e0]; exact decode_ascii s pos hlt (by rw [e0]; omega)
        rw [hd] at hnx HP2 HI2
        have HS := hide (foldTo_step s.data.toList pos hkl)
        clear hd e0 hle hl
        generalize s.data.toList[pos] = c at *
        have HF := hide hkf
        clear hkl hkf
        obtain ⟨i1, i2⟩ := hi
        have h1 : (97 : Int) ≤ c.toNat := by omega
        have h2 : (c.toNat : Int) ≤ 122 := by omega
        go_wp2
        have e : ((c.toNat : Int) - 32) = ((foldB c).toNat : Int) := by rw [foldB_in i1 i2]; omega
        go_roundw
        case rel =>
          refine ⟨pos + 1, hlt, HB2.out.setCell (Nat.le_refl _) _, ?_, by rw [HS.out, e]; exact HR2.out.set HF.out _⟩
          rw [Below.heap_setCell _ _ _ _ (show w.heap.size + 1 ≠ w.heap.size by omega)]
          exact HI2.out
        case measure =>
          have : (W2.setCell ⟨w.heap.size, pos, none⟩ (.int .u8 ((c.toNat : Int) - 32))).iterPos (w.heap.size + 1) = pos + 1 := by
            unfold World.iterPos
            rw [Below.heap_setCell _ _ _ _ (show w.heap.size + 1 ≠ w.heap.size by omega), HI2.out]
          rw [this, HP.out]; omega
      · have HK : Hid (foldTo s.data.toList (pos + (Utf8.decode s pos).2) = foldTo s.data.toList pos) := by
          by_cases ha : (s[pos]'hlt).toNat < 128
          · rw [decode_ascii s pos hlt ha]; exact foldTo_skip _ _ hkl (foldB_out hi)
          · exact foldTo_wide s pos hlt (by omega)
        have hd : ¬ (97 ≤ (Utf8.decode s pos).1 ∧ (Utf8.decode s pos).1 ≤ 122) := by
          by_cases ha : (s[pos]'hlt).toNat < 128
          · rw [decode_ascii s pos hlt ha, e0]; exact hi
          · have := (decode_high s pos hlt (by omega)).1; omega
        clear hi hcell hfz hu e0 hkl hkf hl
        obtain ⟨l1, l2⟩ := hle
        generalize (Utf8.decode s pos).1 = d at *
        generalize (Utf8.decode s pos).2 = m at *
        by_cases h1 : (97 : Int) ≤ (d : Int)
        · have h2 : ¬ (d : Int) ≤ 122 := by omega
          go_wp2
          go_roundw
          case rel => exact ⟨pos + m, l1, HB2.out, HI2.out, by rw [HK.out]; exact HR2.out⟩
          case measure => rw [HP2.out, HP.out]; omega
        · go_wp2
          go_roundw
          case rel => exact ⟨pos + m, l1, HB2.out, HI2.out, by rw [HK.out]; exact HR2.out⟩
          case measure => rw [HP2.out, HP.out]; omega
    · have hnx : ∀ ty, (Instr.next (.pointer (some ⟨w.heap.size + 1, 0, none⟩)) true ty).run Tryd.prog wr = _ := fun ty => Lib.run_next_end_at wr (w.heap.size + 1) s pos ty HI.out hlt
      have hbk := fun cap => bytes_back wr w.heap.size cap s.size _ HR.out (by rw [foldTo_len]; exact HL.out.symm)
      have HA := hide (foldTo_all s.data.toList (k := pos) (by have := HL.out; omega))
      go_wp2
      go_ret
      exact ⟨by rw [← HA.out]; rfl, HB.out⟩
end
section
open Go.RowKit
theorem right_cases {k n : Int} {s : ByteArray} {b : Bool} {c : Int} (h : rightB k n s b c = true) :
    (k = 0 ∧ n = 0 ∧ s = ⟨#[]⟩ ∧ b = false ∧ c = 0) ∨ (k = 1 ∧ fitsB n = true ∧ s = ⟨#[]⟩ ∧ b = false ∧ c = 0) ∨ (k = 2 ∧ n = 0 ∧ s.size ≤ 255 ∧ b = false ∧ c = 0) ∨ (k = 3 ∧ n = 0 ∧ s = ⟨#[]⟩ ∧ c = 0) ∨ (k = 4 ∧ n = 0 ∧ s = ⟨#[]⟩ ∧ b = false ∧ 1 ≤ c ∧ c ≤ 7) := by
  rcases kind_or k with rfl | rfl | rfl | rfl | rfl | hk
  · left; simp [rightB] at h; exact ⟨rfl, h.1.1.1, h.1.1.2, h.1.2, h.2⟩
  · right; left; simp [rightB] at h; exact ⟨rfl, h.1.1.1, h.1.1.2, h.1.2, h.2⟩
  · right; right; left; simp [rightB] at h; exact ⟨rfl, h.1.1.1, h.1.1.2, h.1.2, h.2⟩
  · right; right; right; left; simp [rightB] at h; exact ⟨rfl, h.1.1, h.1.2, h.2⟩
  · right; right; right; right; simp [rightB] at h; exact ⟨rfl, h.1.1.1.1, h.1.1.1.2, h.1.1.2, h.1.2, h.2⟩
  · rw [right_none hk] at h; cases h
/-- Check. -/
def checkV (k n : Int) (s : ByteArray) (b : Bool) (c : Int) : Int := if rightB k n s b c then 0 else 2
end
end Go.Proofs.YthooimaadgabiabDoor
