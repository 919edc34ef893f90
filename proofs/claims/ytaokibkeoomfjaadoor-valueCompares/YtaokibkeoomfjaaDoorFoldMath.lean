/-
  A text folded: each a to z is A to Z; a row of bytes in a block; runes of more than one byte have no byte of ASCII.
-/
import Derived.Test.YtaokibkeoomfjaaDoorSmall
import Derived.Lib.OthersKept
import Derived.Laws.IdiomStrings
namespace Go.Proofs.YtaokibkeoomfjaaDoor
open Go.RowKit

/-- A byte, folded. -/
def foldB (c : UInt8) : UInt8 := if 97 ≤ c.toNat ∧ c.toNat ≤ 122 then c - 32 else c
/-- A text, folded. -/
def foldL (l : List UInt8) : List UInt8 := l.map foldB
theorem foldL_len (l : List UInt8) : (foldL l).length = l.length := by simp [foldL]
theorem foldB_in {c : UInt8} (h1 : 97 ≤ c.toNat) (h2 : c.toNat ≤ 122) : (foldB c).toNat = c.toNat - 32 := by
  unfold foldB
  rw [if_pos ⟨h1, h2⟩, UInt8.toNat_sub_of_le _ _ (by rw [UInt8.le_iff_toNat_le]; show 32 ≤ _; omega)]
  rfl
theorem foldB_out {c : UInt8} (h : ¬ (97 ≤ c.toNat ∧ c.toNat ≤ 122)) : foldB c = c := by
  unfold foldB; rw [if_neg h]
theorem foldB_twice (c : UInt8) : foldB (foldB c) = foldB c := by
  by_cases h : 97 ≤ c.toNat ∧ c.toNat ≤ 122
  · have e := foldB_in h.1 h.2
    exact foldB_out (by omega)
  · rw [foldB_out h, foldB_out h]
theorem foldL_twice (l : List UInt8) : foldL (foldL l) = foldL l := by
  simp [foldL, foldB_twice]

/-- A row of bytes lies in a block that may be written. -/
def RowB (w : World) (p : Nat) (l : List UInt8) : Prop :=
  p < w.heap.size ∧ ∀ j (hj : j < l.length), w.cell? ⟨p, j, none⟩ = some (.int .u8 (l[j].toNat : Int)) ∧ w.frozen? ⟨p, j, none⟩ = false
theorem RowB.block {w w' : World} {p : Nat} {l : List UInt8} (h : RowB w p l) (hs : w.heap.size ≤ w'.heap.size) (hb : w'.heap[p]? = w.heap[p]?) : RowB w' p l :=
  ⟨Nat.lt_of_lt_of_le h.1 hs, fun j hj => ⟨by rw [World.cell?_of_block (w := w) (a := ⟨p, j, none⟩) hb]; exact (h.2 j hj).1, by rw [World.frozen?_of_block (w := w) (a := ⟨p, j, none⟩) hb]; exact (h.2 j hj).2⟩⟩
theorem RowB.below {w w' : World} {p : Nat} {l : List UInt8} (h : RowB w p l) (q : Below w.heap.size w w') : RowB w' p l := h.block q.size (q.block p h.1)
theorem RowB.alloc {w : World} {p : Nat} {l : List UInt8} (h : RowB w p l) (o : Obj) : RowB (w.alloc o) p l := h.block (by simp) (Below.heap_alloc w o p h.1)
theorem RowB.iterAt {w : World} {p : Nat} {l : List UInt8} (h : RowB w p l) {k : Nat} (hk : p ≠ k) (s : ByteArray) (pos : Nat) : RowB (w.iterAt k s pos) p l :=
  h.block (by rw [Lib.iterAt_size]; exact Nat.le_refl _) (Lib.iterAt_other w k p s pos hk)
theorem RowB.set {w : World} {p : Nat} {l : List UInt8} (h : RowB w p l) {k : Nat} (hk : k < l.length) (c : UInt8) : RowB (w.setCell ⟨p, k, none⟩ (.int .u8 (c.toNat : Int))) p (l.set k c) := by
  refine ⟨by simpa using h.1, fun j hj => ?_⟩
  have hj' : j < l.length := by simpa using hj
  refine ⟨?_, by rw [World.frozen?_setCell]; exact (h.2 j hj').2⟩
  rw [List.getElem_set]
  by_cases e : k = j
  · subst e
    rw [if_pos rfl, World.cell?_setCell_same _ _ _ (h.2 k hk).1]
  · rw [if_neg e, World.cell?_setCell_other (h := show (⟨p, k, none⟩ : Addr) ≠ ⟨p, j, none⟩ from fun x => e (congrArg Addr.off x))]
    exact (h.2 j hj').1

/-- The first k bytes folded. -/
def foldTo (l : List UInt8) (k : Nat) : List UInt8 := foldL (l.take k) ++ l.drop k
theorem foldTo_len (l : List UInt8) (k : Nat) : (foldTo l k).length = l.length := by
  simp [foldTo, foldL]; omega
theorem foldTo_zero (l : List UInt8) : foldTo l 0 = l := by simp [foldTo, foldL]
theorem foldTo_all (l : List UInt8) {k : Nat} (h : l.length ≤ k) : foldTo l k = foldL l := by
  simp [foldTo, List.take_of_length_le h, List.drop_eq_nil_of_le h]
theorem foldTo_at (l : List UInt8) (k : Nat) (h : k < l.length) (h' : k < (foldTo l k).length) : (foldTo l k)[k] = l[k] := by
  have e : (foldL (l.take k)).length = k := by rw [foldL_len, List.length_take]; omega
  have : (foldTo l k)[k]? = l[k]? := by
    unfold foldTo
    rw [List.getElem?_append_right (by omega), e, Nat.sub_self, List.getElem?_drop, Nat.add_zero]
  rw [List.getElem?_eq_getElem h', List.getElem?_eq_getElem h] at this
  exact Option.some.inj this
theorem foldTo_step (l : List UInt8) (k : Nat) (h : k < l.length) : foldTo l (k + 1) = (foldTo l k).set k (foldB l[k]) := by
  have e : (foldL (l.take k)).length = k := by rw [foldL_len, List.length_take]; omega
  unfold foldTo
  rw [List.set_append_right _ _ (by omega), e, Nat.sub_self, List.drop_eq_getElem_cons h, List.set_cons_zero, List.take_succ_eq_append_getElem h]
  rw [show foldL (l.take k ++ [l[k]]) = foldL (l.take k) ++ [foldB l[k]] from List.map_append, List.append_assoc]
  rfl
theorem foldTo_skip (l : List UInt8) (k : Nat) (h : k < l.length) (hc : foldB l[k] = l[k]) : foldTo l (k + 1) = foldTo l k := by
  rw [foldTo_step l k h, hc, ← foldTo_at l k h (by rw [foldTo_len]; exact h), List.set_getElem_self]
theorem foldTo_more (l : List UInt8) (k : Nat) : ∀ d, (∀ j (hj : k + j < l.length), j < d → foldB l[k + j] = l[k + j]) → k + d ≤ l.length → foldTo l (k + d) = foldTo l k
  | 0, _, _ => rfl
  | d + 1, h, hl => by
    have hd : k + d < l.length := by omega
    rw [show k + (d + 1) = k + d + 1 from rfl, foldTo_skip l (k + d) hd (h d hd (by omega))]
    exact foldTo_more l k d (fun j hj hjd => h j hj (by omega)) (by omega)

/-- A rune that begins with a byte above 127: where it ends, and what its bytes are. -/
theorem decode_wide (s : ByteArray) (pos : Nat) (h : pos < s.size) (ha : 128 ≤ (s[pos]'h).toNat) :
    pos + (Utf8.decode s pos).2 ≤ s.size ∧ ∀ j, j < (Utf8.decode s pos).2 → 128 ≤ (s.get! (pos + j)).toNat := by
  have e0 : s.get! (pos + 0) = s[pos]'h := by
    show s.get! pos = _
    simp [ByteArray.get!, getElem!_pos, h]
    rfl
  have hn : ¬ (s.get! (pos + 0)).toNat < 128 := by rw [e0]; omega
  have hz : 128 ≤ (s.get! (pos + 0)).toNat := by omega
  simp only [Utf8.decode, hn, if_false]
  have one : pos + 1 ≤ s.size ∧ ∀ j, j < 1 → 128 ≤ (s.get! (pos + j)).toNat := by
    refine ⟨h, fun j hj => ?_⟩
    obtain rfl : j = 0 := by omega
    exact hz
  split
  · rename_i hc
    simp only [Bool.and_eq_true, beq_iff_eq, decide_eq_true_eq] at hc
    split
    · refine ⟨by omega, fun j hj => ?_⟩
      have : j = 0 ∨ j = 1 := by omega
      rcases this with rfl | rfl
      · exact hz
      · omega
    · exact one
  · split
    · rename_i hc
      simp only [Bool.and_eq_true, beq_iff_eq, decide_eq_true_eq] at hc
      split
      · refine ⟨by omega, fun j hj => ?_⟩
        have : j = 0 ∨ j = 1 ∨ j = 2 := by omega
        rcases this with rfl | rfl | rfl
        · exact hz
        · omega
        · omega
      · exact one
    · split
      · rename_i hc
        simp only [Bool.and_eq_true, beq_iff_eq, decide_eq_true_eq] at hc
        split
        · refine ⟨by omega, fun j hj => ?_⟩
          have : j = 0 ∨ j = 1 ∨ j = 2 ∨ j = 3 := by omega
          rcases this with rfl | rfl | rfl | rfl
          · exact hz
          · omega
          · omega
          · omega
        · exact one
      · exact one
theorem get_list (s : ByteArray) (j : Nat) (h : j < s.data.toList.length) : s.get! j = s.data.toList[j] := by
  have h' : j < s.size := by simpa using h
  simp [ByteArray.get!, getElem!_pos, h']
/-- A round over such a rune changes nothing. -/
theorem foldTo_wide (s : ByteArray) (pos : Nat) (h : pos < s.size) (ha : 128 ≤ (s[pos]'h).toNat) : foldTo s.data.toList (pos + (Utf8.decode s pos).2) = foldTo s.data.toList pos := by
  obtain ⟨h1, h2⟩ := decode_wide s pos h ha
  refine foldTo_more _ _ _ (fun j hj hd => ?_) (by simpa using h1)
  have := h2 j hd
  rw [get_list s (pos + j) hj] at this
  exact foldB_out (by omega)

/-- '[]byte(s)': a new row of the text's bytes. -/
theorem bytes_conv (s : ByteArray) (w : World) : ∃ (cap : Nat) (w1 : World), (convert 9 78 (.string s)).run Tryd.prog w = .ok (.slice (some ⟨w.heap.size, 0, none⟩) s.size cap) w1 ∧ Below w.heap.size w w1 ∧ RowB w1 w.heap.size s.data.toList ∧ w1.heap.size = w.heap.size + 1 := by
  refine ⟨_, _, run_bytes_of_string w 9 78 5 s Tryd.underlying9 Tryd.underlying78 Tryd.underlying5, ?_, ⟨by simp, fun j hj => ?_⟩, by simp⟩
  · exact ((Below.refl _ _).drew).alloc (Nat.le_refl _) _
  · have hj' : j < s.data.size := by simpa using hj
    refine ⟨?_, ?_⟩
    · have := World.cell?_alloc_mark w.drew (bytesRow s (grownCap w s.size 0 5)) 5 ((bytesRow s (grownCap w s.size 0 5)).size, (bytesRow s (grownCap w s.size 0 5)).size + 1) j
      rw [bytesRow_at s _ j hj'] at this
      exact this
    · have := World.frozen?_alloc_mark w.drew (bytesRow s (grownCap w s.size 0 5)) 5 (bytesRow s (grownCap w s.size 0 5)).size ((bytesRow s (grownCap w s.size 0 5)).size + 1) j
      have hl : j < (bytesRow s (grownCap w s.size 0 5)).size := by
        have hg := grownCap_ge w s.size 0 5
        have hq : s.data.size = s.size := rfl
        unfold bytesRow
        rw [Array.size_append, Array.size_map]
        omega
      rw [decide_eq_false (by omega)] at this
      exact this
/-- 'string(b)' of such a row. -/
theorem bytes_back (w : World) (p cap n : Nat) (l : List UInt8) (h : RowB w p l) (hn : n = l.length) : (convert 78 9 (.slice (some ⟨p, 0, none⟩) n cap)).run Tryd.prog w = .ok (.string ⟨l.toArray⟩) w := by
  subst hn
  refine run_convert_bytes_back w 78 9 5 ⟨p, 0, none⟩ cap l Tryd.underlying78 Tryd.underlying5 Tryd.underlying9 (fun j hj => ?_)
  have := (h.2 j hj).1
  have e : (⟨p, 0, none⟩ : Addr).add j = ⟨p, j, none⟩ := by
    by_cases h0 : j = 0
    · subst h0; simp [Addr.add]
    · simp [Addr.add, h0]
  rw [e]; exact this
end Go.Proofs.YtaokibkeoomfjaaDoor
