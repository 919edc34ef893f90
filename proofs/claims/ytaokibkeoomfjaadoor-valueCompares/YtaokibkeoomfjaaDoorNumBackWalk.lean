/-
  The walk of the law NumBack, out of its callees' contracts.
-/
import Derived.Test.YtaokibkeoomfjaaDoorTextMath
import Derived.Test.YtaokibkeoomfjaaDoorLives
namespace Go.Proofs.YtaokibkeoomfjaaDoor
open Go.RowKit

theorem parse_no {l : List UInt8} (h : (parseR l).2 ≠ 0) : (parseR l).1 = 0 := by
  unfold parseR at *
  split at h
  · rename_i c; rw [if_pos c]
  · rename_i c
    rw [if_neg c]
    split at h
    · rename_i c2
      rw [if_pos c2]
      unfold told at *
      split at h
      · exact absurd rfl h
      · rename_i c3; rw [if_neg c3]
    · rename_i c2; rw [if_neg c2]
theorem parse_yes {l : List UInt8} (h : (parseR l).2 = 0) : fitsB (parseR l).1 = true := by
  unfold parseR at *
  split at h
  · exact absurd h (by decide)
  · rename_i c
    rw [if_neg c]
    split at h
    · rename_i c2
      rw [if_pos c2]
      unfold told at *
      split at h
      · rename_i c3; rw [if_pos c3]; exact c3
      · exact absurd h (by decide)
    · exact absurd h (by decide)

/-- The cell that the search reads holds some number. -/
def CellOk (w : World) : Prop := ∃ m, w.cell? ⟨2, 0, none⟩ = some (.int .i64 m)
theorem cellOk_below {w w' : World} (h : CellOk w) (hb : Below w.heap.size w w') : CellOk w' := by
  obtain ⟨m, hm⟩ := h
  exact ⟨m, cell_later hb hm⟩
theorem text_size {n : Int} (h : fitsB n = true) : (⟨(textOf n).toArray⟩ : ByteArray).size ≤ maxLen := by
  obtain ⟨n1, n2⟩ := fitsB_true h
  have x0 := absI_nn n
  have x1 := absI_le n1 n2
  have hfl := (fracT_facts (absI n)).1
  have hdl := dec_len (u := (absI n / 1000000).toNat) (by omega)
  show (textOf n).toArray.size ≤ maxLen
  rw [List.size_toArray]
  unfold textOf maxLen
  rw [List.length_append, List.length_append]
  split <;> split <;> simp <;> omega
theorem parse_at (s : ByteArray) (w : World) (hc : CellOk w) (hs : s.size ≤ maxLen) :
    Calls Tryd.prog 48 #[.string s] w fun e w' => e = .returned (.tuple #[.int .i64 (parseR s.data.toList).1, .int .i64 (parseR s.data.toList).2]) ∧ Below w.heap.size w w' := by
  obtain ⟨m, hm⟩ := hc
  exact parse_any s w m hm hs
/-- Parse of what is written. -/
theorem parse_text {n : Int} (h : fitsB n = true) (w : World) (hc : CellOk w) :
    Calls Tryd.prog 48 #[.string ⟨(textOf n).toArray⟩] w fun e w' => e = .returned (.tuple #[.int .i64 n, .int .i64 0]) ∧ Below w.heap.size w w' := by
  have := parse_at ⟨(textOf n).toArray⟩ w hc (text_size h)
  rw [show (⟨(textOf n).toArray⟩ : ByteArray).data.toList = textOf n from rfl, parse_print h] at this
  exact this

end Go.Proofs.YtaokibkeoomfjaaDoor
