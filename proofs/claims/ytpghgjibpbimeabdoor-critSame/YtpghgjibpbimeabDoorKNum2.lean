/-
  Out of RefParse, NumBackWalk, NumTextsWalk, what is asked for (laid by pack9.py).
-/
import Derived.Test.YtpghgjibpbimeabDoorKNum
import Derived.BigCall
import Derived.BigGuard
import Derived.BigQuiet
import Derived.Deep.QuietTactic
import Derived.Deep.RegionWith
import Derived.Laws.EntriesVeiled
import Derived.Lib.AppendIntMem
import Derived.Lib.IndexMore
import Derived.Lib.ItoaMem
import Derived.Lib.SmallJoins
import Derived.Lib.Walk
import Derived.WalkKit
import Derived.WalkLawsBesides
import Derived.WalkSpells
import Derived.WideShapes
namespace Go.Proofs.YtpghgjibpbimeabDoor
section
open Go.RowKit
theorem all_take_lead (r : List UInt8) {k : Nat} (h : k ≤ lead r) : (r.take k).all isDig = true := by
  have h1 := lead_dig r
  rw [List.all_eq_true] at *
  intro x hx
  refine h1 x ?_
  rw [show r.take k = (r.take (lead r)).take k from by rw [List.take_take, Nat.min_eq_left h]] at hx
  exact List.mem_of_mem_take hx
theorem body_zero {neg : Bool} {r : List UInt8} (h : lead r = 0) : bodyR neg r = (0, 5) := by
  match r, h with
  | [], _ => exact body_empty
  | c :: X, h =>
    have hs := lead_stop (r := c :: X) (by rw [h]; simp)
    rw [h] at hs
    have hc : isDig c = false := hs
    by_cases e : c = 46
    · subst e; exact body_dot0
    · exact body_bad (W := []) rfl hc e
theorem drop_getD (r : List UInt8) (a m : Nat) : r.getD (a + m) 0 = (r.drop a).getD m 0 := by
  rw [List.getD_eq_getElem?_getD, List.getD_eq_getElem?_getD, List.getElem?_drop]
theorem p10_div {m : Nat} (h : m < 6) : p10 (6 - m) / 10 = p10 (5 - m) ∧ p10 (6 - m) = p10 (5 - m) * 10 ∧ p10 (5 - m) ≤ 100000 := by
  have : m = 0 ∨ m = 1 ∨ m = 2 ∨ m = 3 ∨ m = 4 ∨ m = 5 := by omega
  rcases this with h | h | h | h | h | h <;> subst h <;> decide
theorem frac_bd {F : List UInt8} {m : Nat} (hm : m ≤ F.length) (h6 : F.length ≤ 6) (h : (F.take m).all isDig = true) : 0 ≤ val (F.take m) * p10 (6 - m) ∧ val (F.take m) * p10 (6 - m) ≤ 1000000 := by
  have hb := val_bd h
  rw [List.length_take, Nat.min_eq_left hm] at hb
  have hp := p10_pos (6 - m)
  refine ⟨Int.mul_nonneg hb.1 (by omega), ?_⟩
  have h1 : val (F.take m) * p10 (6 - m) ≤ p10 m * p10 (6 - m) := Int.mul_le_mul_of_nonneg_right (by omega) (by omega)
  have h2 : p10 m * p10 (6 - m) = 1000000 := by
    have : m = 0 ∨ m = 1 ∨ m = 2 ∨ m = 3 ∨ m = 4 ∨ m = 5 ∨ m = 6 := by omega
    rcases this with h | h | h | h | h | h | h <;> subst h <;> decide
  omega
theorem split_at {r : List UInt8} (h : lead r < r.length) : r = r.take (lead r) ++ r.getD (lead r) 0 :: r.drop (lead r + 1) := by
  have h1 := take_getD r (lead r) h
  have h2 := List.take_append_drop (lead r + 1) r
  rw [h1, List.append_assoc, List.singleton_append] at h2
  exact h2.symm
end
section
open Go.RowKit
/-- The cell that the search reads holds some number. -/
def CellOk (w : World) : Prop := ∃ m, w.cell? ⟨2, 0, none⟩ = some (.int .i64 m)
theorem cellOk_below {w w' : World} (h : CellOk w) (hb : Below w.heap.size w w') : CellOk w' := by
  obtain ⟨m, hm⟩ := h
  exact ⟨m, cell_later hb hm⟩
theorem parse_at (s : ByteArray) (w : World) (hc : CellOk w) (hs : s.size ≤ maxLen) :
    Calls Tryd.prog 43 #[.string s] w fun e w' => e = .returned (.tuple #[.int .i64 (parseR s.data.toList).1, .int .i64 (parseR s.data.toList).2]) ∧ Below w.heap.size w w' := by
  obtain ⟨m, hm⟩ := hc
  exact parse_any s w m hm hs
end
section
open Go.RowKit
end
end Go.Proofs.YtpghgjibpbimeabDoor
