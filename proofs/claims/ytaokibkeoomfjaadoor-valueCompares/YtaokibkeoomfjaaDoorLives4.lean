/-
  The contract of layer 4's lives: the document's examples are told.
-/
import Derived.Test.YtaokibkeoomfjaaDoorShowRead
import Derived.Test.YtaokibkeoomfjaaDoorComp3
namespace Go.Proofs.YtaokibkeoomfjaaDoor
open Go.RowKit

/-- What the walks ask of the world: the table of powers of ten, the cell of the search, the table of names. -/
def Env (w : World) : Prop := TabOk w ∧ CellOk w ∧ NamesOk w
theorem Env.below {w w' : World} (h : Env w) (hb : Below w.heap.size w w') : Env w' := ⟨tab_below h.1 hb, cellOk_below h.2.1 hb, names_below h.2.2 hb⟩
theorem parse_75 : parseR [55, 46, 53] = (7500000, 0) := by decide
theorem parse_x : parseR [120] = (0, 5) := by decide
theorem parse_na : parseR [35, 78, 47, 65] = (0, 5) := by decide
theorem ex_1 : numberV 2 0 ⟨#[55, 46, 53]⟩ false 0 = (7500000, 0) := by
  rw [show numberV 2 0 ⟨#[55, 46, 53]⟩ false 0 = countR [55, 46, 53] by rfl, countR_yes (by rw [parse_75]), parse_75]
theorem ex_2 : numberV 2 0 ⟨#[120]⟩ false 0 = (0, 2) := by
  rw [show numberV 2 0 ⟨#[120]⟩ false 0 = countR [120] by rfl, countR_no (by rw [parse_x]; decide)]
theorem ex_3 : compareV 0 0 ⟨#[]⟩ false 0 1 0 ⟨#[]⟩ false 0 = (0, 0) := by decide
theorem ex_4 : compareV 2 0 ⟨#[97]⟩ false 0 2 0 ⟨#[66]⟩ false 0 = (-1, 0) := by decide
theorem ex_5 : readR [35, 78, 47, 65] = (⟨4, 0, [], false, 6⟩, 0) := read_fault (by decide) (by rw [parse_na]; decide) (by decide) (by decide)
theorem ex_6 : showV 1 7500000 ⟨#[]⟩ false 0 = ([55, 46, 53], 0) := by
  rw [show showV 1 7500000 ⟨#[]⟩ false 0 = (textOf 7500000, 0) by rfl, ex5]
theorem ex_7 : readR [55, 46, 53] = (⟨1, 7500000, [], false, 0⟩, 0) := by
  rw [read_num (by decide) (by rw [parse_75]), parse_75]

theorem l4_1 (w : World) (h : Env w) : Calls Tryd.prog 9 #[.agg #[.int .i64 2, .int .i64 0, .string ⟨#[55, 46, 53]⟩, .bool false, .int .i64 0]] w fun e w' => e = .returned (.tuple #[.int .i64 7500000, .int .i64 0]) ∧ Below w.heap.size w w' := by
  have := numberV_any 2 0 ⟨#[55, 46, 53]⟩ false 0 w h.2.1 (by decide)
  rw [ex_1] at this; exact this
theorem l4_2 (w : World) (h : Env w) : Calls Tryd.prog 9 #[.agg #[.int .i64 2, .int .i64 0, .string ⟨#[120]⟩, .bool false, .int .i64 0]] w fun e w' => e = .returned (.tuple #[.int .i64 0, .int .i64 2]) ∧ Below w.heap.size w w' := by
  have := numberV_any 2 0 ⟨#[120]⟩ false 0 w h.2.1 (by decide)
  rw [ex_2] at this; exact this
theorem l4_3 (w : World) : Calls Tryd.prog 18 #[.agg #[.int .i64 0, .int .i64 0, .string ⟨#[]⟩, .bool false, .int .i64 0], .agg #[.int .i64 1, .int .i64 0, .string ⟨#[]⟩, .bool false, .int .i64 0]] w fun e w' => e = .returned (.tuple #[.int .i64 0, .int .i64 0]) ∧ Below w.heap.size w w' := by
  have := compareV_any 0 0 ⟨#[]⟩ false 0 1 0 ⟨#[]⟩ false 0 w (by decide) (by decide)
  rw [ex_3] at this; exact this
theorem l4_4 (w : World) : Calls Tryd.prog 18 #[.agg #[.int .i64 2, .int .i64 0, .string ⟨#[97]⟩, .bool false, .int .i64 0], .agg #[.int .i64 2, .int .i64 0, .string ⟨#[66]⟩, .bool false, .int .i64 0]] w fun e w' => e = .returned (.tuple #[.int .i64 (-1), .int .i64 0]) ∧ Below w.heap.size w w' := by
  have := compareV_any 2 0 ⟨#[97]⟩ false 0 2 0 ⟨#[66]⟩ false 0 w (by decide) (by decide)
  rw [ex_4] at this; exact this
theorem l4_5 (w : World) (h : Env w) : Calls Tryd.prog 24 #[.string ⟨#[35, 78, 47, 65]⟩] w fun e w' => e = .returned (.tuple #[.agg #[.int .i64 4, .int .i64 0, .string ⟨#[]⟩, .bool false, .int .i64 6], .int .i64 0]) ∧ Below w.heap.size w w' := by
  have := readV_any ⟨#[35, 78, 47, 65]⟩ w h.2.1 h.2.2 (by decide)
  rw [show (⟨#[35, 78, 47, 65]⟩ : ByteArray).data.toList = [35, 78, 47, 65] from rfl, ex_5] at this; exact this
theorem l4_6 (w : World) (h : Env w) : Calls Tryd.prog 22 #[.agg #[.int .i64 1, .int .i64 7500000, .string ⟨#[]⟩, .bool false, .int .i64 0]] w fun e w' => e = .returned (.tuple #[.string ⟨#[55, 46, 53]⟩, .int .i64 0]) ∧ Below w.heap.size w w' := by
  have := showV_any 1 7500000 ⟨#[]⟩ false 0 w h.1 h.2.2 (by decide)
  rw [ex_6] at this; exact this
theorem l4_7 (w : World) (h : Env w) : Calls Tryd.prog 24 #[.string ⟨#[55, 46, 53]⟩] w fun e w' => e = .returned (.tuple #[.agg #[.int .i64 1, .int .i64 7500000, .string ⟨#[]⟩, .bool false, .int .i64 0], .int .i64 0]) ∧ Below w.heap.size w w' := by
  have := readV_any ⟨#[55, 46, 53]⟩ w h.2.1 h.2.2 (by decide)
  rw [show (⟨#[55, 46, 53]⟩ : ByteArray).data.toList = [55, 46, 53] from rfl, ex_7] at this; exact this
end Go.Proofs.YtaokibkeoomfjaaDoor
