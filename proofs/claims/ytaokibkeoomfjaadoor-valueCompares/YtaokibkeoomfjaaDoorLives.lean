/-
  The contract of lives: the document's examples are told.
-/
import Derived.Test.YtaokibkeoomfjaaDoorPrint
namespace Go.Proofs.YtaokibkeoomfjaaDoor
open Go.RowKit Go.Sort Go.Lib

theorem ex1 : mulR 500000 3 = (2, 0) := by decide
theorem ex2 : divR 1000000 3000000 = (333333, 0) := by decide
theorem ex3 : roundR 2500000 0 = (2000000, 0) := by decide
theorem ex4 : modR (-7000000) 3000000 = (2000000, 0) := by decide
theorem ex6 : divR 1 0 = (0, 4) := by decide
theorem ex5 : textOf 7500000 = [55, 46, 53] := by
  simp [textOf, absI, fracT, frac6, Lib.decDigits, Lib.trimRightB]

theorem lv_print (w : World) (ht : TabOk w) : Calls Tryd.prog 35 #[.int .i64 7500000] w fun e w' => e = .returned (.tuple #[.string ⟨#[55, 46, 53]⟩, .int .i64 0]) ∧ Below w.heap.size w w' := by
  have h := print_good 7500000 w (by decide) ht
  rw [ex5] at h; exact h

end Go.Proofs.YtaokibkeoomfjaaDoor
