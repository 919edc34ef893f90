/-
  A value that came in as an argument: what it is.
-/
import Derived.Test.YtpghgjibpbimeaaGreatDoorProg
import Derived.ProofKit
import Derived.OpenShut
import Derived.WalkKit
import Derived.ChangeArms
namespace Go.Proofs.YtpghgjibpbimeaaGreatDoor
open Go.ChangeShapes Go.WideShapes Go.ChangeAt Go.RowKit

theorem list_five {α : Type} {l : List α} (h : l.length = 5) : ∃ a b c d e, l = [a, b, c, d, e] := by
  rcases l with _ | ⟨a, _ | ⟨b, _ | ⟨c, _ | ⟨d, _ | ⟨e, _ | ⟨f, l⟩⟩⟩⟩⟩⟩
  all_goals first | exact ⟨_, _, _, _, _, rfl⟩ | (simp at h; done) | (simp at h; omega)
set_option linter.constructorNameAsVariable false in
set_option maxRecDepth 100000 in
theorem open_value {H : Type} {enc : TypeId × Value → H} {W : World} {base : Nat} {sp : Nat → Bool} {held : Bool} {r : Reach} {b0 : Nat} {v : Value} {d : DataW H} {ps : List MemPlace}
    (hval : Value.okWide Tryz.prog W r b0 25 v) (hd : DataW.Trod enc Tryz.prog W base sp held 25 v d ps) :
    ∃ (k n : Int) (s : ByteArray) (b : Bool) (c : Int), v = .agg #[.int .i64 k, .int .i64 n, .string s, .bool b, .int .i64 c] ∧ s.size ≤ maxLen ∧ (Lit.int .i64 n).wf = true := by
  have hu := Tryz.underlying25
  simp only [Value.okWide, hu] at hval
  obtain ⟨cs, rfl, h2, _⟩ := hval
  obtain ⟨fuel, hf⟩ := hd
  obtain ⟨xs, n, rfl, hx, hl, hs, hfs⟩ := DataW.trod_struct hu hf
  have hc : Tryz.prog.cellsOf 25 = 5 := by kernel_rfl
  have h1 : Tryz.prog.cellsOf 3 = 1 := by kernel_rfl
  have h1k : Tryz.prog.cellsOf 22 = 1 := by kernel_rfl
  have h1c : Tryz.prog.cellsOf 23 = 1 := by kernel_rfl
  have h1s : Tryz.prog.cellsOf 9 = 1 := by kernel_rfl
  have h1b : Tryz.prog.cellsOf 4 = 1 := by kernel_rfl
  rw [hc] at h2
  obtain ⟨l⟩ := cs
  obtain ⟨c0, c1, c2, c3, c4, rfl⟩ := list_five h2
  have f0 := hfs 0 _ rfl
  have f1 := hfs 1 _ rfl
  have f2 := hfs 2 _ rfl
  have f3 := hfs 3 _ rfl
  have f4 := hfs 4 _ rfl
  simp only [Value.cells] at f0 f1 f2 f3 f4
  obtain ⟨x0, x1, x2, x3, x4, rfl⟩ := list_five hs
  obtain ⟨a0, e0, _, _⟩ := DataW.trod_int Tryz.underlying22 f0
  obtain ⟨a1, e1, _, w1⟩ := DataW.trod_int Tryz.underlying3 f1
  obtain ⟨a2, e2, _, w2⟩ := DataW.trod_string Tryz.underlying9 f2
  obtain ⟨a3, e3, _⟩ := DataW.trod_bool Tryz.underlying4 f3
  obtain ⟨a4, e4, _, _⟩ := DataW.trod_int Tryz.underlying23 f4
  simp [h1, h1k, h1c, h1s, h1b] at e0 e1 e2 e3 e4
  subst e0; subst e1; subst e2; subst e3; subst e4
  exact ⟨a0, a1, a2, a3, a4, rfl, w2, w1⟩
end Go.Proofs.YtpghgjibpbimeaaGreatDoor
