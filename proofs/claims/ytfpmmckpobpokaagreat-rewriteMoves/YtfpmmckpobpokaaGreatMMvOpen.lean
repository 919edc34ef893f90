/-
  An edit, a place, a rectangle that came in as arguments: what they are.
-/
import Derived.Test.YtfpmmckpobpokaaGreatProg
import Derived.ProofKit
import Derived.OpenShut
import Derived.WalkKit
import Derived.ChangeArms
set_option maxRecDepth 100000
set_option maxHeartbeats 4000000
namespace Go.Proofs.YtfpmmckpobpokaaGreat
open Go.ChangeShapes Go.WideShapes Go.ChangeAt Go.RowKit
theorem list_three {α : Type} {l : List α} (h : l.length = 3) : ∃ a b c, l = [a, b, c] := by
 rcases l with _ | ⟨a, _ | ⟨b, _ | ⟨c, _ | ⟨d, l⟩⟩⟩⟩
 all_goals first | exact ⟨_, _, _, rfl⟩ | (simp at h; done) | (simp at h; omega)
set_option linter.constructorNameAsVariable false in
theorem open_edit {H : Type} {enc : TypeId × Value → H} {W : World} {base : Nat} {sp : Nat → Bool} {held : Bool} {r : Reach} {b0 : Nat} {v : Value} {d : DataW H} {ps : List MemPlace}
  (hval : Value.okWide Tryz.prog W r b0 36 v) (hd : DataW.Trod enc Tryz.prog W base sp held 36 v d ps) :
  ∃ a b c : Int, v = .agg #[.int .i64 a, .int .i64 b, .int .i64 c] := by
 have hu := Tryz.underlying36
 simp only [Value.okWide, hu] at hval
 obtain ⟨cs, rfl, h2, _⟩ := hval
 obtain ⟨fuel, hf⟩ := hd
 obtain ⟨xs, n, rfl, hx, hl, hs, hfs⟩ := DataW.trod_struct hu hf
 have hc : Tryz.prog.cellsOf 36 = 3 := by kernel_rfl
 have h1 : Tryz.prog.cellsOf 3 = 1 := by kernel_rfl
 have h1k : Tryz.prog.cellsOf 34 = 1 := by kernel_rfl
 rw [hc] at h2
 obtain ⟨l⟩ := cs
 obtain ⟨c0, c1, c2, rfl⟩ := list_three h2
 have f0 := hfs 0 _ rfl
 have f1 := hfs 1 _ rfl
 have f2 := hfs 2 _ rfl
 simp only [Value.cells] at f0 f1 f2
 obtain ⟨x0, x1, x2, rfl⟩ := list_three hs
 obtain ⟨a0, e0, _, _⟩ := DataW.trod_int Tryz.underlying34 f0
 obtain ⟨a1, e1, _, _⟩ := DataW.trod_int Tryz.underlying3 f1
 obtain ⟨a2, e2, _, _⟩ := DataW.trod_int Tryz.underlying3 f2
 simp [h1, h1k] at e0 e1 e2
 subst e0; subst e1; subst e2
 exact ⟨a0, a1, a2, rfl⟩
end Go.Proofs.YtfpmmckpobpokaaGreat
