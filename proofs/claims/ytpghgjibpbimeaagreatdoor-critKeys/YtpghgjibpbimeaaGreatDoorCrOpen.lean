/-
  A criterion that came in as an argument: what it is.
-/
import Derived.Test.YtpghgjibpbimeaaGreatDoorValOpen
namespace Go.Proofs.YtpghgjibpbimeaaGreatDoor
open Go.ChangeShapes Go.WideShapes Go.ChangeAt Go.RowKit

theorem list_six {α : Type} {l : List α} (h : l.length = 6) : ∃ a b c d e f, l = [a, b, c, d, e, f] := by
  rcases l with _ | ⟨a, _ | ⟨b, _ | ⟨c, _ | ⟨d, _ | ⟨e, _ | ⟨f, _ | ⟨g, l⟩⟩⟩⟩⟩⟩⟩
  all_goals first | exact ⟨_, _, _, _, _, _, rfl⟩ | (simp at h; done) | (simp at h; omega)
theorem list_two {α : Type} {l : List α} (h : l.length = 2) : ∃ a b, l = [a, b] := by
  rcases l with _ | ⟨a, _ | ⟨b, _ | ⟨c, l⟩⟩⟩
  all_goals first | exact ⟨_, _, rfl⟩ | (simp at h; done) | (simp at h; omega)
set_option linter.constructorNameAsVariable false in
set_option maxRecDepth 100000 in
theorem open_crit {H : Type} {enc : TypeId × Value → H} {W : World} {base : Nat} {sp : Nat → Bool} {held : Bool} {r : Reach} {b0 : Nat} {v : Value} {d : DataW H} {ps : List MemPlace}
    (hval : Value.okWide Tryz.prog W r b0 27 v) (hd : DataW.Trod enc Tryz.prog W base sp held 27 v d ps) :
    ∃ (g : ByteArray) (k n : Int) (s : ByteArray) (b : Bool) (c : Int), v = .agg #[.string g, .int .i64 k, .int .i64 n, .string s, .bool b, .int .i64 c] ∧ g.size ≤ maxLen ∧ s.size ≤ maxLen := by
  have hu := Tryz.underlying27
  simp only [Value.okWide, hu] at hval
  obtain ⟨cs, rfl, h2, _⟩ := hval
  obtain ⟨fuel, hf⟩ := hd
  obtain ⟨xs, n, rfl, hx, hl, hs, hfs⟩ := DataW.trod_struct hu hf
  have hc : Tryz.prog.cellsOf 27 = 6 := by kernel_rfl
  have hcv : Tryz.prog.cellsOf 25 = 5 := by kernel_rfl
  have h1 : Tryz.prog.cellsOf 3 = 1 := by kernel_rfl
  have h1k : Tryz.prog.cellsOf 22 = 1 := by kernel_rfl
  have h1c : Tryz.prog.cellsOf 23 = 1 := by kernel_rfl
  have h1s : Tryz.prog.cellsOf 9 = 1 := by kernel_rfl
  have h1b : Tryz.prog.cellsOf 4 = 1 := by kernel_rfl
  rw [hc] at h2
  obtain ⟨l⟩ := cs
  obtain ⟨c0, c1, c2, c3, c4, c5, rfl⟩ := list_six h2
  have f0 := hfs 0 _ rfl
  have f1 := hfs 1 _ rfl
  simp only [Value.cells] at f0 f1
  obtain ⟨x0, x1, rfl⟩ := list_two hs
  obtain ⟨ys, m, hy, hyx, hyl, hys, hgs⟩ := DataW.trod_struct Tryz.underlying25 f1
  obtain ⟨y0, y1, y2, y3, y4, rfl⟩ := list_five hys
  have g0 := hgs 0 _ rfl
  have g1 := hgs 1 _ rfl
  have g2 := hgs 2 _ rfl
  have g3 := hgs 3 _ rfl
  have g4 := hgs 4 _ rfl
  obtain ⟨a5, e5, _, w5⟩ := DataW.trod_string Tryz.underlying9 f0
  obtain ⟨a0, e0, _, _⟩ := DataW.trod_int Tryz.underlying22 g0
  obtain ⟨a1, e1, _, w1⟩ := DataW.trod_int Tryz.underlying3 g1
  obtain ⟨a2, e2, _, w2⟩ := DataW.trod_string Tryz.underlying9 g2
  obtain ⟨a3, e3, _⟩ := DataW.trod_bool Tryz.underlying4 g3
  obtain ⟨a4, e4, _, _⟩ := DataW.trod_int Tryz.underlying23 g4
  simp [h1, h1k, h1c, h1s, h1b, hcv] at e0 e1 e2 e3 e4 e5
  subst e0; subst e1; subst e2; subst e3; subst e4; subst e5
  exact ⟨a5, a0, a1, a2, a3, a4, rfl, w5, w2⟩
end Go.Proofs.YtpghgjibpbimeaaGreatDoor
