/-
  Laws for the answer's plain (made by plaingen2.py).
-/
import Derived.Test.YtijjnchedgllgaaDoorFmE0
import Derived.Test.YtijjnchedgllgaaDoorFmO
import Derived.Deep.RegionHeld3
namespace Go.Proofs.YtijjnchedgllgaaDoor
open Go.RowKit Go.Shelf

theorem run_kind (k : Int) (w : World) : (Instr.build 44 #[(0, .int .i64 k)]).run Tryd.prog w = .ok (.agg (hdC ⟨k, 0, 0, [], false, 0, 0, 0, false, false, 0, 0, false, false, []⟩ (.slice none 0 0)).toArray) w := run_build w _ _ _ (by kernel_rfl)
theorem wpl_newG {ops : Array Oper} {rest : List Oper} {o : Oper} {a : Act} {W w w0 : World} {m : Nat} {Q : Exit → Act → World → Prop} (hgd : o.guard = none) (x y : Operand) (ho : o.op = .store 44 x y)
    (hW : W = w.alloc (.cells (hdC zh (.slice none 0 0)).toArray 44)) (hz : w.heap.size = m) (hx : a.eval x = .pointer (some ⟨m, 0, none⟩)) {h : Hd} {pp : Option Addr} {n cap : Nat} (hy : a.eval y = .agg (hdC h (.slice pp n cap)).toArray) {b : Nat} {cs : List Value} (hb : Box w b cs) (hB : Below w0.heap.size w0 w)
    (hk : ∀ W2 : World, Box W2 b cs → Box W2 m (hdC h (.slice pp n cap)) → Below w0.heap.size w0 W2 → W2.heap.size = m + 1 → wpList Tryd.prog ops Q rest (a.put o.dst undef) W2) : wpList Tryd.prog ops Q (o :: rest) a W := by
  subst hz
  refine wpl_newN hgd x y ho hW hx hy (hk _ (hb.alloc _) (Box.new w _) ?_ (by simp))
  exact hB.alloc hB.size _
theorem wpl_loadAtG {ops : Array Oper} {rest : List Oper} {o : Oper} {a : Act} {w : World} {Q : Exit → Act → World → Prop} (hw : Region.wanted o (yielded ops a.tmps) = true) (x : Operand) (ho : o.op = .load 44 x)
    (b i : Nat) (hx : a.eval x = .pointer (some ⟨b, i, none⟩)) {h : Hd} {v : Value} (hc : ∀ j, j < 16 → w.cell? ⟨b, i + j, none⟩ = (hdC h v)[j]?)
    (hk : wpList Tryd.prog ops Q rest (a.put o.dst (.agg (hdC h v).toArray)) w) : wpList Tryd.prog ops Q (o :: rest) a w :=
  wpList_step fun K hK => by
    rw [if_pos hw]
    have hr : w.rangeAt b i (hdC h v) := fun j u hu => by
      have hj : j < 16 := (List.getElem?_eq_some_iff.1 hu).1
      rw [hc j hj]; exact hu
    refine wp_run (v := .agg (hdC h v).toArray) (w' := w) ?_ (hK _ _ hk)
    unfold execOp
    simp only [ho, hx, Instr.loadAt, Instr.sureAddr, Sem.run_bind, Sem.run_pure, Result.andThen_ok, run_loadVar_mid w b i 44 (hdC h v) _ hr Tryd.underlying44 rfl (by rw [sizeNode]; rfl)]
theorem node_cells {w : World} {b : Nat} {h : Hd} {v : Value} (k : Box w b (hdC h v)) : w.cell? ⟨b, 0, none⟩ = some (.int .i64 h.kind) ∧ w.cell? ⟨b, 1, none⟩ = some (.int .i64 h.vk) ∧ w.cell? ⟨b, 2, none⟩ = some (.int .i64 h.vn) ∧ w.cell? ⟨b, 3, none⟩ = some (.string ⟨h.vs.toArray⟩) ∧ w.cell? ⟨b, 4, none⟩ = some (.bool h.vb) ∧ w.cell? ⟨b, 5, none⟩ = some (.int .i64 h.vc) ∧ w.cell? ⟨b, 6, none⟩ = some (.int .i64 h.row) ∧ w.cell? ⟨b, 7, none⟩ = some (.int .i64 h.col) ∧ w.cell? ⟨b, 8, none⟩ = some (.bool h.fr) ∧ w.cell? ⟨b, 9, none⟩ = some (.bool h.fc) ∧ w.cell? ⟨b, 10, none⟩ = some (.int .i64 h.row2) ∧ w.cell? ⟨b, 11, none⟩ = some (.int .i64 h.col2) ∧ w.cell? ⟨b, 12, none⟩ = some (.bool h.fr2) ∧ w.cell? ⟨b, 13, none⟩ = some (.bool h.fc2) ∧ w.cell? ⟨b, 14, none⟩ = some (.string ⟨h.txt.toArray⟩) :=
  ⟨k.cell 0 _ rfl, k.cell 1 _ rfl, k.cell 2 _ rfl, k.cell 3 _ rfl, k.cell 4 _ rfl, k.cell 5 _ rfl, k.cell 6 _ rfl, k.cell 7 _ rfl, k.cell 8 _ rfl, k.cell 9 _ rfl, k.cell 10 _ rfl, k.cell 11 _ rfl, k.cell 12 _ rfl, k.cell 13 _ rfl, k.cell 14 _ rfl⟩
end Go.Proofs.YtijjnchedgllgaaDoor
