/-
  append of one row of tokens onto another.
-/
import Derived.Test.YtmmdflkjlhckhaaGreatDoorLxBare
namespace Go.Proofs.YtmmdflkjlhckhaaGreatDoor
open Go.RowKit Go.Shelf

theorem tok_one (us : List Tok) : ∀ u ∈ cellsT us, u.oneCell' = true := by
  intro u hu
  unfold cellsT at hu
  obtain ⟨t, _, ht⟩ := List.mem_flatMap.1 hu
  simp only [tokC, List.mem_cons, List.not_mem_nil, or_false] at ht
  rcases ht with rfl | rfl | rfl | rfl | rfl | rfl | rfl | rfl | rfl | rfl | rfl | rfl <;> rfl
/-- An append that is wanted (under a guard that says yes), by its run. -/
theorem wpList_append_run {P : Program} {w : World} {ops : Array Oper} {rest : List Oper} {o : Oper} {a : Act} {Q : Exit → Act → World → Prop} (hw : Region.wanted o (yielded ops a.tmps) = true) (s x : Operand) (t : TypeId)
    (hop : o.op = Op.call { callee := Callee.builtin Builtin.append, args := #[s, x], argTypes := #[t, t] }) {v v' v2 : Value} {w2 : World} (hs : a.eval s = v) (hx : a.eval x = v')
    (hrun : (Builtin.append_ #[t, t] o.type #[v, v']).run P w = .ok v2 w2) (hK : wpList P ops Q rest (a.put o.dst v2) w2) : wpList P ops Q (o :: rest) a w :=
  wpList_step fun K hK' => by
    rw [if_pos hw]
    unfold Oper.wp execOp
    simp only [hop, resolve, invoke, builtin, Sem.run_bind, Sem.run_pure, Result.andThen_ok, List.map_toArray, List.map_cons, List.map_nil, hs, hx, hrun]
    exact hK' _ _ hK
theorem append_rows {n n' : Nat} {w : World} {v v' : Value} {ts us : List Tok} (h : RowT n w v ts) (h' : RowT n' w v' us) (hl : ts.length + us.length ≤ 4000) (hn : n ≤ w.heap.size) :
    ∃ v2 w2, (Builtin.append_ #[22, 22] 22 #[v, v']).run Tryz.prog w = .ok v2 w2 ∧ RowT n w2 v2 (ts ++ us) ∧ Below n w w2 := by
  obtain ⟨i0, hi, hz0, hz1, hz2⟩ := info_parts info_tok
  have hlt := h.lt
  unfold RowT at h h'
  rcases h'.2 with ⟨rfl, hu0⟩ | ⟨g, cap, cur, rfl, hb, hg, _⟩
  · obtain rfl : us = [] := List.eq_nil_of_length_eq_zero hu0
    exact ⟨v, w, run_append_owned_none (P := Tryz.prog) w n 22 22 45 i0 12 Tryz.underlying22 hi v _ _ h, by rw [List.append_nil]; exact h, Below.refl _ _⟩
  · obtain ⟨v2, w2, hr, r1, r2, _⟩ := run_append_own (P := Tryz.prog) w n 22 22 45 i0 _ 12 104 Tryz.underlying22 hi hz0 hz1 hz2 rfl (by decide) v ts.length (cellsT ts) h ⟨g, 0, none⟩ us.length cap (cellsT us) (by rw [cells_len]; omega) (World.ownsRow.cells h' rfl) (tok_one us) (by unfold maxLen; omega) (by omega) hn
    refine ⟨v2, w2, hr, ?_, (Below.refl n w).grown r2 hn (fun k e => (hlt k e).1)⟩
    unfold RowT
    rw [List.length_append]
    unfold cellsT at *
    rw [List.flatMap_append]
    exact r1
end Go.Proofs.YtmmdflkjlhckhaaGreatDoor
