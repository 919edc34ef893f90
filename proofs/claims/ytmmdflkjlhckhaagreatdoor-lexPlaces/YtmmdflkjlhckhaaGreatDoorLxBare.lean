/-
  The contracts of the statements' bare and same (and of the answer's Same): rows of tokens.
-/
import Derived.Test.YtmmdflkjlhckhaaGreatDoorLxLives
import Derived.BigQuiet
import Derived.Deep.QuietTactic
namespace Go.Proofs.YtmmdflkjlhckhaaGreatDoor
open Go.RowKit Go.Shelf

/-- Tokens without their places, and without the end. -/
def bareT (ts : List Tok) : List Tok := (ts.take (ts.length - 1)).map fun u => u.put 0
set_option maxRecDepth 100000 in
set_option maxHeartbeats 4000000 in
theorem bare_any (v : Value) (ts : List Tok) (w : World) (hr : Rd w v ts) (hn : ts.length ≤ 2000) :
    Calls Tryz.prog 13 #[v] w fun e w' => ∃ v', e = .returned v' ∧ RowT w.heap.size w' v' (bareT ts) ∧ Below w.heap.size w w' := by
  obtain ⟨i0, hi, hz0, hz1, hz2⟩ := info_parts info_tok
  rcases hr with ⟨rfl, rfl⟩ | ⟨g, o, cap, rfl, hc1, hc2, hg, hcell⟩
  · go_enter Tryz.func13, Tryz.ntmps13
    go_wp2
    go_loopw [3, 4] (fun ov iv wr => ov = .slice none 0 0 ∧ iv = .int .i64 0 ∧ wr = w) (fun _ _ _ => 0)
    case atStart => exact ⟨rfl, rfl, rfl⟩
    case round =>
      obtain ⟨rfl, rfl, rfl⟩ := hrel
      go_wp2
      go_ret
      exact ⟨_, rfl, World.ownsRow_nil _ _ _ _, Below.refl _ _⟩
  · have HC := hide hcell
    clear hcell
    unfold maxLen at hc2
    go_enter Tryz.func13, Tryz.ntmps13
    go_wp2
    go_loopw [3, 4] (fun ov iv wr => ∃ k : Nat, k + 1 ≤ ts.length + 1 ∧ k + 1 ≤ max ts.length 1 ∧ iv = .int .i64 k ∧ RowT w.heap.size wr ov ((ts.take k).map fun u => u.put 0) ∧ Below w.heap.size w wr) (fun _ iv _ => ts.length - (intOf iv).toNat)
    case atStart => exact ⟨0, by omega, by omega, rfl, World.ownsRow_nil _ _ _ _, Below.refl _ _⟩
    case round =>
      obtain ⟨k, hk1, hk2, rfl, hrow, hB⟩ := hrel
      by_cases hlt : k + 1 < ts.length
      · have g1 : (k : Int) + 1 < ts.length := by omega
        obtain ⟨u, hu⟩ : ∃ u, ts[k]? = some u := ⟨ts[k]'(by omega), List.getElem?_eq_getElem (by omega)⟩
        obtain ⟨t0, t1, t2, t3, t4, t5, t6, t7, t8, t9, t10, t11⟩ := u
        obtain ⟨T3, hT3⟩ : ∃ T : ByteArray, (⟨t3.toArray⟩ : ByteArray) = T := ⟨_, rfl⟩
        obtain ⟨T10, hT10⟩ : ∃ T : ByteArray, (⟨t10.toArray⟩ : ByteArray) = T := ⟨_, rfl⟩
        have d0 : wr.cell? ⟨g, o + k * 12, none⟩ = some (.int .i64 t0) := by rw [hB.cell (p := ⟨g, o + k * 12, none⟩) hg, show o + k * 12 = o + 12 * k + 0 by omega, HC.out k _ hu 0 (by omega)]; rfl
        have d1 : wr.cell? ⟨g, o + k * 12 + 1, none⟩ = some (.int .i64 t1) := by rw [hB.cell (p := ⟨g, o + k * 12 + 1, none⟩) hg, show o + k * 12 + 1 = o + 12 * k + 1 by omega, HC.out k _ hu 1 (by omega)]; rfl
        have d2 : wr.cell? ⟨g, o + k * 12 + 2, none⟩ = some (.int .i64 t2) := by rw [hB.cell (p := ⟨g, o + k * 12 + 2, none⟩) hg, show o + k * 12 + 2 = o + 12 * k + 2 by omega, HC.out k _ hu 2 (by omega)]; rfl
        have d3 : wr.cell? ⟨g, o + k * 12 + 3, none⟩ = some (.string T3) := by rw [hB.cell (p := ⟨g, o + k * 12 + 3, none⟩) hg, show o + k * 12 + 3 = o + 12 * k + 3 by omega, HC.out k _ hu 3 (by omega), ← hT3]; rfl
        have d4 : wr.cell? ⟨g, o + k * 12 + 4, none⟩ = some (.bool t4) := by rw [hB.cell (p := ⟨g, o + k * 12 + 4, none⟩) hg, show o + k * 12 + 4 = o + 12 * k + 4 by omega, HC.out k _ hu 4 (by omega)]; rfl
        have d5 : wr.cell? ⟨g, o + k * 12 + 5, none⟩ = some (.int .i64 t5) := by rw [hB.cell (p := ⟨g, o + k * 12 + 5, none⟩) hg, show o + k * 12 + 5 = o + 12 * k + 5 by omega, HC.out k _ hu 5 (by omega)]; rfl
        have d6 : wr.cell? ⟨g, o + k * 12 + 6, none⟩ = some (.int .i64 t6) := by rw [hB.cell (p := ⟨g, o + k * 12 + 6, none⟩) hg, show o + k * 12 + 6 = o + 12 * k + 6 by omega, HC.out k _ hu 6 (by omega)]; rfl
        have d7 : wr.cell? ⟨g, o + k * 12 + 7, none⟩ = some (.int .i64 t7) := by rw [hB.cell (p := ⟨g, o + k * 12 + 7, none⟩) hg, show o + k * 12 + 7 = o + 12 * k + 7 by omega, HC.out k _ hu 7 (by omega)]; rfl
        have d8 : wr.cell? ⟨g, o + k * 12 + 8, none⟩ = some (.bool t8) := by rw [hB.cell (p := ⟨g, o + k * 12 + 8, none⟩) hg, show o + k * 12 + 8 = o + 12 * k + 8 by omega, HC.out k _ hu 8 (by omega)]; rfl
        have d9 : wr.cell? ⟨g, o + k * 12 + 9, none⟩ = some (.bool t9) := by rw [hB.cell (p := ⟨g, o + k * 12 + 9, none⟩) hg, show o + k * 12 + 9 = o + 12 * k + 9 by omega, HC.out k _ hu 9 (by omega)]; rfl
        have d10 : wr.cell? ⟨g, o + k * 12 + 10, none⟩ = some (.string T10) := by rw [hB.cell (p := ⟨g, o + k * 12 + 10, none⟩) hg, show o + k * 12 + 10 = o + 12 * k + 10 by omega, HC.out k _ hu 10 (by omega), ← hT10]; rfl
        have d11 : wr.cell? ⟨g, o + k * 12 + 11, none⟩ = some (.int .i64 t11) := by rw [hB.cell (p := ⟨g, o + k * 12 + 11, none⟩) hg, show o + k * 12 + 11 = o + 12 * k + 11 by omega, HC.out k _ hu 11 (by omega)]; rfl
        have hS : (ts.take (k + 1)).map (fun u => u.put 0) = (ts.take k).map (fun u => u.put 0) ++ [Tok.put ⟨t0, t1, t2, t3, t4, t5, t6, t7, t8, t9, t10, t11⟩ 0] := by
          have hk' : k < ts.length := by omega
          rw [List.take_succ_eq_append_getElem hk', List.map_append, (List.getElem?_eq_some_iff.1 hu).2]
          rfl
        have HS := hide hS
        have HT3 := hide hT3
        have HT10 := hide hT10
        have hbs := hB.size
        have hrl : ((ts.take k).map fun u => u.put 0).length = k := by rw [List.length_map, List.length_take]; omega
        have hown : wr.ownsRow w.heap.size 45 12 u3 k (cellsT ((ts.take k).map fun u => u.put 0)) := by
          have := hrow
          unfold RowT at this
          rw [hrl] at this
          exact this
        obtain ⟨XS, hXS⟩ : ∃ XS, cellsT ((ts.take k).map fun u => u.put 0) = XS := ⟨_, rfl⟩
        rw [hXS] at hown
        have HXS := hide hXS
        clear hS hT3 hT10 hu hrow hrl hXS
        go_wp2_with (first
          | (at_builtin; refine wpList_append_own _ rfl _ _ 22 rfl w.heap.size 45 i0 (.agg #[.int .i64 0, .int .i64 0, .int .i64 0, .string ⟨#[]⟩, .bool false, .int .i64 0, .int .i64 0, .int .i64 0, .bool false, .bool false, .string ⟨#[]⟩, .int .i64 0]) 12 104 Tryz.underlying22 hi hz0 hz1 hz2 rfl (by decide) _ _ _ rfl ((hown.alloc _).alloc _) ⟨wr.heap.size + 1, 0, none⟩ 1 1 [.int .i64 t0, .int .i64 t1, .int .i64 t2, .string T3, .bool t4, .int .i64 t5, .int .i64 t6, .int .i64 t7, .bool t8, .bool t9, .string T10, .int .i64 0] rfl rfl ?c1 ?c2 ?c3 ?c4 ?c5 ?_)
          | go_in)
        case c1 =>
          intro j u hj
          have := cells_new (wr.alloc (.cells #[.int .i64 t0, .int .i64 t1, .int .i64 t2, .string T3, .bool t4, .int .i64 t5, .int .i64 t6, .int .i64 t7, .bool t8, .bool t9, .string T10, .int .i64 0] 45)) #[.int .i64 t0, .int .i64 t1, .int .i64 t2, .string T3, .bool t4, .int .i64 t5, .int .i64 t6, .int .i64 t7, .bool t8, .bool t9, .string T10, .int .i64 0] 45 j u hj
          rw [World.size_alloc] at this
          exact this
        case c2 => simp [Value.oneCell']
        case c3 => unfold maxLen; omega
        case c4 => omega
        case c5 => simp; omega
        intro v' w1 hown' hgrow _
        have hB1 : Below w.heap.size w w1 := (((hB.alloc hbs _).alloc (by simp; omega) _).grown hgrow (by simp; omega) (fun j hj => (hown.lt j hj).1))
        have R : RowT w.heap.size w1 v' ((ts.take (k + 1)).map fun u => u.put 0) := by
          have hln : ((ts.take (k + 1)).map fun u => u.put 0).length = k + 1 := by rw [List.length_map, List.length_take]; omega
          unfold RowT
          rw [hln, HS.out]
          unfold cellsT
          rw [List.flatMap_append]
          have := hown'
          rw [← HXS.out, ← HT3.out, ← HT10.out] at this
          exact this
        clear hown' hgrow
        obtain ⟨gv, capv, rfl, _, _, _, _⟩ : ∃ gv capv, v' = .slice (some ⟨gv, 0, none⟩) (k + 1) capv ∧ True ∧ True ∧ True ∧ True := by
          have hln : ((ts.take (k + 1)).map fun u => u.put 0).length = k + 1 := by rw [List.length_map, List.length_take]; omega
          have := R
          unfold RowT at this
          rw [hln] at this
          obtain ⟨g', c', h'⟩ := ownsRow_succ this
          exact ⟨g', c', h', trivial, trivial, trivial, trivial⟩
        have HR := hide R
        clear R
        go_wp2
        go_roundw
        case rel => exact ⟨k + 1, by omega, by omega, by go_num, HR.out, hB1⟩
        case measure => simp [intOf]; omega
      · have g1 : ¬ (k : Int) + 1 < ts.length := by omega
        have HR := hide hrow
        clear hrow
        have hk3 : k = ts.length - 1 := by omega
        go_wp2
        go_ret
        refine ⟨_, rfl, ?_, hB⟩
        unfold bareT
        rw [← hk3]
        exact HR.out
set_option maxRecDepth 100000 in
set_option maxHeartbeats 4000000 in
theorem same_any (v v' : Value) (ts : List Tok) (w : World) (hr : Rd w v ts) (hr' : Rd w v' ts) :
    Calls Tryz.prog 12 #[v, v'] w fun e w' => e = .returned (.bool true) ∧ Below w.heap.size w w' := by
  by_cases hnil : ts = []
  · subst hnil
    obtain ⟨p, c, rfl⟩ : ∃ p c, v = .slice p 0 c := by
      rcases hr with ⟨rfl, _⟩ | ⟨g, o, cap, rfl, _⟩
      · exact ⟨_, _, rfl⟩
      · exact ⟨_, _, rfl⟩
    obtain ⟨p', c', rfl⟩ : ∃ p c, v' = .slice p 0 c := by
      rcases hr' with ⟨rfl, _⟩ | ⟨g, o, cap, rfl, _⟩
      · exact ⟨_, _, rfl⟩
      · exact ⟨_, _, rfl⟩
    clear hr hr'
    go_enter Tryz.func12, Tryz.ntmps12
    go_wp2
    go_loopw [5] (fun iv wr => iv = .int .i64 0 ∧ Below w.heap.size w wr) (fun _ _ => 0)
    case atStart => exact ⟨rfl, Below.refl _ _⟩
    case round =>
      obtain ⟨rfl, hB⟩ := hrel
      go_wp2
      go_ret
      exact ⟨rfl, hB⟩
  · rcases hr with ⟨_, h⟩ | ⟨ga, oa, capa, rfl, _, hca, hga, hcella⟩
    · exact absurd h hnil
    rcases hr' with ⟨_, h⟩ | ⟨gb, ob, capb, rfl, _, hcb, hgb, hcellb⟩
    · exact absurd h hnil
    have HCa := hide hcella
    have HCb := hide hcellb
    have hn : ts.length ≤ capa := by assumption
    unfold maxLen at hca hcb
    clear hcella hcellb hnil
    go_enter Tryz.func12, Tryz.ntmps12
    go_wp2
    go_loopw [5] (fun iv wr => ∃ k : Nat, k ≤ ts.length ∧ iv = .int .i64 k ∧ Below w.heap.size w wr) (fun iv _ => ts.length - (intOf iv).toNat)
    case atStart => exact ⟨0, Nat.zero_le _, rfl, Below.refl _ _⟩
    case round =>
      obtain ⟨k, hk, rfl, hB⟩ := hrel
      by_cases hlt : k < ts.length
      · have g1 : (k : Int) < ts.length := by omega
        obtain ⟨u, hu⟩ : ∃ u, ts[k]? = some u := ⟨ts[k]'(by omega), List.getElem?_eq_getElem (by omega)⟩
        obtain ⟨t0, t1, t2, t3, t4, t5, t6, t7, t8, t9, t10, t11⟩ := u
        obtain ⟨T3, hT3⟩ : ∃ T : ByteArray, (⟨t3.toArray⟩ : ByteArray) = T := ⟨_, rfl⟩
        obtain ⟨T10, hT10⟩ : ∃ T : ByteArray, (⟨t10.toArray⟩ : ByteArray) = T := ⟨_, rfl⟩
        have a0 : wr.cell? ⟨ga, oa + k * 12, none⟩ = some (.int .i64 t0) := by rw [hB.cell (p := ⟨ga, oa + k * 12, none⟩) hga, show oa + k * 12 = oa + 12 * k + 0 by omega, HCa.out k _ hu 0 (by omega)]; rfl
        have a1 : wr.cell? ⟨ga, oa + k * 12 + 1, none⟩ = some (.int .i64 t1) := by rw [hB.cell (p := ⟨ga, oa + k * 12 + 1, none⟩) hga, show oa + k * 12 + 1 = oa + 12 * k + 1 by omega, HCa.out k _ hu 1 (by omega)]; rfl
        have a2 : wr.cell? ⟨ga, oa + k * 12 + 2, none⟩ = some (.int .i64 t2) := by rw [hB.cell (p := ⟨ga, oa + k * 12 + 2, none⟩) hga, show oa + k * 12 + 2 = oa + 12 * k + 2 by omega, HCa.out k _ hu 2 (by omega)]; rfl
        have a3 : wr.cell? ⟨ga, oa + k * 12 + 3, none⟩ = some (.string T3) := by rw [hB.cell (p := ⟨ga, oa + k * 12 + 3, none⟩) hga, show oa + k * 12 + 3 = oa + 12 * k + 3 by omega, HCa.out k _ hu 3 (by omega), ← hT3]; rfl
        have a4 : wr.cell? ⟨ga, oa + k * 12 + 4, none⟩ = some (.bool t4) := by rw [hB.cell (p := ⟨ga, oa + k * 12 + 4, none⟩) hga, show oa + k * 12 + 4 = oa + 12 * k + 4 by omega, HCa.out k _ hu 4 (by omega)]; rfl
        have a5 : wr.cell? ⟨ga, oa + k * 12 + 5, none⟩ = some (.int .i64 t5) := by rw [hB.cell (p := ⟨ga, oa + k * 12 + 5, none⟩) hga, show oa + k * 12 + 5 = oa + 12 * k + 5 by omega, HCa.out k _ hu 5 (by omega)]; rfl
        have a6 : wr.cell? ⟨ga, oa + k * 12 + 6, none⟩ = some (.int .i64 t6) := by rw [hB.cell (p := ⟨ga, oa + k * 12 + 6, none⟩) hga, show oa + k * 12 + 6 = oa + 12 * k + 6 by omega, HCa.out k _ hu 6 (by omega)]; rfl
        have a7 : wr.cell? ⟨ga, oa + k * 12 + 7, none⟩ = some (.int .i64 t7) := by rw [hB.cell (p := ⟨ga, oa + k * 12 + 7, none⟩) hga, show oa + k * 12 + 7 = oa + 12 * k + 7 by omega, HCa.out k _ hu 7 (by omega)]; rfl
        have a8 : wr.cell? ⟨ga, oa + k * 12 + 8, none⟩ = some (.bool t8) := by rw [hB.cell (p := ⟨ga, oa + k * 12 + 8, none⟩) hga, show oa + k * 12 + 8 = oa + 12 * k + 8 by omega, HCa.out k _ hu 8 (by omega)]; rfl
        have a9 : wr.cell? ⟨ga, oa + k * 12 + 9, none⟩ = some (.bool t9) := by rw [hB.cell (p := ⟨ga, oa + k * 12 + 9, none⟩) hga, show oa + k * 12 + 9 = oa + 12 * k + 9 by omega, HCa.out k _ hu 9 (by omega)]; rfl
        have a10 : wr.cell? ⟨ga, oa + k * 12 + 10, none⟩ = some (.string T10) := by rw [hB.cell (p := ⟨ga, oa + k * 12 + 10, none⟩) hga, show oa + k * 12 + 10 = oa + 12 * k + 10 by omega, HCa.out k _ hu 10 (by omega), ← hT10]; rfl
        have a11 : wr.cell? ⟨ga, oa + k * 12 + 11, none⟩ = some (.int .i64 t11) := by rw [hB.cell (p := ⟨ga, oa + k * 12 + 11, none⟩) hga, show oa + k * 12 + 11 = oa + 12 * k + 11 by omega, HCa.out k _ hu 11 (by omega)]; rfl
        have b0 : wr.cell? ⟨gb, ob + k * 12, none⟩ = some (.int .i64 t0) := by rw [hB.cell (p := ⟨gb, ob + k * 12, none⟩) hgb, show ob + k * 12 = ob + 12 * k + 0 by omega, HCb.out k _ hu 0 (by omega)]; rfl
        have b1 : wr.cell? ⟨gb, ob + k * 12 + 1, none⟩ = some (.int .i64 t1) := by rw [hB.cell (p := ⟨gb, ob + k * 12 + 1, none⟩) hgb, show ob + k * 12 + 1 = ob + 12 * k + 1 by omega, HCb.out k _ hu 1 (by omega)]; rfl
        have b2 : wr.cell? ⟨gb, ob + k * 12 + 2, none⟩ = some (.int .i64 t2) := by rw [hB.cell (p := ⟨gb, ob + k * 12 + 2, none⟩) hgb, show ob + k * 12 + 2 = ob + 12 * k + 2 by omega, HCb.out k _ hu 2 (by omega)]; rfl
        have b3 : wr.cell? ⟨gb, ob + k * 12 + 3, none⟩ = some (.string T3) := by rw [hB.cell (p := ⟨gb, ob + k * 12 + 3, none⟩) hgb, show ob + k * 12 + 3 = ob + 12 * k + 3 by omega, HCb.out k _ hu 3 (by omega), ← hT3]; rfl
        have b4 : wr.cell? ⟨gb, ob + k * 12 + 4, none⟩ = some (.bool t4) := by rw [hB.cell (p := ⟨gb, ob + k * 12 + 4, none⟩) hgb, show ob + k * 12 + 4 = ob + 12 * k + 4 by omega, HCb.out k _ hu 4 (by omega)]; rfl
        have b5 : wr.cell? ⟨gb, ob + k * 12 + 5, none⟩ = some (.int .i64 t5) := by rw [hB.cell (p := ⟨gb, ob + k * 12 + 5, none⟩) hgb, show ob + k * 12 + 5 = ob + 12 * k + 5 by omega, HCb.out k _ hu 5 (by omega)]; rfl
        have b6 : wr.cell? ⟨gb, ob + k * 12 + 6, none⟩ = some (.int .i64 t6) := by rw [hB.cell (p := ⟨gb, ob + k * 12 + 6, none⟩) hgb, show ob + k * 12 + 6 = ob + 12 * k + 6 by omega, HCb.out k _ hu 6 (by omega)]; rfl
        have b7 : wr.cell? ⟨gb, ob + k * 12 + 7, none⟩ = some (.int .i64 t7) := by rw [hB.cell (p := ⟨gb, ob + k * 12 + 7, none⟩) hgb, show ob + k * 12 + 7 = ob + 12 * k + 7 by omega, HCb.out k _ hu 7 (by omega)]; rfl
        have b8 : wr.cell? ⟨gb, ob + k * 12 + 8, none⟩ = some (.bool t8) := by rw [hB.cell (p := ⟨gb, ob + k * 12 + 8, none⟩) hgb, show ob + k * 12 + 8 = ob + 12 * k + 8 by omega, HCb.out k _ hu 8 (by omega)]; rfl
        have b9 : wr.cell? ⟨gb, ob + k * 12 + 9, none⟩ = some (.bool t9) := by rw [hB.cell (p := ⟨gb, ob + k * 12 + 9, none⟩) hgb, show ob + k * 12 + 9 = ob + 12 * k + 9 by omega, HCb.out k _ hu 9 (by omega)]; rfl
        have b10 : wr.cell? ⟨gb, ob + k * 12 + 10, none⟩ = some (.string T10) := by rw [hB.cell (p := ⟨gb, ob + k * 12 + 10, none⟩) hgb, show ob + k * 12 + 10 = ob + 12 * k + 10 by omega, HCb.out k _ hu 10 (by omega), ← hT10]; rfl
        have b11 : wr.cell? ⟨gb, ob + k * 12 + 11, none⟩ = some (.int .i64 t11) := by rw [hB.cell (p := ⟨gb, ob + k * 12 + 11, none⟩) hgb, show ob + k * 12 + 11 = ob + 12 * k + 11 by omega, HCb.out k _ hu 11 (by omega)]; rfl
        clear hu hT3 hT10
        go_wp2
        go_quiet (fail)
        go_wp2
        go_roundw
        case rel => exact ⟨k + 1, by omega, by go_num, by repeat' (first | with_reducible exact Below.refl _ _ | with_reducible refine Below.setCell ?_ ?_ _ | with_reducible refine Below.alloc ?_ ?_ _ | with_reducible refine below_drewN ?_ _ | with_reducible refine Below.drew ?_ | with_reducible refine Below.trans ?_ (Below.mono (by assumption) ?_) | with_reducible exact Nat.le_refl _ | with_reducible refine Nat.le_trans ?_ (Below.size (by assumption)) | with_reducible refine Nat.le_trans ?_ (size_alloc _ _) | with_reducible refine Nat.le_trans ?_ (size_set _ _ _) | with_reducible refine Nat.le_trans ?_ (size_drewN _ _) | with_reducible refine Nat.le_trans ?_ (size_drew _) | (simp; done) | (simp; omega) | omega)⟩
        case measure => simp [intOf]; omega
      · have g1 : ¬ (k : Int) < ts.length := by omega
        go_wp2
        go_ret
        exact ⟨rfl, hB⟩
set_option maxRecDepth 100000 in
set_option maxHeartbeats 4000000 in
theorem rsame_any (v v' : Value) (ts : List Tok) (w : World) (hr : Rd w v ts) (hr' : Rd w v' ts) :
    Calls Tryz.prog 10 #[v, v'] w fun e w' => e = .returned (.bool true) ∧ Below w.heap.size w w' := by
  by_cases hnil : ts = []
  · subst hnil
    obtain ⟨p, c, rfl⟩ : ∃ p c, v = .slice p 0 c := by
      rcases hr with ⟨rfl, _⟩ | ⟨g, o, cap, rfl, _⟩
      · exact ⟨_, _, rfl⟩
      · exact ⟨_, _, rfl⟩
    obtain ⟨p', c', rfl⟩ : ∃ p c, v' = .slice p 0 c := by
      rcases hr' with ⟨rfl, _⟩ | ⟨g, o, cap, rfl, _⟩
      · exact ⟨_, _, rfl⟩
      · exact ⟨_, _, rfl⟩
    clear hr hr'
    go_enter Tryz.func10, Tryz.ntmps10
    go_wp2
    go_loopw [5] (fun iv wr => iv = .int .i64 0 ∧ Below w.heap.size w wr) (fun _ _ => 0)
    case atStart => exact ⟨rfl, Below.refl _ _⟩
    case round =>
      obtain ⟨rfl, hB⟩ := hrel
      go_wp2
      go_ret
      exact ⟨rfl, hB⟩
  · rcases hr with ⟨_, h⟩ | ⟨ga, oa, capa, rfl, _, hca, hga, hcella⟩
    · exact absurd h hnil
    rcases hr' with ⟨_, h⟩ | ⟨gb, ob, capb, rfl, _, hcb, hgb, hcellb⟩
    · exact absurd h hnil
    have HCa := hide hcella
    have HCb := hide hcellb
    have hn : ts.length ≤ capa := by assumption
    unfold maxLen at hca hcb
    clear hcella hcellb hnil
    go_enter Tryz.func10, Tryz.ntmps10
    go_wp2
    go_loopw [5] (fun iv wr => ∃ k : Nat, k ≤ ts.length ∧ iv = .int .i64 k ∧ Below w.heap.size w wr) (fun iv _ => ts.length - (intOf iv).toNat)
    case atStart => exact ⟨0, Nat.zero_le _, rfl, Below.refl _ _⟩
    case round =>
      obtain ⟨k, hk, rfl, hB⟩ := hrel
      by_cases hlt : k < ts.length
      · have g1 : (k : Int) < ts.length := by omega
        obtain ⟨u, hu⟩ : ∃ u, ts[k]? = some u := ⟨ts[k]'(by omega), List.getElem?_eq_getElem (by omega)⟩
        obtain ⟨t0, t1, t2, t3, t4, t5, t6, t7, t8, t9, t10, t11⟩ := u
        obtain ⟨T3, hT3⟩ : ∃ T : ByteArray, (⟨t3.toArray⟩ : ByteArray) = T := ⟨_, rfl⟩
        obtain ⟨T10, hT10⟩ : ∃ T : ByteArray, (⟨t10.toArray⟩ : ByteArray) = T := ⟨_, rfl⟩
        have a0 : wr.cell? ⟨ga, oa + k * 12, none⟩ = some (.int .i64 t0) := by rw [hB.cell (p := ⟨ga, oa + k * 12, none⟩) hga, show oa + k * 12 = oa + 12 * k + 0 by omega, HCa.out k _ hu 0 (by omega)]; rfl
        have a1 : wr.cell? ⟨ga, oa + k * 12 + 1, none⟩ = some (.int .i64 t1) := by rw [hB.cell (p := ⟨ga, oa + k * 12 + 1, none⟩) hga, show oa + k * 12 + 1 = oa + 12 * k + 1 by omega, HCa.out k _ hu 1 (by omega)]; rfl
        have a2 : wr.cell? ⟨ga, oa + k * 12 + 2, none⟩ = some (.int .i64 t2) := by rw [hB.cell (p := ⟨ga, oa + k * 12 + 2, none⟩) hga, show oa + k * 12 + 2 = oa + 12 * k + 2 by omega, HCa.out k _ hu 2 (by omega)]; rfl
        have a3 : wr.cell? ⟨ga, oa + k * 12 + 3, none⟩ = some (.string T3) := by rw [hB.cell (p := ⟨ga, oa + k * 12 + 3, none⟩) hga, show oa + k * 12 + 3 = oa + 12 * k + 3 by omega, HCa.out k _ hu 3 (by omega), ← hT3]; rfl
        have a4 : wr.cell? ⟨ga, oa + k * 12 + 4, none⟩ = some (.bool t4) := by rw [hB.cell (p := ⟨ga, oa + k * 12 + 4, none⟩) hga, show oa + k * 12 + 4 = oa + 12 * k + 4 by omega, HCa.out k _ hu 4 (by omega)]; rfl
        have a5 : wr.cell? ⟨ga, oa + k * 12 + 5, none⟩ = some (.int .i64 t5) := by rw [hB.cell (p := ⟨ga, oa + k * 12 + 5, none⟩) hga, show oa + k * 12 + 5 = oa + 12 * k + 5 by omega, HCa.out k _ hu 5 (by omega)]; rfl
        have a6 : wr.cell? ⟨ga, oa + k * 12 + 6, none⟩ = some (.int .i64 t6) := by rw [hB.cell (p := ⟨ga, oa + k * 12 + 6, none⟩) hga, show oa + k * 12 + 6 = oa + 12 * k + 6 by omega, HCa.out k _ hu 6 (by omega)]; rfl
        have a7 : wr.cell? ⟨ga, oa + k * 12 + 7, none⟩ = some (.int .i64 t7) := by rw [hB.cell (p := ⟨ga, oa + k * 12 + 7, none⟩) hga, show oa + k * 12 + 7 = oa + 12 * k + 7 by omega, HCa.out k _ hu 7 (by omega)]; rfl
        have a8 : wr.cell? ⟨ga, oa + k * 12 + 8, none⟩ = some (.bool t8) := by rw [hB.cell (p := ⟨ga, oa + k * 12 + 8, none⟩) hga, show oa + k * 12 + 8 = oa + 12 * k + 8 by omega, HCa.out k _ hu 8 (by omega)]; rfl
        have a9 : wr.cell? ⟨ga, oa + k * 12 + 9, none⟩ = some (.bool t9) := by rw [hB.cell (p := ⟨ga, oa + k * 12 + 9, none⟩) hga, show oa + k * 12 + 9 = oa + 12 * k + 9 by omega, HCa.out k _ hu 9 (by omega)]; rfl
        have a10 : wr.cell? ⟨ga, oa + k * 12 + 10, none⟩ = some (.string T10) := by rw [hB.cell (p := ⟨ga, oa + k * 12 + 10, none⟩) hga, show oa + k * 12 + 10 = oa + 12 * k + 10 by omega, HCa.out k _ hu 10 (by omega), ← hT10]; rfl
        have a11 : wr.cell? ⟨ga, oa + k * 12 + 11, none⟩ = some (.int .i64 t11) := by rw [hB.cell (p := ⟨ga, oa + k * 12 + 11, none⟩) hga, show oa + k * 12 + 11 = oa + 12 * k + 11 by omega, HCa.out k _ hu 11 (by omega)]; rfl
        have b0 : wr.cell? ⟨gb, ob + k * 12, none⟩ = some (.int .i64 t0) := by rw [hB.cell (p := ⟨gb, ob + k * 12, none⟩) hgb, show ob + k * 12 = ob + 12 * k + 0 by omega, HCb.out k _ hu 0 (by omega)]; rfl
        have b1 : wr.cell? ⟨gb, ob + k * 12 + 1, none⟩ = some (.int .i64 t1) := by rw [hB.cell (p := ⟨gb, ob + k * 12 + 1, none⟩) hgb, show ob + k * 12 + 1 = ob + 12 * k + 1 by omega, HCb.out k _ hu 1 (by omega)]; rfl
        have b2 : wr.cell? ⟨gb, ob + k * 12 + 2, none⟩ = some (.int .i64 t2) := by rw [hB.cell (p := ⟨gb, ob + k * 12 + 2, none⟩) hgb, show ob + k * 12 + 2 = ob + 12 * k + 2 by omega, HCb.out k _ hu 2 (by omega)]; rfl
        have b3 : wr.cell? ⟨gb, ob + k * 12 + 3, none⟩ = some (.string T3) := by rw [hB.cell (p := ⟨gb, ob + k * 12 + 3, none⟩) hgb, show ob + k * 12 + 3 = ob + 12 * k + 3 by omega, HCb.out k _ hu 3 (by omega), ← hT3]; rfl
        have b4 : wr.cell? ⟨gb, ob + k * 12 + 4, none⟩ = some (.bool t4) := by rw [hB.cell (p := ⟨gb, ob + k * 12 + 4, none⟩) hgb, show ob + k * 12 + 4 = ob + 12 * k + 4 by omega, HCb.out k _ hu 4 (by omega)]; rfl
        have b5 : wr.cell? ⟨gb, ob + k * 12 + 5, none⟩ = some (.int .i64 t5) := by rw [hB.cell (p := ⟨gb, ob + k * 12 + 5, none⟩) hgb, show ob + k * 12 + 5 = ob + 12 * k + 5 by omega, HCb.out k _ hu 5 (by omega)]; rfl
        have b6 : wr.cell? ⟨gb, ob + k * 12 + 6, none⟩ = some (.int .i64 t6) := by rw [hB.cell (p := ⟨gb, ob + k * 12 + 6, none⟩) hgb, show ob + k * 12 + 6 = ob + 12 * k + 6 by omega, HCb.out k _ hu 6 (by omega)]; rfl
        have b7 : wr.cell? ⟨gb, ob + k * 12 + 7, none⟩ = some (.int .i64 t7) := by rw [hB.cell (p := ⟨gb, ob + k * 12 + 7, none⟩) hgb, show ob + k * 12 + 7 = ob + 12 * k + 7 by omega, HCb.out k _ hu 7 (by omega)]; rfl
        have b8 : wr.cell? ⟨gb, ob + k * 12 + 8, none⟩ = some (.bool t8) := by rw [hB.cell (p := ⟨gb, ob + k * 12 + 8, none⟩) hgb, show ob + k * 12 + 8 = ob + 12 * k + 8 by omega, HCb.out k _ hu 8 (by omega)]; rfl
        have b9 : wr.cell? ⟨gb, ob + k * 12 + 9, none⟩ = some (.bool t9) := by rw [hB.cell (p := ⟨gb, ob + k * 12 + 9, none⟩) hgb, show ob + k * 12 + 9 = ob + 12 * k + 9 by omega, HCb.out k _ hu 9 (by omega)]; rfl
        have b10 : wr.cell? ⟨gb, ob + k * 12 + 10, none⟩ = some (.string T10) := by rw [hB.cell (p := ⟨gb, ob + k * 12 + 10, none⟩) hgb, show ob + k * 12 + 10 = ob + 12 * k + 10 by omega, HCb.out k _ hu 10 (by omega), ← hT10]; rfl
        have b11 : wr.cell? ⟨gb, ob + k * 12 + 11, none⟩ = some (.int .i64 t11) := by rw [hB.cell (p := ⟨gb, ob + k * 12 + 11, none⟩) hgb, show ob + k * 12 + 11 = ob + 12 * k + 11 by omega, HCb.out k _ hu 11 (by omega)]; rfl
        clear hu hT3 hT10
        go_wp2
        go_quiet (fail)
        go_wp2
        go_roundw
        case rel => exact ⟨k + 1, by omega, by go_num, by repeat' (first | with_reducible exact Below.refl _ _ | with_reducible refine Below.setCell ?_ ?_ _ | with_reducible refine Below.alloc ?_ ?_ _ | with_reducible refine below_drewN ?_ _ | with_reducible refine Below.drew ?_ | with_reducible refine Below.trans ?_ (Below.mono (by assumption) ?_) | with_reducible exact Nat.le_refl _ | with_reducible refine Nat.le_trans ?_ (Below.size (by assumption)) | with_reducible refine Nat.le_trans ?_ (size_alloc _ _) | with_reducible refine Nat.le_trans ?_ (size_set _ _ _) | with_reducible refine Nat.le_trans ?_ (size_drewN _ _) | with_reducible refine Nat.le_trans ?_ (size_drew _) | (simp; done) | (simp; omega) | omega)⟩
        case measure => simp [intOf]; omega
      · have g1 : ¬ (k : Int) < ts.length := by omega
        go_wp2
        go_ret
        exact ⟨rfl, hB⟩
end Go.Proofs.YtmmdflkjlhckhaaGreatDoor
