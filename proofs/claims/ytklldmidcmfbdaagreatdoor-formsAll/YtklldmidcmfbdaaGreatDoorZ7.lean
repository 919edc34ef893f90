/-
  Out of TrO2, TrO4, TrO5, what is asked for (laid by pack9.py).
-/
import Derived.Test.YtklldmidcmfbdaaGreatDoorVNum
import Derived.Test.YtklldmidcmfbdaaGreatDoorVVal
import Derived.Test.YtklldmidcmfbdaaGreatDoorVVal3
import Derived.Test.YtklldmidcmfbdaaGreatDoorVVal4
import Derived.Test.YtklldmidcmfbdaaGreatDoorZ1
import Derived.Test.YtklldmidcmfbdaaGreatDoorZ3
import Derived.Test.YtklldmidcmfbdaaGreatDoorZ4
import Derived.Test.YtklldmidcmfbdaaGreatDoorZ5
import Derived.Test.YtklldmidcmfbdaaGreatDoorZ5b
import Derived.Test.YtklldmidcmfbdaaGreatDoorZ6
import Derived.BigCall
import Derived.BigGuard
import Derived.BigQuiet
import Derived.ChangeArms
import Derived.Deep.MidRow
import Derived.Deep.QuietTactic
import Derived.Deep.RegionHeld3
import Derived.Deep.RegionWith
import Derived.Deep.WholeRow
import Derived.Defers
import Derived.Great.BuildSlice
import Derived.LaidEql
import Derived.Laws.Cover1
import Derived.Laws.EntriesVeiled
import Derived.Laws.IdiomStrings
import Derived.Lib.AppendIntMem
import Derived.Lib.AtoiErrMem
import Derived.Lib.IndexMore
import Derived.Lib.ItoaMem
import Derived.Lib.LaidTab
import Derived.Lib.MinMax
import Derived.Lib.OthersKept
import Derived.Lib.Replace
import Derived.Lib.ReplaceLaws
import Derived.Lib.SmallJoins
import Derived.Lib.Walk
import Derived.LoopIn
import Derived.LoopNIn
import Derived.LoopTactic
import Derived.Maps.AppendAt
import Derived.OwnWalkIn
import Derived.RangeFuncBound
import Derived.RangeFuncBox
import Derived.RangeFuncCalls
import Derived.RangeFuncLeaves
import Derived.RangeFuncNested
import Derived.Recover
import Derived.RowKitTokens
import Derived.Shelf.Abstract
import Derived.Shelf.RegionOpen
import Derived.Stop.Asserts
import Derived.TacticsInMore
import Derived.WalkKit
import Derived.WalkLawsBesides
import Derived.WalkSmall
import Derived.WalkSpells
import Derived.WideShapes
namespace Go.Proofs.YtklldmidcmfbdaaGreatDoor
section
open Go.RowKit
theorem exec_loadAt {o : Oper} {a : Act} {W : World} (x : Operand) (ho : o.op = .load 68 x) (b i : Nat) (hx : a.eval x = .pointer (some ⟨b, i, none⟩)) {h : Hd} {v : Value} (hc : ∀ j, j < 16 → W.cell? ⟨b, i + j, none⟩ = (hdC h v)[j]?) :
    (execOp a.eval o).run Tryz.prog W = .ok (.value (.agg (hdC h v).toArray)) W := by
  have hr : W.rangeAt b i (hdC h v) := fun j u hu => by
    have hj : j < 16 := (List.getElem?_eq_some_iff.1 hu).1
    rw [hc j hj]; exact hu
  unfold execOp
  simp only [ho, hx, Instr.loadAt, Instr.sureAddr, Sem.run_bind, Sem.run_pure, Result.andThen_ok, run_loadVar_mid W b i 68 (hdC h v) _ hr Tryz.underlying68 rfl (by rw [sizeNode]; rfl)]
end
section
open Go.RowKit
theorem wp_storeR {o : Oper} {a : Act} {w : World} {K : Act → World → Prop} {Q : Exit → Act → World → Prop} (x y : Operand) (ho : o.op = .store 111 x y) (g : Nat) (hx : a.eval x = .pointer (some ⟨g, 0, none⟩)) {h : Hd} {pp : Option Addr} {n cap : Nat} {p : Nat} {b : Bool} (hy : a.eval y = .agg (rdC h (.slice pp n cap) p b).toArray) {cs : List Value} (hb : BoxR w g cs) (hl : cs.length = 18)
    (hk : K (a.put o.dst undef) (w.setRow g (rdC h (.slice pp n cap) p b).toArray)) : o.wp Tryz.prog a w K Q := wp_store_row 111 x y ho g _ hx hy 111 _ hb (by rw [sizeR]; rfl) (by simp [hl, rdC_len]) (rdC_one h rfl p b) hk
theorem exec_buildN {o : Oper} {a : Act} {w w' : World} (t : TypeId) (ps : Array (Nat × Operand)) (ho : o.op = .build t ps) {qs : Array (Nat × Value)} (hq : (ps.toList.map fun (i, x) => (i, a.eval x)) = qs.toList) {v : Value} (hr : (Instr.build t qs).run Tryz.prog w = .ok v w') : (execOp a.eval o).run Tryz.prog w = .ok (.value v) w' := by
  have hq' : (ps.map fun (i, x) => (i, a.eval x)) = qs := by rw [← Array.toList_inj, Array.toList_map]; exact hq
  unfold execOp
  simp only [ho, hq', Sem.run_bind, hr, Result.andThen_ok]
  rfl
/-- The contracts, of a row of tokens. -/
def ReadC (ts : List Tok) (g o cap : Nat) (i : Nat) (n : Int) (r : Rs) : Prop :=
  ∀ W : World, TkAt W g o cap ts → Calls Tryz.prog 46 #[.slice (some ⟨g, o, none⟩) ts.length cap, .int .i64 (i : Int), .int .i64 n] W (ToldR ts W r)
def SingleC (ts : List Tok) (g o cap : Nat) (i : Nat) (r : Rs) : Prop :=
  ∀ W : World, TkAt W g o cap ts → Calls Tryz.prog 68 #[.slice (some ⟨g, o, none⟩) ts.length cap, .int .i64 (i : Int)] W (ToldR ts W r)
/-- What list tells. -/
def rdL (l : List Tok) : Rs := if atB l [41] then .ok zh .nil l.tail else (rd (.kids .nil) l).on fun _ k r => if atB r [41] then .ok zh k r.tail else .bad r
def ToldL (ts : List Tok) (w : World) (r : Rs) (e : Ending) (w' : World) : Prop :=
  match r with
  | .ok _ k l => ∃ a n cap p, e = .returned (.tuple #[.slice a n cap, .agg (rdC zh (.slice none 0 0) p false).toArray]) ∧ Kv w' (New w w') (.slice a n cap) k ∧ Below w.heap.size w w' ∧ ts.drop p = l ∧ p < ts.length
  | .bad l => ∃ h a n cap p, e = .returned (.tuple #[.slice none 0 0, .agg (rdC h (.slice a n cap) p true).toArray]) ∧ Below w.heap.size w w' ∧ ts.drop p = l ∧ p < ts.length
def ListC (ts : List Tok) (g o cap : Nat) (i : Nat) (r : Rs) : Prop :=
  ∀ W : World, TkAt W g o cap ts → Calls Tryz.prog 94 #[.slice (some ⟨g, o, none⟩) ts.length cap, .int .i64 (i : Int)] W (ToldL ts W r)
theorem drop_tail (ts : List Tok) (i : Nat) : ts.drop (i + 1) = (ts.drop i).tail := by simp
theorem drop_lt {ts : List Tok} {i : Nat} (h : ts.drop i ≠ []) : i < ts.length := by
  refine Classical.byContradiction fun hn => h ?_
  exact List.drop_eq_nil_of_le (by omega)
/-- A token's cells in the row. -/
theorem TkAt.tok {w : World} {g o cap : Nat} {ts : List Tok} (h : TkAt w g o cap ts) {i : Nat} (hi : i < ts.length) : ∀ j, j < 12 → w.cell? ⟨g, o + i * 12 + j, none⟩ = (tokC (hd (ts.drop i)))[j]? := h.2.2.2 i _ (hd_drop hi)
/-- Behind a reading's block and a token's. -/
def tokW (w : World) (t : Tok) : World := (w.alloc (.cells (rdC zh (.slice none 0 0) 0 false).toArray 111)).alloc (.cells (tokC t).toArray 115)
theorem tokW_below (w : World) (t : Tok) : Below w.heap.size w (tokW w t) := ((Below.refl _ _).alloc (Nat.le_refl _) _).alloc (by simp) _
theorem tokW_box (w : World) (t : Tok) : BoxR (tokW w t) w.heap.size (rdC zh (.slice none 0 0) 0 false) := (BoxR.new w _).alloc _
theorem tokW_size (w : World) (t : Tok) : (tokW w t).heap.size = w.heap.size + 2 := by simp [tokW]
theorem tokW_cell (w : World) (t : Tok) (j : Nat) (u : Value) (h : (tokC t)[j]? = some u) : (tokW w t).cell? ⟨w.heap.size + 1, j, none⟩ = some u := by
  have hb : (tokW w t).heap[w.heap.size + 1]? = some (.cells (tokC t).toArray 115 (0, 0)) := by
    have := heap_alloc_new (w.alloc (.cells (rdC zh (.slice none 0 0) 0 false).toArray 111)) (.cells (tokC t).toArray 115)
    rw [World.size_alloc] at this
    exact this
  rw [cell_of_row _ _ j _ _ _ hb]
  simpa using h
theorem sizeT : (Tryz.prog.info? 115).map (·.size) = some 12 := by kernel_rfl
theorem tokC_ones (t : Tok) : (tokC t).toArray.all (·.oneCell') = true := by
  rw [Array.all_eq_true_iff_forall_mem]
  intro u hu
  simp only [tokC, List.mem_toArray, List.mem_cons, List.not_mem_nil, or_false] at hu
  rcases hu with rfl | rfl | rfl | rfl | rfl | rfl | rfl | rfl | rfl | rfl | rfl | rfl <;> rfl
theorem wpl_loadT {ops : Array Oper} {rest : List Oper} {o : Oper} {a : Act} {w : World} {Q : Exit → Act → World → Prop} (hgd : o.guard = none) (x : Operand) (ho : o.op = .load 115 x)
    (b i : Nat) (hx : a.eval x = .pointer (some ⟨b, i, none⟩)) {t : Tok} (hc : ∀ j, j < 12 → w.cell? ⟨b, i + j, none⟩ = (tokC t)[j]?)
    (hk : wpList Tryz.prog ops Q rest (a.put o.dst (.agg (tokC t).toArray)) w) : wpList Tryz.prog ops Q (o :: rest) a w :=
  wpList_load_mid hgd 115 x ho b i hx (tokC t) _ (fun j u hu => by
    have hj : j < 12 := (List.getElem?_eq_some_iff.1 hu).1
    rw [hc j hj]; exact hu) Tryz.underlying115 rfl (by rw [sizeT]; rfl) hk
/-- A token's copy, behind the block of what is handed back: the world a letter. -/
theorem wpl_newT {ops : Array Oper} {rest : List Oper} {o : Oper} {a : Act} {W0 w : World} {Q : Exit → Act → World → Prop} (hgd : o.guard = none) (x y : Operand) (ho : o.op = .store 115 x y)
    (hW : W0 = (w.alloc (.cells (rdC zh (.slice none 0 0) 0 false).toArray 111)).alloc (.cells (tokC zt).toArray 115)) (hx : a.eval x = .pointer (some ⟨w.heap.size + 1, 0, none⟩)) {t : Tok} (hy : a.eval y = .agg (tokC t).toArray)
    (hk : ∀ W, W = tokW w t → wpList Tryz.prog ops Q rest (a.put o.dst undef) W) : wpList Tryz.prog ops Q (o :: rest) a W0 := by
  subst hW
  have hb : ((w.alloc (.cells (rdC zh (.slice none 0 0) 0 false).toArray 111)).alloc (.cells (tokC zt).toArray 115)).heap[w.heap.size + 1]? = some (.cells (tokC zt).toArray 115 (0, 0)) := by
    have := heap_alloc_new (w.alloc (.cells (rdC zh (.slice none 0 0) 0 false).toArray 111)) (.cells (tokC zt).toArray 115)
    rw [World.size_alloc] at this
    exact this
  refine wpList_store_row hgd 115 x y ho (w.heap.size + 1) _ hx hy 115 _ hb (by rw [sizeT]; rfl) rfl (tokC_ones t) (hk _ ?_)
  have := World.setRow_alloc_new (w.alloc (.cells (rdC zh (.slice none 0 0) 0 false).toArray 111)) (tokC zt).toArray (tokC t).toArray 115
  rw [World.size_alloc] at this
  exact this
theorem tokW_facts {W w : World} {t : Tok} {g o cap : Nat} {ts : List Tok} (h : W = tokW w t) (hT : TkAt w g o cap ts) : Hid (BoxR W w.heap.size (rdC zh (.slice none 0 0) 0 false)) ∧ Hid (Below w.heap.size w W) ∧ Hid (TkAt W g o cap ts) ∧ W.cell? ⟨w.heap.size + 1, 0, none⟩ = some (.int .i64 t.kind) ∧ W.cell? ⟨w.heap.size + 1, 10, none⟩ = some (.string ⟨t.txt.toArray⟩) ∧ Hid (∀ j, j < 12 → W.cell? ⟨w.heap.size + 1, j, none⟩ = (tokC t)[j]?) ∧ W.heap.size = w.heap.size + 2 := by
  subst h
  refine ⟨tokW_box w t, tokW_below w t, hT.below (tokW_below w t), tokW_cell w t 0 _ rfl, tokW_cell w t 10 _ rfl, fun j hj => ?_, tokW_size w t⟩
  have hj' : (tokC t)[j]? = some ((tokC t)[j]'(by rw [tokC_len]; exact hj)) := List.getElem?_eq_getElem _
  rw [hj']
  exact tokW_cell w t j _ hj'
/-- A token's value, its cell. -/
theorem wpl_loadV {ops : Array Oper} {rest : List Oper} {o : Oper} {a : Act} {w : World} {Q : Exit → Act → World → Prop} (hgd : o.guard = none) (x : Operand) (ho : o.op = .load 61 x)
    (b : Nat) (hx : a.eval x = .pointer (some ⟨b, 1, none⟩)) {t : Tok} (hc : ∀ j, j < 12 → w.cell? ⟨b, j, none⟩ = (tokC t)[j]?)
    (hk : wpList Tryz.prog ops Q rest (a.put o.dst (.agg #[.int .i64 t.vk, .int .i64 t.vn, .string ⟨t.vs.toArray⟩, .bool t.vb, .int .i64 t.vc])) w) : wpList Tryz.prog ops Q (o :: rest) a w :=
  wpList_load_mid hgd 61 x ho b 1 hx [.int .i64 t.vk, .int .i64 t.vn, .string ⟨t.vs.toArray⟩, .bool t.vb, .int .i64 t.vc] _ (fun j u hu => by
    have hj : j < 5 := (List.getElem?_eq_some_iff.1 hu).1
    rw [hc (1 + j) (by omega)]
    have : j = 0 ∨ j = 1 ∨ j = 2 ∨ j = 3 ∨ j = 4 := by omega
    rcases this with rfl | rfl | rfl | rfl | rfl <;> exact hu) Tryz.underlying61 rfl (by kernel_rfl) hk
theorem wpl_loadC {ops : Array Oper} {rest : List Oper} {o : Oper} {a : Act} {w : World} {Q : Exit → Act → World → Prop} (hgd : o.guard = none) (x : Operand) (ho : o.op = .load 65 x)
    (b : Nat) (hx : a.eval x = .pointer (some ⟨b, 6, none⟩)) {t : Tok} (hc : ∀ j, j < 12 → w.cell? ⟨b, j, none⟩ = (tokC t)[j]?)
    (hk : wpList Tryz.prog ops Q rest (a.put o.dst (.agg #[.int .i64 t.row, .int .i64 t.col, .bool t.fr, .bool t.fc])) w) : wpList Tryz.prog ops Q (o :: rest) a w :=
  wpList_load_mid hgd 65 x ho b 6 hx [.int .i64 t.row, .int .i64 t.col, .bool t.fr, .bool t.fc] _ (fun j u hu => by
    have hj : j < 4 := (List.getElem?_eq_some_iff.1 hu).1
    rw [hc (6 + j) (by omega)]
    have : j = 0 ∨ j = 1 ∨ j = 2 ∨ j = 3 := by omega
    rcases this with rfl | rfl | rfl | rfl <;> exact hu) Tryz.underlying65 rfl (by kernel_rfl) hk
theorem below_obj0 (w : World) (O : Obj) {g x : Nat} (h : g < w.heap.size) : (w.alloc O).cell? ⟨g, x, none⟩ = w.cell? ⟨g, x, none⟩ := ((Below.refl w.heap.size w).alloc (Nat.le_refl _) O).cell (p := ⟨g, x, none⟩) h
theorem below_set {n : Nat} {w w' : World} (h : Below n w w') {b : Nat} (hb : n ≤ b) (cs : Array Value) : Below n w (w'.setRow b cs) :=
  ⟨h.os, h.tape, h.output, by rw [setRow_size]; exact h.size, fun k hk => by rw [setRow_heap _ _ _ _ (by omega)]; exact h.block k hk⟩
set_option maxRecDepth 100000 in
set_option maxHeartbeats 4000000 in
theorem rsingle_val (ts : List Tok) (g o cap i j1 j2 j3 : Nat) (w : World) (hT : TkAt w g o cap ts) (hi : i < ts.length) (hl : ts.length ≤ 2000) (he : Ended (ts.drop i)) (hj1 : j1 = i + 1) (hj2 : j2 = i + 2) (hj3 : j3 = i + 3) (hk : (hd (ts.drop i)).kind = 1) :
    Calls Tryz.prog 68 #[.slice (some ⟨g, o, none⟩) ts.length cap, .int .i64 (i : Int)] w (ToldR ts w (rd .single (ts.drop i))) := by
  have dt1 : ts.drop j1 = (ts.drop i).tail := by rw [hj1]; exact drop_tail ts i
  have dt2 : ts.drop j2 = (ts.drop j1).tail := by rw [hj1, hj2]; exact drop_tail ts (i + 1)
  have dt3 : ts.drop j3 = (ts.drop j2).tail := by rw [hj2, hj3]; exact drop_tail ts (i + 2)
  have h1 : j1 < ts.length := drop_lt (by rw [dt1]; exact ended_ne (ended_tail he (.inl (by omega))))
  have hr := rd_value (l := ts.drop i) hk
  rw [← dt1] at hr
  rw [hr]
  clear hr he dt1 dt2 dt3
  obtain ⟨m1, m2, m3, _⟩ := id hT
  have HCi : Hid (∀ (O : Obj) (j : Nat), j < 12 → (w.alloc O).cell? ⟨g, o + i * 12 + j, none⟩ = (tokC (hd (ts.drop i)))[j]?) := fun O j hj => (below_obj0 w O m3).trans (hT.tok hi j hj)
  have HT := hide hT
  unfold maxLen at m2
  clear hT
  have hw1 : IntKind.i64.wrap ((i : Int) + 1) = (j1 : Int) := by rw [wrap_le (by omega) (by omega)]; omega
  clear hj1 hj2 hj3
  generalize hd (ts.drop i) = T0 at *
  go_enter Tryz.func68, Tryz.ntmps68
  go_wp2_with (first | (with_reducible refine wpl_id ?_; refine wpl_loadT rfl _ rfl _ _ rfl (HCi.out _) ?_) | (with_reducible refine wpl_id ?_; refine wpl_newT rfl _ _ rfl rfl rfl rfl ?_; intro W1 hW1; obtain ⟨HX, HB, HTk, q0, q10, HQ, zW⟩ := tokW_facts hW1 HT.out; have gW := HB.out.size; clear hW1) | (with_reducible refine wpl_id ?_; refine wpl_loadV rfl _ rfl _ rfl HQ.out ?_) | (with_reducible refine wpl_id ?_; refine wpl_loadC rfl _ rfl _ rfl HQ.out ?_) | (with_reducible refine wpl_id ?_; refine wpl_buildN rfl _ _ rfl (qs := #[(0, .int .i64 1), (1, .agg #[.int .i64 T0.vk, .int .i64 T0.vn, .string ⟨T0.vs.toArray⟩, .bool T0.vb, .int .i64 T0.vc])]) rfl (run_val T0 _) ?_) | (with_reducible refine wpl_id ?_; refine wpl_buildN rfl _ _ rfl (qs := #[(0, .agg (hdC (valH T0) (.slice none 0 0)).toArray), (1, .int .i64 (j1 : Int))]) rfl (run_rd _ none 0 0 j1 _) ?_) | (with_reducible refine wpl_id ?_; refine wpl_storeR rfl _ _ rfl _ rfl rfl HX.out rfl ?_))
  refine bodyPost_ret (BoxR.ret rfl (HX.out.set _) rfl) rfl ?_
  exact ⟨_, _, _, j1, rfl, kv_nil _ _ _ _, below_set HB.out (Nat.le_refl _) _, rfl, h1⟩
set_option maxRecDepth 100000 in
set_option maxHeartbeats 4000000 in
theorem rsingle_cell (ts : List Tok) (g o cap i j1 j2 j3 : Nat) (w : World) (hT : TkAt w g o cap ts) (hi : i < ts.length) (hl : ts.length ≤ 2000) (he : Ended (ts.drop i)) (hj1 : j1 = i + 1) (hj2 : j2 = i + 2) (hj3 : j3 = i + 3) (hk : (hd (ts.drop i)).kind = 2) (hc : atB (ts.drop j1) [58] = false) :
    Calls Tryz.prog 68 #[.slice (some ⟨g, o, none⟩) ts.length cap, .int .i64 (i : Int)] w (ToldR ts w (rd .single (ts.drop i))) := by
  have dt1 : ts.drop j1 = (ts.drop i).tail := by rw [hj1]; exact drop_tail ts i
  have dt2 : ts.drop j2 = (ts.drop j1).tail := by rw [hj1, hj2]; exact drop_tail ts (i + 1)
  have dt3 : ts.drop j3 = (ts.drop j2).tail := by rw [hj2, hj3]; exact drop_tail ts (i + 2)
  have h1 : j1 < ts.length := drop_lt (by rw [dt1]; exact ended_ne (ended_tail he (.inl (by omega))))
  have hr := rd_cell (l := ts.drop i) hk
  rw [← dt1, hc, if_neg (by simp)] at hr
  rw [hr]
  have HA : Hid (∀ W : World, TkAt W g o cap ts → Calls Tryz.prog 69 #[.slice (some ⟨g, o, none⟩) ts.length cap, .int .i64 (j1 : Int), .string ⟨#[58]⟩] W fun e w' => e = .returned (.bool false) ∧ w' = W) := fun W hW => by
    have := ris_any g o cap ts j1 ⟨#[58]⟩ W hW h1
    rw [show atB (ts.drop j1) (⟨#[58]⟩ : ByteArray).data.toList = false from hc] at this
    exact this
  clear hr he hc dt1 dt2 dt3
  obtain ⟨m1, m2, m3, _⟩ := id hT
  have HCi : Hid (∀ (O : Obj) (j : Nat), j < 12 → (w.alloc O).cell? ⟨g, o + i * 12 + j, none⟩ = (tokC (hd (ts.drop i)))[j]?) := fun O j hj => (below_obj0 w O m3).trans (hT.tok hi j hj)
  have HT := hide hT
  unfold maxLen at m2
  clear hT
  have hw1 : IntKind.i64.wrap ((i : Int) + 1) = (j1 : Int) := by rw [wrap_le (by omega) (by omega)]; omega
  clear hj1 hj2 hj3
  generalize hd (ts.drop i) = T0 at *
  go_enter Tryz.func68, Tryz.ntmps68
  go_wp2_with (first | (with_reducible refine wpl_id ?_; refine wpl_loadT rfl _ rfl _ _ rfl (HCi.out _) ?_) | (with_reducible refine wpl_id ?_; refine wpl_newT rfl _ _ rfl rfl rfl rfl ?_; intro W1 hW1; obtain ⟨HX, HB, HTk, q0, q10, HQ, zW⟩ := tokW_facts hW1 HT.out; have gW := HB.out.size; clear hW1) | (with_reducible refine wpl_id ?_; refine wpl_loadV rfl _ rfl _ rfl HQ.out ?_) | (with_reducible refine wpl_id ?_; refine wpl_loadC rfl _ rfl _ rfl HQ.out ?_) | (go_at_call 69; refine (HA.out _ ?_).mono ?_; (focus (exact HTk.out)); rintro e wz ⟨rfl, hz⟩; subst wz) | (with_reducible refine wpl_id ?_; refine wpl_buildN rfl _ _ rfl (qs := #[(0, .int .i64 2), (2, .agg #[.int .i64 T0.row, .int .i64 T0.col, .bool T0.fr, .bool T0.fc])]) rfl (run_cell T0 _) ?_) | (with_reducible refine wpl_id ?_; refine wpl_buildN rfl _ _ rfl (qs := #[(0, .agg (hdC (cellH T0) (.slice none 0 0)).toArray), (1, .int .i64 (j1 : Int))]) rfl (run_rd _ none 0 0 j1 _) ?_) | (with_reducible refine wpl_id ?_; refine wpl_storeR rfl _ _ rfl _ rfl rfl HX.out rfl ?_))
  refine bodyPost_ret (BoxR.ret rfl (HX.out.set _) rfl) rfl ?_
  exact ⟨_, _, _, j1, rfl, kv_nil _ _ _ _, below_set HB.out (Nat.le_refl _) _, rfl, h1⟩
set_option maxRecDepth 100000 in
set_option maxHeartbeats 4000000 in
theorem rsingle_half (ts : List Tok) (g o cap i j1 j2 j3 : Nat) (w : World) (hT : TkAt w g o cap ts) (hi : i < ts.length) (hl : ts.length ≤ 2000) (he : Ended (ts.drop i)) (hj1 : j1 = i + 1) (hj2 : j2 = i + 2) (hj3 : j3 = i + 3) (hk : (hd (ts.drop i)).kind = 2) (hc : atB (ts.drop j1) [58] = true) (hk2 : (hd (ts.drop j2)).kind ≠ 2) :
    Calls Tryz.prog 68 #[.slice (some ⟨g, o, none⟩) ts.length cap, .int .i64 (i : Int)] w (ToldR ts w (rd .single (ts.drop i))) := by
  have dt1 : ts.drop j1 = (ts.drop i).tail := by rw [hj1]; exact drop_tail ts i
  have dt2 : ts.drop j2 = (ts.drop j1).tail := by rw [hj1, hj2]; exact drop_tail ts (i + 1)
  have dt3 : ts.drop j3 = (ts.drop j2).tail := by rw [hj2, hj3]; exact drop_tail ts (i + 2)
  have e1 : Ended (ts.drop j1) := by rw [dt1]; exact ended_tail he (.inl (by omega))
  have e2 : Ended (ts.drop j2) := by rw [dt2]; exact ended_at e1 hc
  have h1 : j1 < ts.length := drop_lt (ended_ne e1)
  have h2 : j2 < ts.length := drop_lt (ended_ne e2)
  have hr := rd_cell (l := ts.drop i) hk
  rw [← dt1, hc, if_pos rfl, ← dt2] at hr
  rw [if_neg hk2] at hr
  rw [hr]
  have HA : Hid (∀ W : World, TkAt W g o cap ts → Calls Tryz.prog 69 #[.slice (some ⟨g, o, none⟩) ts.length cap, .int .i64 (j1 : Int), .string ⟨#[58]⟩] W fun e w' => e = .returned (.bool true) ∧ w' = W) := fun W hW => by
    have := ris_any g o cap ts j1 ⟨#[58]⟩ W hW h1
    rw [show atB (ts.drop j1) (⟨#[58]⟩ : ByteArray).data.toList = true from hc] at this
    exact this
  have hci2 := hT.tok h2
  clear hr he e1 e2 hc dt1 dt2 dt3
  obtain ⟨m1, m2, m3, _⟩ := id hT
  have HCi : Hid (∀ (O : Obj) (j : Nat), j < 12 → (w.alloc O).cell? ⟨g, o + i * 12 + j, none⟩ = (tokC (hd (ts.drop i)))[j]?) := fun O j hj => (below_obj0 w O m3).trans (hT.tok hi j hj)
  have HT := hide hT
  unfold maxLen at m2
  clear hT
  have hw1 : IntKind.i64.wrap ((i : Int) + 1) = (j1 : Int) := by rw [wrap_le (by omega) (by omega)]; omega
  have hw2 : IntKind.i64.wrap ((i : Int) + 2) = (j2 : Int) := by rw [wrap_le (by omega) (by omega)]; omega
  have hcj2 := hci2
  clear hci2
  clear hj1 hj2 hj3
  generalize hd (ts.drop j2) = U at *
  generalize hd (ts.drop i) = T0 at *
  have u0 : w.cell? ⟨g, o + j2 * 12, none⟩ = some (.int .i64 U.kind) := hcj2 0 (by omega)
  have hk3 : (U.kind == 2) = false := by rw [beq_eq_false_iff_ne]; exact hk2
  clear hcj2
  go_enter Tryz.func68, Tryz.ntmps68
  go_wp2_with (first | (with_reducible refine wpl_id ?_; refine wpl_loadT rfl _ rfl _ _ rfl (HCi.out _) ?_) | (with_reducible refine wpl_id ?_; refine wpl_newT rfl _ _ rfl rfl rfl rfl ?_; intro W1 hW1; obtain ⟨HX, HB, HTk, q0, q10, HQ, zW⟩ := tokW_facts hW1 HT.out; have gW := HB.out.size; have y0 := (HB.out.cell (p := ⟨g, o + j2 * 12, none⟩) m3).trans u0; clear hW1) | (with_reducible refine wpl_id ?_; refine wpl_loadV rfl _ rfl _ rfl HQ.out ?_) | (with_reducible refine wpl_id ?_; refine wpl_loadC rfl _ rfl _ rfl HQ.out ?_) | (go_at_call 69; refine (HA.out _ ?_).mono ?_; (focus (exact HTk.out)); rintro e wz ⟨rfl, hz⟩; subst wz) | (with_reducible refine wpl_id ?_; refine wpl_buildN rfl _ _ rfl (qs := #[(1, .int .i64 (j2 : Int)), (2, .bool true)]) rfl (run_rdBad j2 _) ?_) | (with_reducible refine wpl_id ?_; refine wpl_storeR rfl _ _ rfl _ rfl rfl HX.out rfl ?_))
  refine bodyPost_ret (BoxR.ret rfl (HX.out.set _) rfl) rfl ?_
  exact ⟨_, _, _, _, j2, rfl, below_set HB.out (Nat.le_refl _) _, rfl, h2⟩
set_option maxRecDepth 100000 in
set_option maxHeartbeats 4000000 in
theorem rsingle_range (ts : List Tok) (g o cap i j1 j2 j3 : Nat) (w : World) (hT : TkAt w g o cap ts) (hi : i < ts.length) (hl : ts.length ≤ 2000) (he : Ended (ts.drop i)) (hj1 : j1 = i + 1) (hj2 : j2 = i + 2) (hj3 : j3 = i + 3) (hk : (hd (ts.drop i)).kind = 2) (hc : atB (ts.drop j1) [58] = true) (hk2 : (hd (ts.drop j2)).kind = 2) :
    Calls Tryz.prog 68 #[.slice (some ⟨g, o, none⟩) ts.length cap, .int .i64 (i : Int)] w (ToldR ts w (rd .single (ts.drop i))) := by
  have dt1 : ts.drop j1 = (ts.drop i).tail := by rw [hj1]; exact drop_tail ts i
  have dt2 : ts.drop j2 = (ts.drop j1).tail := by rw [hj1, hj2]; exact drop_tail ts (i + 1)
  have dt3 : ts.drop j3 = (ts.drop j2).tail := by rw [hj2, hj3]; exact drop_tail ts (i + 2)
  have e1 : Ended (ts.drop j1) := by rw [dt1]; exact ended_tail he (.inl (by omega))
  have e2 : Ended (ts.drop j2) := by rw [dt2]; exact ended_at e1 hc
  have h1 : j1 < ts.length := drop_lt (ended_ne e1)
  have h2 : j2 < ts.length := drop_lt (ended_ne e2)
  have hr := rd_cell (l := ts.drop i) hk
  rw [← dt1, hc, if_pos rfl, ← dt2] at hr
  rw [if_pos hk2, ← dt3] at hr
  rw [hr]
  have h3 : j3 < ts.length := drop_lt (by rw [dt3]; exact ended_ne (ended_tail e2 (.inl (by omega))))
  have HA : Hid (∀ W : World, TkAt W g o cap ts → Calls Tryz.prog 69 #[.slice (some ⟨g, o, none⟩) ts.length cap, .int .i64 (j1 : Int), .string ⟨#[58]⟩] W fun e w' => e = .returned (.bool true) ∧ w' = W) := fun W hW => by
    have := ris_any g o cap ts j1 ⟨#[58]⟩ W hW h1
    rw [show atB (ts.drop j1) (⟨#[58]⟩ : ByteArray).data.toList = true from hc] at this
    exact this
  have hci2 := hT.tok h2
  clear hr he e1 e2 hc dt1 dt2 dt3
  obtain ⟨m1, m2, m3, _⟩ := id hT
  have HCi : Hid (∀ (O : Obj) (j : Nat), j < 12 → (w.alloc O).cell? ⟨g, o + i * 12 + j, none⟩ = (tokC (hd (ts.drop i)))[j]?) := fun O j hj => (below_obj0 w O m3).trans (hT.tok hi j hj)
  have HT := hide hT
  unfold maxLen at m2
  clear hT
  have hw1 : IntKind.i64.wrap ((i : Int) + 1) = (j1 : Int) := by rw [wrap_le (by omega) (by omega)]; omega
  have hw2 : IntKind.i64.wrap ((i : Int) + 2) = (j2 : Int) := by rw [wrap_le (by omega) (by omega)]; omega
  have hw3 : IntKind.i64.wrap ((i : Int) + 3) = (j3 : Int) := by rw [wrap_le (by omega) (by omega)]; omega
  have hcj2 := hci2
  clear hci2
  clear hj1 hj2 hj3
  generalize hd (ts.drop j2) = U at *
  generalize hd (ts.drop i) = T0 at *
  have u0 : w.cell? ⟨g, o + j2 * 12, none⟩ = some (.int .i64 2) := by rw [← hk2]; exact hcj2 0 (by omega)
  have u6 : w.cell? ⟨g, o + j2 * 12 + 6, none⟩ = some (.int .i64 U.row) := hcj2 6 (by omega)
  have u7 : w.cell? ⟨g, o + j2 * 12 + 7, none⟩ = some (.int .i64 U.col) := hcj2 7 (by omega)
  have u8 : w.cell? ⟨g, o + j2 * 12 + 8, none⟩ = some (.bool U.fr) := hcj2 8 (by omega)
  have u9 : w.cell? ⟨g, o + j2 * 12 + 9, none⟩ = some (.bool U.fc) := hcj2 9 (by omega)
  clear hcj2 hk2
  go_enter Tryz.func68, Tryz.ntmps68
  go_wp2_with (first | (with_reducible refine wpl_id ?_; refine wpl_loadT rfl _ rfl _ _ rfl (HCi.out _) ?_) | (with_reducible refine wpl_id ?_; refine wpl_newT rfl _ _ rfl rfl rfl rfl ?_; intro W1 hW1; obtain ⟨HX, HB, HTk, q0, q10, HQ, zW⟩ := tokW_facts hW1 HT.out; have gW := HB.out.size; have y0 := (HB.out.cell (p := ⟨g, o + j2 * 12, none⟩) m3).trans u0; clear hW1) | (with_reducible refine wpl_id ?_; refine wpl_loadV rfl _ rfl _ rfl HQ.out ?_) | (with_reducible refine wpl_id ?_; refine wpl_loadC rfl _ rfl _ rfl HQ.out ?_) | (go_at_call 69; refine (HA.out _ ?_).mono ?_; (focus (exact HTk.out)); rintro e wz ⟨rfl, hz⟩; subst wz))
  have HXd := hide HX.out.drew
  have HBd := hide (bar_below HB.out (Bar.of (below_drew0 _)))
  have q6 := HQ.out 6 (by omega)
  have q7 := HQ.out 7 (by omega)
  have q8 := HQ.out 8 (by omega)
  have q9 := HQ.out 9 (by omega)
  have y6 := (HB.out.cell (p := ⟨g, o + j2 * 12 + 6, none⟩) m3).trans u6
  have y7 := (HB.out.cell (p := ⟨g, o + j2 * 12 + 7, none⟩) m3).trans u7
  have y8 := (HB.out.cell (p := ⟨g, o + j2 * 12 + 8, none⟩) m3).trans u8
  have y9 := (HB.out.cell (p := ⟨g, o + j2 * 12 + 9, none⟩) m3).trans u9
  refine wp_region_held_drew (S := fun W => W.cell? ⟨w.heap.size + 1, 6, none⟩ = some (.int .i64 T0.row) ∧ W.cell? ⟨w.heap.size + 1, 7, none⟩ = some (.int .i64 T0.col) ∧ W.cell? ⟨w.heap.size + 1, 8, none⟩ = some (.bool T0.fr) ∧ W.cell? ⟨w.heap.size + 1, 9, none⟩ = some (.bool T0.fc) ∧ W.cell? ⟨g, o + j2 * 12 + 6, none⟩ = some (.int .i64 U.row) ∧ W.cell? ⟨g, o + j2 * 12 + 7, none⟩ = some (.int .i64 U.col) ∧ W.cell? ⟨g, o + j2 * 12 + 8, none⟩ = some (.bool U.fr) ∧ W.cell? ⟨g, o + j2 * 12 + 9, none⟩ = some (.bool U.fc)) (by kernel_rfl) ⟨q6, q7, q8, q9, y6, y7, y8, y9⟩ (fun hHeld => ?_)
  (refine takeD (i := 0) (some 43) rfl rfl (by kernel_rfl) (by kernel_rfl) (by kernel_rfl) (fun _ _ _ h => h) (v := ?_) rfl ?_ (by assumption) ?_; rotate_left; (focus (intro w hSw; (try dsimp only at hSw); first | (go_simp; done) | (go_simp; with_reducible rfl))); try simp only [Act.put, List.setIfInBounds_toArray, List.set_cons_zero, List.set_cons_succ]); (refine takeD (i := 1) (some 44) rfl rfl (by kernel_rfl) (by kernel_rfl) (by kernel_rfl) (fun _ _ _ h => h) (v := ?_) rfl ?_ (by assumption) ?_; rotate_left; (focus (intro w hSw; (try dsimp only at hSw); first | (go_simp; done) | (go_simp; with_reducible rfl))); try simp only [Act.put, List.setIfInBounds_toArray, List.set_cons_zero, List.set_cons_succ]); (refine takeD (i := 2) (some 45) rfl rfl (by kernel_rfl) (by kernel_rfl) (by kernel_rfl) (fun _ _ _ h => h) (v := ?_) rfl ?_ (by assumption) ?_; rotate_left; (focus (intro w hSw; (try dsimp only at hSw); first | (go_simp; done) | (go_simp; with_reducible rfl))); try simp only [Act.put, List.setIfInBounds_toArray, List.set_cons_zero, List.set_cons_succ]); (refine takeD (i := 3) (some 46) rfl rfl (by kernel_rfl) (by kernel_rfl) (by kernel_rfl) (fun _ _ _ h => h) (v := ?_) rfl ?_ (by assumption) ?_; rotate_left; (focus (intro w hSw; (try dsimp only at hSw); first | (go_simp; done) | (go_simp; with_reducible rfl))); try simp only [Act.put, List.setIfInBounds_toArray, List.set_cons_zero, List.set_cons_succ]); (refine takeD (i := 4) (some 47) rfl rfl (by kernel_rfl) (by kernel_rfl) (by kernel_rfl) (fun _ _ _ h => h) (v := ?_) rfl ?_ (by assumption) ?_; rotate_left; (focus (intro w hSw; (try dsimp only at hSw); first | (go_simp; done) | (go_simp; with_reducible rfl))); try simp only [Act.put, List.setIfInBounds_toArray, List.set_cons_zero, List.set_cons_succ]); (refine takeD (i := 5) (some 48) rfl rfl (by kernel_rfl) (by kernel_rfl) (by kernel_rfl) (fun _ _ _ h => h) (v := ?_) rfl ?_ (by assumption) ?_; rotate_left; (focus (intro w hSw; (try dsimp only at hSw); first | (go_simp; done) | (go_simp; with_reducible rfl))); try simp only [Act.put, List.setIfInBounds_toArray, List.set_cons_zero, List.set_cons_succ]); (refine takeD (i := 6) (some 49) rfl rfl (by kernel_rfl) (by kernel_rfl) (by kernel_rfl) (fun _ _ _ h => h) (v := ?_) rfl ?_ (by assumption) ?_; rotate_left; (focus (intro w hSw; (try dsimp only at hSw); first | (go_simp; done) | (go_simp; with_reducible rfl))); try simp only [Act.put, List.setIfInBounds_toArray, List.set_cons_zero, List.set_cons_succ]); (refine takeD (i := 7) (some 50) rfl rfl (by kernel_rfl) (by kernel_rfl) (by kernel_rfl) (fun _ _ _ h => h) (v := ?_) rfl ?_ (by assumption) ?_; rotate_left; (focus (intro w hSw; (try dsimp only at hSw); first | (go_simp; done) | (go_simp; with_reducible rfl))); try simp only [Act.put, List.setIfInBounds_toArray, List.set_cons_zero, List.set_cons_succ])
  (refine takeD (i := 8) (some 51) rfl rfl (by kernel_rfl) (by kernel_rfl) (by kernel_rfl) (fun _ _ _ h => h) (v := .agg (hdC (rangeH T0 U) (.slice none 0 0)).toArray) rfl (fun W _ => exec_buildN _ _ rfl (qs := #[(0, .int .i64 3), (2, .agg #[.int .i64 T0.row, .int .i64 T0.col, .bool T0.fr, .bool T0.fc]), (3, .agg #[.int .i64 U.row, .int .i64 U.col, .bool U.fr, .bool U.fc])]) rfl (run_range T0 U W)) (by assumption) ?_; try simp only [Act.put, List.setIfInBounds_toArray, List.set_cons_zero, List.set_cons_succ])
  (refine takeD (i := 9) (some 52) rfl rfl (by kernel_rfl) (by kernel_rfl) (by kernel_rfl) (fun _ _ _ h => h) (v := ?_) rfl ?_ (by assumption) ?_; rotate_left; (focus (intro w hSw; (try dsimp only at hSw); first | (go_simp; done) | (go_simp; with_reducible rfl))); try simp only [Act.put, List.setIfInBounds_toArray, List.set_cons_zero, List.set_cons_succ]); (refine takeD (i := 10) (some 53) rfl rfl (by kernel_rfl) (by kernel_rfl) (by kernel_rfl) (fun _ _ _ h => h) (v := ?_) rfl ?_ (by assumption) ?_; rotate_left; (focus (intro w hSw; (try dsimp only at hSw); first | (go_simp; done) | (go_simp; with_reducible rfl))); try simp only [Act.put, List.setIfInBounds_toArray, List.set_cons_zero, List.set_cons_succ])
  (refine takeD (i := 11) (some 54) rfl rfl (by kernel_rfl) (by kernel_rfl) (by kernel_rfl) (fun _ _ _ h => h) (v := .agg (rdC (rangeH T0 U) (.slice none 0 0) j3 false).toArray) rfl (fun W _ => exec_buildN _ _ rfl (qs := #[(0, .agg (hdC (rangeH T0 U) (.slice none 0 0)).toArray), (1, .int .i64 (j3 : Int))]) rfl (run_rd _ none 0 0 j3 W)) (by assumption) ?_; try simp only [Act.put, List.setIfInBounds_toArray, List.set_cons_zero, List.set_cons_succ])
  refine wpAnyH_ready (rs := [12]) (by kernel_rfl) (by simp) ?_
  refine readyP (o := _) rfl rfl (fun K hK => ?_) AllReadyH.nil
  refine wp_storeR _ _ rfl _ rfl rfl HXd.out rfl ?_
  have hne : w.heap.size + 1 ≠ w.heap.size := by omega
  have hng : g ≠ w.heap.size := by omega
  have hcs : ∀ (b j : Nat), b ≠ w.heap.size → ∀ (X : World) (cs : Array Value), (X.setRow w.heap.size cs).cell? ⟨b, j, none⟩ = X.cell? ⟨b, j, none⟩ := fun b j hb X cs => World.cell?_of_block (w := X) (a := ⟨b, j, none⟩) (setRow_heap X _ _ cs hb)
  refine hK.out _ _ ⟨(hcs _ _ hne _ _).trans q6, (hcs _ _ hne _ _).trans q7, (hcs _ _ hne _ _).trans q8, (hcs _ _ hne _ _).trans q9, (hcs _ _ hng _ _).trans y6, (hcs _ _ hng _ _).trans y7, (hcs _ _ hng _ _).trans y8, (hcs _ _ hng _ _).trans y9⟩ (fun hHeld => ?_)
  clear hK K
  refine wpAnyH_done (by kernel_rfl) ?_ _
  go_wp2
  refine bodyPost_ret (BoxR.ret rfl (HXd.out.set _) rfl) rfl ?_
  exact ⟨_, _, _, j3, rfl, kv_nil _ _ _ _, below_set HBd.out (Nat.le_refl _) _, rfl, h3⟩
set_option maxRecDepth 100000 in
set_option maxHeartbeats 4000000 in
theorem rsingle_none (ts : List Tok) (g o cap i : Nat) (w : World) (hT : TkAt w g o cap ts) (hi : i < ts.length) (hk1 : (hd (ts.drop i)).kind ≠ 1) (hk2 : (hd (ts.drop i)).kind ≠ 2) (hk3 : (hd (ts.drop i)).kind ≠ 3) (h45 : atB (ts.drop i) [45] = false) (h40 : atB (ts.drop i) [40] = false) :
    Calls Tryz.prog 68 #[.slice (some ⟨g, o, none⟩) ts.length cap, .int .i64 (i : Int)] w (ToldR ts w (rd .single (ts.drop i))) := by
  have hr := rd_none (l := ts.drop i) hk1 hk2 hk3 h45 h40
  rw [hr]
  have HA : Hid (∀ W : World, TkAt W g o cap ts → Calls Tryz.prog 69 #[.slice (some ⟨g, o, none⟩) ts.length cap, .int .i64 (i : Int), .string ⟨#[40]⟩] W fun e w' => e = .returned (.bool false) ∧ w' = W) := fun W hW => by
    have := ris_any g o cap ts i ⟨#[40]⟩ W hW hi
    rw [show atB (ts.drop i) (⟨#[40]⟩ : ByteArray).data.toList = false from h40] at this
    exact this
  clear hr h40 h45
  obtain ⟨m1, m2, m3, _⟩ := id hT
  have HCi : Hid (∀ (O : Obj) (j : Nat), j < 12 → (w.alloc O).cell? ⟨g, o + i * 12 + j, none⟩ = (tokC (hd (ts.drop i)))[j]?) := fun O j hj => (below_obj0 w O m3).trans (hT.tok hi j hj)
  have HT := hide hT
  unfold maxLen at m2
  clear hT
  generalize hd (ts.drop i) = T0 at *
  have b1 : (T0.kind == 1) = false := by rw [beq_eq_false_iff_ne]; exact hk1
  have b2 : (T0.kind == 2) = false := by rw [beq_eq_false_iff_ne]; exact hk2
  have b3 : (T0.kind == 3) = false := by rw [beq_eq_false_iff_ne]; exact hk3
  go_enter Tryz.func68, Tryz.ntmps68
  go_wp2_with (first | (with_reducible refine wpl_id ?_; refine wpl_loadT rfl _ rfl _ _ rfl (HCi.out _) ?_) | (with_reducible refine wpl_id ?_; refine wpl_newT rfl _ _ rfl rfl rfl rfl ?_; intro W1 hW1; obtain ⟨HX, HB, HTk, q0, q10, HQ, zW⟩ := tokW_facts hW1 HT.out; have gW := HB.out.size; clear hW1) | (with_reducible refine wpl_id ?_; refine wpl_loadV rfl _ rfl _ rfl HQ.out ?_) | (with_reducible refine wpl_id ?_; refine wpl_loadC rfl _ rfl _ rfl HQ.out ?_) | (go_at_call 69; refine (HA.out _ ?_).mono ?_; (focus (exact HTk.out)); rintro e wz ⟨rfl, hz⟩; subst wz) | (with_reducible refine wpl_id ?_; refine wpl_buildN rfl _ _ rfl (qs := #[(1, .int .i64 (i : Int)), (2, .bool true)]) rfl (run_rdBad i _) ?_) | (with_reducible refine wpl_id ?_; refine wpl_storeR rfl _ _ rfl _ rfl rfl HX.out rfl ?_))
  refine bodyPost_ret (BoxR.ret rfl (HX.out.set _) rfl) rfl ?_
  exact ⟨_, _, _, _, i, rfl, below_set HB.out (Nat.le_refl _) _, rfl, hi⟩
end
section
open Go.RowKit
/-- A node into a reading that has just been made. -/
theorem wpl_newRN {ops : Array Oper} {rest : List Oper} {o : Oper} {a : Act} {W w : World} {Q : Exit → Act → World → Prop} (hgd : o.guard = none) (x y : Operand) (ho : o.op = .store 68 x y)
    {h0 : Hd} {v0 : Value} {p : Nat} {b : Bool} (hW : W = w.alloc (.cells (rdC h0 v0 p b).toArray 111)) (hx : a.eval x = .pointer (some ⟨w.heap.size, 0, none⟩)) {h : Hd} {pp : Option Addr} {n cap : Nat} (hy : a.eval y = .agg (hdC h (.slice pp n cap)).toArray)
    (hk : wpList Tryz.prog ops Q rest (a.put o.dst undef) (w.alloc (.cells (rdC h (.slice pp n cap) p b).toArray 111))) : wpList Tryz.prog ops Q (o :: rest) a W := by
  subst hW
  refine wpl_storeRN hgd x y ho w.heap.size hx hy (BoxR.new w _) ?_
  rw [World.setRow_alloc_new]
  exact hk
theorem call_list {l : List Tok} (h : (hd l).kind = 3) (h1 : atB l.tail [40] = true) : rd .single l = (rdL l.tail.tail).on fun _ k r => .ok (callH (hd l).txt) k r := by
  rw [rd_call h h1]
  unfold rdL
  by_cases h2 : atB l.tail.tail [41] = true
  · rw [if_pos h2, if_pos h2]; rfl
  · rw [if_neg h2, if_neg h2]
    cases rd (.kids .nil) l.tail.tail with
    | bad r => rfl
    | ok h k r =>
      simp only [Rs.on]
      split <;> rfl
/-- Kids of a call that was made, behind what was made since. -/
theorem kv_since {w W1 w1 w' : World} {v : Value} {k : Fo} (hk : Kv w1 (New W1 w1) v k) (h1 : w.heap.size < W1.heap.size) (hs : w1.heap.size ≤ w'.heap.size) (hb : ∀ b, w.heap.size < b → b < w1.heap.size → w'.heap[b]? = w1.heap[b]?) : Kv w' (New w w') v k :=
  kv_to hk (fun b h => ⟨⟨by have := h.1; omega, by have := h.2; omega⟩, hb b (by have := h.1; omega) h.2⟩)
theorem below_al (w : World) (o : Obj) : Below w.heap.size w (w.alloc o) := (Below.refl _ _).alloc (Nat.le_refl _) o
set_option maxRecDepth 100000 in
set_option maxHeartbeats 4000000 in
theorem rsingle_call_ok (ts : List Tok) (g o cap i j1 j2 : Nat) (w : World) (hT : TkAt w g o cap ts) (hi : i < ts.length) (hl : ts.length ≤ 2000) (hj1 : j1 = i + 1) (hj2 : j2 = i + 2) (hk : (hd (ts.drop i)).kind = 3) (h40 : atB (ts.drop j1) [40] = true) (HL : ListC ts g o cap j2 (rdL (ts.drop j2))) (h : Hd) (k : Fo) (l1 : List Tok) (hq : rdL (ts.drop j2) = .ok h k l1) :
    Calls Tryz.prog 68 #[.slice (some ⟨g, o, none⟩) ts.length cap, .int .i64 (i : Int)] w (ToldR ts w (rd .single (ts.drop i))) := by
  have dt1 : ts.drop j1 = (ts.drop i).tail := by rw [hj1]; exact drop_tail ts i
  have dt2 : ts.drop j2 = (ts.drop j1).tail := by rw [hj1, hj2]; exact drop_tail ts (i + 1)
  have hr := call_list (l := ts.drop i) hk (by rw [← dt1]; exact h40)
  rw [← dt1, ← dt2, hq] at hr
  rw [hr]
  rw [hq] at HL
  have HLi := hide HL
  clear hr dt1 dt2 h40 HL hq
  obtain ⟨m1, m2, m3, _⟩ := id hT
  have HCi : Hid (∀ (O : Obj) (j : Nat), j < 12 → (w.alloc O).cell? ⟨g, o + i * 12 + j, none⟩ = (tokC (hd (ts.drop i)))[j]?) := fun O j hj => (below_obj0 w O m3).trans (hT.tok hi j hj)
  have HT := hide hT
  unfold maxLen at m2
  clear hT
  have hw2 : IntKind.i64.wrap ((i : Int) + 2) = (j2 : Int) := by rw [wrap_le (by omega) (by omega)]; omega
  clear hj1 hj2
  generalize hd (ts.drop i) = T0 at *
  go_enter Tryz.func68, Tryz.ntmps68
  go_wp2_with (first | (with_reducible refine wpl_id ?_; refine wpl_loadT rfl _ rfl _ _ rfl (HCi.out _) ?_) | (with_reducible refine wpl_id ?_; refine wpl_newT rfl _ _ rfl rfl rfl rfl ?_; intro W1 hW1; obtain ⟨HX, HB, HTk, q0, q10, HQ, zW⟩ := tokW_facts hW1 HT.out; have gW := HB.out.size; clear hW1) | (with_reducible refine wpl_id ?_; refine wpl_loadV rfl _ rfl _ rfl HQ.out ?_) | (with_reducible refine wpl_id ?_; refine wpl_loadC rfl _ rfl _ rfl HQ.out ?_) | (go_at_call 94; refine (HLi.out _ ?_).mono ?_; (focus (exact HTk.out)); rintro e w1 ⟨a1, n1, c1, p, rfl, hk1, hb1, hd1, hp1⟩; have HK1 := hide hk1; have HX1 := hide (HX.out.below hb1 (by omega)); have z1 := hb1.size; have q1 : w1.cell? ⟨w.heap.size + 1, 10, none⟩ = some (.string ⟨T0.txt.toArray⟩) := (hb1.cell (p := ⟨w.heap.size + 1, 10, none⟩) (by show w.heap.size + 1 < W1.heap.size; omega)).trans q10; have z2 : w.heap.size + 1 < w1.heap.size := (by omega); have HB1 := hide (HB.out.trans (hb1.mono (by omega))); clear hk1 hb1) | (with_reducible refine wpl_id ?_; refine wpl_newR rfl _ _ rfl rfl rfl rfl ?_) | (with_reducible refine wpl_id ?_; refine wpl_newRN rfl _ _ rfl rfl rfl rfl ?_) | (with_reducible refine wpl_id ?_; refine wpl_buildN rfl _ _ rfl (qs := #[(0, .int .i64 6), (4, .string ⟨T0.txt.toArray⟩), (5, .slice a1 n1 c1)]) rfl (run_call2 T0.txt a1 n1 c1 _) ?_) | (with_reducible refine wpl_id ?_; refine wpl_loadR rfl _ rfl _ rfl (BoxR.new w1 _) ?_) | (with_reducible refine wpl_id ?_; refine wpl_storeR rfl _ _ rfl _ rfl rfl (HX1.out.alloc _) rfl ?_))
  refine bodyPost_ret (BoxR.ret rfl ((HX1.out.alloc _).set _) rfl) rfl ?_
  refine ⟨_, _, _, p, rfl, ?_, below_set (bar_below HB1.out (Bar.of (below_al _ _))) (Nat.le_refl _) _, hd1, hp1⟩
  refine kv_since HK1.out (by omega) (by simp) (fun b h1 h2 => ?_)
  rw [setRow_heap _ _ _ _ (by omega), Below.heap_alloc _ _ _ h2]
set_option maxRecDepth 100000 in
set_option maxHeartbeats 4000000 in
theorem rsingle_call_bad (ts : List Tok) (g o cap i j1 j2 : Nat) (w : World) (hT : TkAt w g o cap ts) (hi : i < ts.length) (hl : ts.length ≤ 2000) (hj1 : j1 = i + 1) (hj2 : j2 = i + 2) (hk : (hd (ts.drop i)).kind = 3) (h40 : atB (ts.drop j1) [40] = true) (HL : ListC ts g o cap j2 (rdL (ts.drop j2))) (l1 : List Tok) (hq : rdL (ts.drop j2) = .bad l1) :
    Calls Tryz.prog 68 #[.slice (some ⟨g, o, none⟩) ts.length cap, .int .i64 (i : Int)] w (ToldR ts w (rd .single (ts.drop i))) := by
  have dt1 : ts.drop j1 = (ts.drop i).tail := by rw [hj1]; exact drop_tail ts i
  have dt2 : ts.drop j2 = (ts.drop j1).tail := by rw [hj1, hj2]; exact drop_tail ts (i + 1)
  have hr := call_list (l := ts.drop i) hk (by rw [← dt1]; exact h40)
  rw [← dt1, ← dt2, hq] at hr
  rw [hr]
  rw [hq] at HL
  have HLi := hide HL
  clear hr dt1 dt2 h40 HL hq
  obtain ⟨m1, m2, m3, _⟩ := id hT
  have HCi : Hid (∀ (O : Obj) (j : Nat), j < 12 → (w.alloc O).cell? ⟨g, o + i * 12 + j, none⟩ = (tokC (hd (ts.drop i)))[j]?) := fun O j hj => (below_obj0 w O m3).trans (hT.tok hi j hj)
  have HT := hide hT
  unfold maxLen at m2
  clear hT
  have hw2 : IntKind.i64.wrap ((i : Int) + 2) = (j2 : Int) := by rw [wrap_le (by omega) (by omega)]; omega
  clear hj1 hj2
  generalize hd (ts.drop i) = T0 at *
  go_enter Tryz.func68, Tryz.ntmps68
  go_wp2_with (first | (with_reducible refine wpl_id ?_; refine wpl_loadT rfl _ rfl _ _ rfl (HCi.out _) ?_) | (with_reducible refine wpl_id ?_; refine wpl_newT rfl _ _ rfl rfl rfl rfl ?_; intro W1 hW1; obtain ⟨HX, HB, HTk, q0, q10, HQ, zW⟩ := tokW_facts hW1 HT.out; have gW := HB.out.size; clear hW1) | (with_reducible refine wpl_id ?_; refine wpl_loadV rfl _ rfl _ rfl HQ.out ?_) | (with_reducible refine wpl_id ?_; refine wpl_loadC rfl _ rfl _ rfl HQ.out ?_) | (go_at_call 94; refine (HLi.out _ ?_).mono ?_; (focus (exact HTk.out)); rintro e w1 ⟨h1, a1, n1, c1, p, rfl, hb1, hd1, hp1⟩; have HX1 := hide (HX.out.below hb1 (by omega)); have z1 := hb1.size; have q1 : w1.cell? ⟨w.heap.size + 1, 10, none⟩ = some (.string ⟨T0.txt.toArray⟩) := (hb1.cell (p := ⟨w.heap.size + 1, 10, none⟩) (by show w.heap.size + 1 < W1.heap.size; omega)).trans q10; have z2 : w.heap.size + 1 < w1.heap.size := (by omega); have HB1 := hide (HB.out.trans (hb1.mono (by omega))); clear hb1) | (with_reducible refine wpl_id ?_; refine wpl_newR rfl _ _ rfl rfl rfl rfl ?_) | (with_reducible refine wpl_id ?_; refine wpl_newRN rfl _ _ rfl rfl rfl rfl ?_) | (with_reducible refine wpl_id ?_; refine wpl_buildN rfl _ _ rfl (qs := #[(0, .int .i64 6), (4, .string ⟨T0.txt.toArray⟩), (5, .slice none 0 0)]) rfl (run_call2 T0.txt none 0 0 _) ?_) | (with_reducible refine wpl_id ?_; refine wpl_loadR rfl _ rfl _ rfl (BoxR.new w1 _) ?_) | (with_reducible refine wpl_id ?_; refine wpl_storeR rfl _ _ rfl _ rfl rfl (HX1.out.alloc _) rfl ?_))
  refine bodyPost_ret (BoxR.ret rfl ((HX1.out.alloc _).set _) rfl) rfl ?_
  exact ⟨_, _, _, _, p, rfl, below_set (bar_below HB1.out (Bar.of (below_al _ _))) (Nat.le_refl _) _, hd1, hp1⟩
set_option maxRecDepth 100000 in
set_option maxHeartbeats 4000000 in
theorem rsingle_open_bad (ts : List Tok) (g o cap i j1 : Nat) (w : World) (hT : TkAt w g o cap ts) (hi : i < ts.length) (hl : ts.length ≤ 2000) (hj1 : j1 = i + 1) (h40 : atB (ts.drop i) [40] = true) (HR : ReadC ts g o cap j1 0 (rd (.form 1) (ts.drop j1))) (l1 : List Tok) (hq : rd (.form 1) (ts.drop j1) = .bad l1) :
    Calls Tryz.prog 68 #[.slice (some ⟨g, o, none⟩) ts.length cap, .int .i64 (i : Int)] w (ToldR ts w (rd .single (ts.drop i))) := by
  have dt1 : ts.drop j1 = (ts.drop i).tail := by rw [hj1]; exact drop_tail ts i
  have hr := rd_open (l := ts.drop i) h40
  rw [← dt1, hq] at hr
  simp only [Rs.on] at hr
  rw [hr]
  rw [hq] at HR
  have HRi := hide HR
  obtain ⟨k4, _⟩ := atB_kind h40
  have HA : Hid (∀ W : World, TkAt W g o cap ts → Calls Tryz.prog 69 #[.slice (some ⟨g, o, none⟩) ts.length cap, .int .i64 (i : Int), .string ⟨#[40]⟩] W fun e w' => e = .returned (.bool true) ∧ w' = W) := fun W hW => by
    have := ris_any g o cap ts i ⟨#[40]⟩ W hW hi
    rw [show atB (ts.drop i) (⟨#[40]⟩ : ByteArray).data.toList = true from h40] at this
    exact this
  clear hr dt1 h40 HR hq
  obtain ⟨m1, m2, m3, _⟩ := id hT
  have HCi : Hid (∀ (O : Obj) (j : Nat), j < 12 → (w.alloc O).cell? ⟨g, o + i * 12 + j, none⟩ = (tokC (hd (ts.drop i)))[j]?) := fun O j hj => (below_obj0 w O m3).trans (hT.tok hi j hj)
  have HT := hide hT
  unfold maxLen at m2
  clear hT
  have hw1 : IntKind.i64.wrap ((i : Int) + 1) = (j1 : Int) := by rw [wrap_le (by omega) (by omega)]; omega
  clear hj1
  generalize hd (ts.drop i) = T0 at *
  go_enter Tryz.func68, Tryz.ntmps68
  go_wp2_with (first | (with_reducible refine wpl_id ?_; refine wpl_loadT rfl _ rfl _ _ rfl (HCi.out _) ?_) | (with_reducible refine wpl_id ?_; refine wpl_newT rfl _ _ rfl rfl rfl rfl ?_; intro W1 hW1; obtain ⟨HX, HB, HTk, q0, q10, HQ, zW⟩ := tokW_facts hW1 HT.out; have gW := HB.out.size; clear hW1) | (with_reducible refine wpl_id ?_; refine wpl_loadV rfl _ rfl _ rfl HQ.out ?_) | (with_reducible refine wpl_id ?_; refine wpl_loadC rfl _ rfl _ rfl HQ.out ?_) | (go_at_call_of 69 [Value.slice (some ⟨g, o, none⟩) ts.length cap, Value.int .i64 (i : Int), Value.string ⟨#[40]⟩]; refine (HA.out _ ?_).mono ?_; (focus (exact HTk.out)); rintro e wz ⟨rfl, hz⟩; subst wz) | (go_at_call 46; refine (HRi.out _ ?_).mono ?_; (focus (exact HTk.out)); rintro e w1 ⟨h1, a1, n1, c1, p, rfl, hb1, hd1, hp1⟩; have HX1 := hide (HX.out.below hb1 (by omega)); have z1 := hb1.size; have q1 : w1.cell? ⟨w.heap.size + 1, 10, none⟩ = some (.string ⟨T0.txt.toArray⟩) := (hb1.cell (p := ⟨w.heap.size + 1, 10, none⟩) (by show w.heap.size + 1 < W1.heap.size; omega)).trans q10; have z2 : w.heap.size + 1 < w1.heap.size := (by omega); have HB1 := hide (HB.out.trans (hb1.mono (by omega))); have c16 := (BoxR.new w1 (rdC h1 (.slice a1 n1 c1) p true)).at; have c17 := (BoxR.new w1 (rdC h1 (.slice a1 n1 c1) p true)).bad;  clear hb1) | (with_reducible refine wpl_id ?_; refine wpl_newR rfl _ _ rfl rfl rfl rfl ?_) | (with_reducible refine wpl_id ?_; refine wpl_loadR (h := h1) (v := .slice a1 n1 c1) (p := p) (b := true) rfl _ rfl _ rfl (BoxR.new w1 _) ?_) | (with_reducible refine wpl_id ?_; refine wpl_storeR rfl _ _ rfl _ rfl rfl (HX1.out.alloc _) rfl ?_))
  refine bodyPost_ret (BoxR.ret rfl ((HX1.out.alloc _).set _) rfl) rfl ?_
  exact ⟨_, _, _, _, p, rfl, below_set (bar_below HB1.out (Bar.of (below_al _ _))) (Nat.le_refl _) _, hd1, hp1⟩
set_option maxRecDepth 100000 in
set_option maxHeartbeats 4000000 in
theorem rsingle_open_no (ts : List Tok) (g o cap i j1 : Nat) (w : World) (hT : TkAt w g o cap ts) (hi : i < ts.length) (hl : ts.length ≤ 2000) (hj1 : j1 = i + 1) (h40 : atB (ts.drop i) [40] = true) (HR : ReadC ts g o cap j1 0 (rd (.form 1) (ts.drop j1))) (h : Hd) (k : Fo) (l1 : List Tok) (hq : rd (.form 1) (ts.drop j1) = .ok h k l1) (h41 : atB l1 [41] = false) :
    Calls Tryz.prog 68 #[.slice (some ⟨g, o, none⟩) ts.length cap, .int .i64 (i : Int)] w (ToldR ts w (rd .single (ts.drop i))) := by
  have dt1 : ts.drop j1 = (ts.drop i).tail := by rw [hj1]; exact drop_tail ts i
  have hr := rd_open (l := ts.drop i) h40
  rw [← dt1, hq] at hr
  simp only [Rs.on] at hr
  rw [h41, if_neg (by simp)] at hr
  rw [hr]
  rw [hq] at HR
  have HRi := hide HR
  obtain ⟨k4, _⟩ := atB_kind h40
  have HA : Hid (∀ W : World, TkAt W g o cap ts → Calls Tryz.prog 69 #[.slice (some ⟨g, o, none⟩) ts.length cap, .int .i64 (i : Int), .string ⟨#[40]⟩] W fun e w' => e = .returned (.bool true) ∧ w' = W) := fun W hW => by
    have := ris_any g o cap ts i ⟨#[40]⟩ W hW hi
    rw [show atB (ts.drop i) (⟨#[40]⟩ : ByteArray).data.toList = true from h40] at this
    exact this
  have HA2 : Hid (∀ (p : Nat) (W : World), ts.drop p = l1 → p < ts.length → TkAt W g o cap ts → Calls Tryz.prog 69 #[.slice (some ⟨g, o, none⟩) ts.length cap, .int .i64 (p : Int), .string ⟨#[41]⟩] W fun e w' => e = .returned (.bool false) ∧ w' = W) := fun p W hp hlt hW => by
    have := ris_any g o cap ts p ⟨#[41]⟩ W hW hlt
    rw [hp, show atB l1 (⟨#[41]⟩ : ByteArray).data.toList = false from h41] at this
    exact this
  clear hr dt1 h40 HR hq
  clear h41
  obtain ⟨m1, m2, m3, _⟩ := id hT
  have HCi : Hid (∀ (O : Obj) (j : Nat), j < 12 → (w.alloc O).cell? ⟨g, o + i * 12 + j, none⟩ = (tokC (hd (ts.drop i)))[j]?) := fun O j hj => (below_obj0 w O m3).trans (hT.tok hi j hj)
  have HT := hide hT
  unfold maxLen at m2
  clear hT
  have hw1 : IntKind.i64.wrap ((i : Int) + 1) = (j1 : Int) := by rw [wrap_le (by omega) (by omega)]; omega
  clear hj1
  generalize hd (ts.drop i) = T0 at *
  go_enter Tryz.func68, Tryz.ntmps68
  go_wp2_with (first | (with_reducible refine wpl_id ?_; refine wpl_loadT rfl _ rfl _ _ rfl (HCi.out _) ?_) | (with_reducible refine wpl_id ?_; refine wpl_newT rfl _ _ rfl rfl rfl rfl ?_; intro W1 hW1; obtain ⟨HX, HB, HTk, q0, q10, HQ, zW⟩ := tokW_facts hW1 HT.out; have gW := HB.out.size; clear hW1) | (with_reducible refine wpl_id ?_; refine wpl_loadV rfl _ rfl _ rfl HQ.out ?_) | (with_reducible refine wpl_id ?_; refine wpl_loadC rfl _ rfl _ rfl HQ.out ?_) | (go_at_call_of 69 [Value.slice (some ⟨g, o, none⟩) ts.length cap, Value.int .i64 (i : Int), Value.string ⟨#[40]⟩]; refine (HA.out _ ?_).mono ?_; (focus (exact HTk.out)); rintro e wz ⟨rfl, hz⟩; subst wz) | (go_at_call 46; refine (HRi.out _ ?_).mono ?_; (focus (exact HTk.out)); rintro e w1 ⟨a1, n1, c1, p, rfl, hk1, hb1, hd1, hp1⟩; have HK1 := hide hk1; have HTk1 := hide ((HTk.out.below hb1).below (below_al w1 (.cells (rdC h (.slice a1 n1 c1) p false).toArray 111))); have HX1 := hide (HX.out.below hb1 (by omega)); have z1 := hb1.size; have q1 : w1.cell? ⟨w.heap.size + 1, 10, none⟩ = some (.string ⟨T0.txt.toArray⟩) := (hb1.cell (p := ⟨w.heap.size + 1, 10, none⟩) (by show w.heap.size + 1 < W1.heap.size; omega)).trans q10; have z2 : w.heap.size + 1 < w1.heap.size := (by omega); have HB1 := hide (HB.out.trans (hb1.mono (by omega))); have c16 := (BoxR.new w1 (rdC h (.slice a1 n1 c1) p false)).at; have c17 := (BoxR.new w1 (rdC h (.slice a1 n1 c1) p false)).bad;  clear hk1 hb1) | (with_reducible refine wpl_id ?_; refine wpl_newR rfl _ _ rfl rfl rfl rfl ?_) | (go_at_call_of 69 [Value.slice (some ⟨g, o, none⟩) ts.length cap, Value.int .i64 (p : Int), Value.string ⟨#[41]⟩]; refine (HA2.out p _ hd1 hp1 HTk1.out).mono ?_; rintro e wz ⟨rfl, hz⟩; subst wz) | (with_reducible refine wpl_id ?_; refine wpl_buildN rfl _ _ rfl (qs := #[(1, .int .i64 (p : Int)), (2, .bool true)]) rfl (run_rdBad p _) ?_) | (with_reducible refine wpl_id ?_; refine wpl_storeR rfl _ _ rfl _ rfl rfl (HX1.out.alloc _) rfl ?_))
  refine bodyPost_ret (BoxR.ret rfl ((HX1.out.alloc _).set _) rfl) rfl ?_
  exact ⟨_, _, _, _, p, rfl, below_set (bar_below HB1.out (Bar.of (below_al _ _))) (Nat.le_refl _) _, hd1, hp1⟩
set_option maxRecDepth 100000 in
set_option maxHeartbeats 4000000 in
theorem rsingle_open_yes (ts : List Tok) (g o cap i j1 : Nat) (w : World) (hT : TkAt w g o cap ts) (hi : i < ts.length) (hl : ts.length ≤ 2000) (hj1 : j1 = i + 1) (h40 : atB (ts.drop i) [40] = true) (HR : ReadC ts g o cap j1 0 (rd (.form 1) (ts.drop j1))) (h : Hd) (k : Fo) (l1 : List Tok) (hq : rd (.form 1) (ts.drop j1) = .ok h k l1) (he1 : Ended l1) (h41 : atB l1 [41] = true) :
    Calls Tryz.prog 68 #[.slice (some ⟨g, o, none⟩) ts.length cap, .int .i64 (i : Int)] w (ToldR ts w (rd .single (ts.drop i))) := by
  have dt1 : ts.drop j1 = (ts.drop i).tail := by rw [hj1]; exact drop_tail ts i
  have hr := rd_open (l := ts.drop i) h40
  rw [← dt1, hq] at hr
  simp only [Rs.on] at hr
  rw [h41, if_pos rfl] at hr
  rw [hr]
  rw [hq] at HR
  have HRi := hide HR
  obtain ⟨k4, _⟩ := atB_kind h40
  have HA : Hid (∀ W : World, TkAt W g o cap ts → Calls Tryz.prog 69 #[.slice (some ⟨g, o, none⟩) ts.length cap, .int .i64 (i : Int), .string ⟨#[40]⟩] W fun e w' => e = .returned (.bool true) ∧ w' = W) := fun W hW => by
    have := ris_any g o cap ts i ⟨#[40]⟩ W hW hi
    rw [show atB (ts.drop i) (⟨#[40]⟩ : ByteArray).data.toList = true from h40] at this
    exact this
  have HA2 : Hid (∀ (p : Nat) (W : World), ts.drop p = l1 → p < ts.length → TkAt W g o cap ts → Calls Tryz.prog 69 #[.slice (some ⟨g, o, none⟩) ts.length cap, .int .i64 (p : Int), .string ⟨#[41]⟩] W fun e w' => e = .returned (.bool true) ∧ w' = W) := fun p W hp hlt hW => by
    have := ris_any g o cap ts p ⟨#[41]⟩ W hW hlt
    rw [hp, show atB l1 (⟨#[41]⟩ : ByteArray).data.toList = true from h41] at this
    exact this
  have HTl : Hid (Ended l1.tail) := ended_at he1 h41
  clear hr dt1 h40 HR hq
  clear he1 h41
  obtain ⟨m1, m2, m3, _⟩ := id hT
  have HCi : Hid (∀ (O : Obj) (j : Nat), j < 12 → (w.alloc O).cell? ⟨g, o + i * 12 + j, none⟩ = (tokC (hd (ts.drop i)))[j]?) := fun O j hj => (below_obj0 w O m3).trans (hT.tok hi j hj)
  have HT := hide hT
  unfold maxLen at m2
  clear hT
  have hw1 : IntKind.i64.wrap ((i : Int) + 1) = (j1 : Int) := by rw [wrap_le (by omega) (by omega)]; omega
  clear hj1
  generalize hd (ts.drop i) = T0 at *
  go_enter Tryz.func68, Tryz.ntmps68
  go_wp2_with (first | (with_reducible refine wpl_id ?_; refine wpl_loadT rfl _ rfl _ _ rfl (HCi.out _) ?_) | (with_reducible refine wpl_id ?_; refine wpl_newT rfl _ _ rfl rfl rfl rfl ?_; intro W1 hW1; obtain ⟨HX, HB, HTk, q0, q10, HQ, zW⟩ := tokW_facts hW1 HT.out; have gW := HB.out.size; clear hW1) | (with_reducible refine wpl_id ?_; refine wpl_loadV rfl _ rfl _ rfl HQ.out ?_) | (with_reducible refine wpl_id ?_; refine wpl_loadC rfl _ rfl _ rfl HQ.out ?_) | (go_at_call_of 69 [Value.slice (some ⟨g, o, none⟩) ts.length cap, Value.int .i64 (i : Int), Value.string ⟨#[40]⟩]; refine (HA.out _ ?_).mono ?_; (focus (exact HTk.out)); rintro e wz ⟨rfl, hz⟩; subst wz) | (go_at_call 46; refine (HRi.out _ ?_).mono ?_; (focus (exact HTk.out)); rintro e w1 ⟨a1, n1, c1, p, rfl, hk1, hb1, hd1, hp1⟩; have HK1 := hide hk1; have HTk1 := hide ((HTk.out.below hb1).below (below_al w1 (.cells (rdC h (.slice a1 n1 c1) p false).toArray 111))); obtain ⟨p1, hp2⟩ : ∃ p1 : Nat, p1 = p + 1 := ⟨_, rfl⟩; have hw2 : IntKind.i64.wrap ((p : Int) + 1) = (p1 : Int) := (by rw [wrap_le (by omega) (by omega)]; omega); have HP2 := hide hp2; have cf := (BoxR.new w1 (rdC h (.slice a1 n1 c1) p false)).free 16; clear hp2; have HX1 := hide (HX.out.below hb1 (by omega)); have z1 := hb1.size; have q1 : w1.cell? ⟨w.heap.size + 1, 10, none⟩ = some (.string ⟨T0.txt.toArray⟩) := (hb1.cell (p := ⟨w.heap.size + 1, 10, none⟩) (by show w.heap.size + 1 < W1.heap.size; omega)).trans q10; have z2 : w.heap.size + 1 < w1.heap.size := (by omega); have HB1 := hide (HB.out.trans (hb1.mono (by omega))); have c16 := (BoxR.new w1 (rdC h (.slice a1 n1 c1) p false)).at; have c17 := (BoxR.new w1 (rdC h (.slice a1 n1 c1) p false)).bad;  clear hk1 hb1) | (with_reducible refine wpl_id ?_; refine wpl_newR rfl _ _ rfl rfl rfl rfl ?_) | (go_at_call_of 69 [Value.slice (some ⟨g, o, none⟩) ts.length cap, Value.int .i64 (p : Int), Value.string ⟨#[41]⟩]; refine (HA2.out p _ hd1 hp1 HTk1.out).mono ?_; rintro e wz ⟨rfl, hz⟩; subst wz) | (with_reducible refine wpl_id ?_; refine wpl_loadR (h := h) (v := .slice a1 n1 c1) (p := p1) (b := false) rfl _ rfl _ rfl (BoxR.new w1 _) ?_) | (with_reducible refine wpl_id ?_; refine wpl_storeR rfl _ _ rfl _ rfl rfl (HX1.out.alloc _) rfl ?_))
  refine bodyPost_ret (BoxR.ret rfl ((HX1.out.alloc _).set _) rfl) rfl ?_
  have hdp : ts.drop p1 = l1.tail := by rw [HP2.out, drop_tail, hd1]
  refine ⟨_, _, _, p1, rfl, ?_, below_set (bar_below HB1.out (Bar.of (below_al _ _))) (Nat.le_refl _) _, hdp, drop_lt (by rw [hdp]; exact ended_ne HTl.out)⟩
  refine kv_since HK1.out (by omega) (by simp) (fun b h1 h2 => ?_)
  rw [setRow_heap _ _ _ _ (by omega), Below.heap_alloc _ _ _ h2]
end
end Go.Proofs.YtklldmidcmfbdaaGreatDoor
