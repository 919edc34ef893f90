/-
  Out of TrO6, TrO7, TrO8, what is asked for (laid by pack9.py).
-/
import Derived.Test.YtklldmidcmfbdaaGreatDoorVNum
import Derived.Test.YtklldmidcmfbdaaGreatDoorVVal
import Derived.Test.YtklldmidcmfbdaaGreatDoorVVal3
import Derived.Test.YtklldmidcmfbdaaGreatDoorVVal4
import Derived.Test.YtklldmidcmfbdaaGreatDoorZ1
import Derived.Test.YtklldmidcmfbdaaGreatDoorZ3
import Derived.Test.YtklldmidcmfbdaaGreatDoorZ4
import Derived.Test.YtklldmidcmfbdaaGreatDoorZ5
import Derived.Test.YtklldmidcmfbdaaGreatDoorZ5b
import Derived.Test.YtklldmidcmfbdaaGreatDoorZ6
import Derived.Test.YtklldmidcmfbdaaGreatDoorZ7
import Derived.BigCall
import Derived.BigGuard
import Derived.BigQuiet
import Derived.ChangeArms
import Derived.Deep.MidRow
import Derived.Deep.QuietTactic
import Derived.Deep.RegionHeld3
import Derived.Deep.RegionWith
import Derived.Deep.WholeRow
import Derived.Defers
import Derived.Great.BuildSlice
import Derived.LaidEql
import Derived.Laws.Cover1
import Derived.Laws.EntriesVeiled
import Derived.Laws.IdiomStrings
import Derived.Lib.AppendIntMem
import Derived.Lib.AtoiErrMem
import Derived.Lib.IndexMore
import Derived.Lib.ItoaMem
import Derived.Lib.LaidTab
import Derived.Lib.MinMax
import Derived.Lib.OthersKept
import Derived.Lib.Replace
import Derived.Lib.ReplaceLaws
import Derived.Lib.SmallJoins
import Derived.Lib.Walk
import Derived.LoopIn
import Derived.LoopNIn
import Derived.LoopTactic
import Derived.Maps.AppendAt
import Derived.OwnWalkIn
import Derived.RangeFuncBound
import Derived.RangeFuncBox
import Derived.RangeFuncCalls
import Derived.RangeFuncLeaves
import Derived.RangeFuncNested
import Derived.Recover
import Derived.RowKitTokens
import Derived.Shelf.Abstract
import Derived.Shelf.RegionOpen
import Derived.Stop.Asserts
import Derived.TacticsInMore
import Derived.WalkKit
import Derived.WalkLawsBesides
import Derived.WalkSmall
import Derived.WalkSpells
import Derived.WideShapes
namespace Go.Proofs.YtklldmidcmfbdaaGreatDoor
section
open Go.RowKit
/-- What list hands back. -/
theorem BoxR.retL {fn : Func} {s p : Tmp} (hf : fn.results = #[.tmp s, .cell p 111]) {tmps : Array Value} {w : World} {b : Nat} {h : Hd} {v u : Value} {q : Nat} {x : Bool} (k : BoxR w b (rdC h v q x)) (hs : tmps.getD s undef = u) (hp : tmps.getD p undef = .pointer (some ⟨b, 0, none⟩)) : (results fn tmps).run Tryz.prog w = .ok (.tuple #[u, .agg (rdC h v q x).toArray]) w := by
  have hp' : tmps[p]?.getD undef = .pointer (some ⟨b, 0, none⟩) := by simpa using hp
  have hs' : tmps[s]?.getD undef = u := by simpa using hs
  simp [results, hf, hp', hs', asAddr, run_loadVar_row w b 111 111 (rdC h v q x).toArray (0, 0) _ k Tryz.underlying111 rfl (by rw [sizeR]; rfl)]
theorem exec_loadR {o : Oper} {a : Act} {W : World} (x : Operand) (ho : o.op = .load 111 x) (b : Nat) (hx : a.eval x = .pointer (some ⟨b, 0, none⟩)) {h : Hd} {v : Value} {q : Nat} {y : Bool} (k : BoxR W b (rdC h v q y)) :
    (execOp a.eval o).run Tryz.prog W = .ok (.value (.agg (rdC h v q y).toArray)) W := by
  have hr : W.rangeAt b 0 (rdC h v q y) := fun j u hu => by
    rw [Nat.zero_add, cell_of_row W b j _ _ _ k]; simpa using hu
  unfold execOp
  simp only [ho, hx, Instr.loadAt, Instr.sureAddr, Sem.run_bind, Sem.run_pure, Result.andThen_ok, run_loadVar_mid W b 0 111 (rdC h v q y) _ hr Tryz.underlying111 rfl (by rw [sizeR]; rfl)]
theorem own_below {w w' : World} {n₀ n : Nat} {v : Value} {xs : List Value} (h : w.ownsRow n₀ 68 16 v n xs) (hb : Below w.heap.size w w') : w'.ownsRow n₀ 68 16 v n xs :=
  World.ownsRow.kept h ⟨hb.os, hb.tape, hb.output, hb.size, fun k hk _ => hb.block k hk⟩ (row := none) (by cases v.ownBlock <;> simp)
/-- Kids under way. -/
structure ListAt (w : World) (v : Value) (L : List (Hd × Value)) (F : Fo) (wr : World) : Prop where
  own : wr.ownsRow (w.heap.size + 1) 68 16 v L.length (cellsN L)
  ent : Ent wr (Off (w.alloc (.cells (rdC zh (.slice none 0 0) 0 false).toArray 111)) v wr) L F
  below : Below w.heap.size w wr
  box : BoxR wr w.heap.size (rdC zh (.slice none 0 0) 0 false)
  le : w.heap.size + 1 ≤ wr.heap.size
theorem list_first (w : World) : ListAt w (.slice none 0 0) [] .nil (w.alloc (.cells (rdC zh (.slice none 0 0) 0 false).toArray 111)) :=
  ⟨World.ownsRow_nil _ _ _ _, trivial, below_al _ _, BoxR.new _ _, by simp⟩
theorem ListAt.kv {w wr : World} {v : Value} {L : List (Hd × Value)} {F : Fo} (h : ListAt w v L F wr) : ∃ a n cap, v = .slice a n cap ∧ Kv wr (fun b => w.heap.size < b ∧ b < wr.heap.size) (.slice a n cap) F := by
  have hz : (w.alloc (.cells (rdC zh (.slice none 0 0) 0 false).toArray 111)).heap.size = w.heap.size + 1 := by simp
  by_cases hL : 1 ≤ L.length
  · obtain ⟨g, cap, rfl, hb, hg, hnc, hcm, hc⟩ := own_slice h.own hL
    refine ⟨_, _, _, rfl, _, _, _, rfl, ent_len _ _ h.ent, .inr ⟨g, 0, rfl, hnc, hcm, ?_⟩⟩
    exact ent_row ⟨by omega, hg⟩ L F 0 (fun j u hu => by rw [Nat.zero_add]; exact hc j u hu) (ent_to (fun b hb => ⟨⟨by have := hb.1; omega, hb.2.2⟩, rfl⟩) L F h.ent)
  · have h0 : L = [] := List.length_eq_zero_iff.1 (by omega)
    subst h0
    have hF := h.ent
    have hown := h.own
    match F, hF with
    | .nil, _ =>
      rcases hown.2 with ⟨rfl, _⟩ | ⟨g, cap, cur, rfl, _⟩
      · exact ⟨_, _, _, rfl, kv_nil _ _ _ _⟩
      · exact ⟨_, _, _, rfl, kv_nil _ _ _ _⟩
/-- One more: behind read, its reading's block, the literal. -/
theorem list_more {w wr w1 w4 : World} {v v' : Value} {L : List (Hd × Value)} {F : Fo} {h : Hd} {a : Option Addr} {n cap : Nat} {k : Fo} {cs : Array Value} (hA : ListAt w v L F wr) (hb1 : Below wr.heap.size wr w1) (hk : Kv w1 (New wr w1) (.slice a n cap) k)
    (hown : w4.ownsRow (w.heap.size + 1) 68 16 v' (L.length + 1) (cellsN L ++ hdC h (.slice a n cap))) (hg : ((w1.alloc (.cells cs 111)).alloc (.cells (hdC h (.slice a n cap)).toArray 68)).grownBy w4 v.ownBlock) (hw : v'.ownBlock = v.ownBlock ∨ v'.ownBlock = some (w1.heap.size + 1 + 1)) :
    ListAt w v' (L ++ [(h, .slice a n cap)]) (F.snoc h k) w4 ∧ w4.heap[w1.heap.size]? = some (.cells cs 111 (0, 0)) ∧ w1.heap.size + 2 ≤ w4.heap.size := by
  have hz : (w.alloc (.cells (rdC zh (.slice none 0 0) 0 false).toArray 111)).heap.size = w.heap.size + 1 := by simp
  have s0 := hA.le
  have s1 := hb1.size
  have s3 : w1.heap.size + 1 + 1 ≤ w4.heap.size := by have := hg.size; simpa using this
  have hlt : ∀ b, v.ownBlock = some b → b < wr.heap.size ∧ w.heap.size + 1 ≤ b := fun b e => by have := hA.own.lt b e; omega
  have hb3 : ∀ b, b < w1.heap.size → v.ownBlock ≠ some b → w4.heap[b]? = w1.heap[b]? := fun b hb hn => by
    rw [hg.block b (by simp; omega) (fun e => hn e.symm), Below.heap_alloc _ _ _ (by simp; omega), Below.heap_alloc _ _ _ hb]
  have hvo : ∀ b, b < w1.heap.size → v.ownBlock ≠ some b → v'.ownBlock ≠ some b := fun b hb hn e => by
    rcases hw with hw | hw
    · rw [hw] at e; exact hn e
    · rw [hw] at e; simp at e; omega
  have hbw : ∀ b, b < w.heap.size + 1 → w4.heap[b]? = wr.heap[b]? := fun b hb => by
    rw [hb3 b (by omega) (fun e => by have := hlt b e; omega), hb1.block b (by omega)]
  refine ⟨⟨?_, ent_snoc (kv_to hk fun b hb => ?_) L F (ent_to (fun b hb => ?_) L F hA.ent), ?_, ?_, by omega⟩, ?_, by omega⟩
  · have : cellsN (L ++ [(h, .slice a n cap)]) = cellsN L ++ hdC h (.slice a n cap) := by simp [cellsN]
    rw [this, List.length_append]
    exact hown
  · have h1 := hb.1
    have h2 := hb.2
    have hn : v.ownBlock ≠ some b := fun e => by have := hlt b e; omega
    exact ⟨⟨by omega, hvo b h2 hn, by omega⟩, hb3 b h2 hn⟩
  · obtain ⟨q1, q2, q3⟩ := hb
    refine ⟨⟨q1, hvo b (by omega) q2, by omega⟩, ?_⟩
    rw [hb3 b (by omega) q2, hb1.block b (by omega)]
  · refine ⟨hg.os.trans (hb1.os.trans hA.below.os), hg.tape.trans (hb1.tape.trans hA.below.tape), hg.output.trans (hb1.output.trans hA.below.output), by have := hA.below.size; omega, fun b hb => ?_⟩
    rw [hbw b (by omega), hA.below.block b hb]
  · unfold BoxR
    rw [hbw _ (by omega)]
    exact hA.box
  · rw [hg.block _ (by simp; omega) (fun e => by have := hlt _ e.symm; omega), Below.heap_alloc _ _ _ (by simp)]
    exact heap_alloc_new w1 _
set_option maxRecDepth 100000 in
set_option maxHeartbeats 2000000 in
theorem rlist_empty (ts : List Tok) (g o cap i i1 : Nat) (w : World) (hT : TkAt w g o cap ts) (hi : i < ts.length) (hl : ts.length ≤ 2000) (he : Ended (ts.drop i)) (hi1 : i1 = i + 1) (h41 : atB (ts.drop i) [41] = true) :
    Calls Tryz.prog 94 #[.slice (some ⟨g, o, none⟩) ts.length cap, .int .i64 (i : Int)] w (ToldL ts w (rdL (ts.drop i))) := by
  have hd1 : ts.drop i1 = (ts.drop i).tail := by rw [hi1]; exact drop_tail ts i
  have h1 : i1 < ts.length := drop_lt (by rw [hd1]; exact ended_ne (ended_at he h41))
  have hr : rdL (ts.drop i) = .ok zh .nil (ts.drop i1) := by unfold rdL; rw [if_pos h41, hd1]
  rw [hr]
  have HA : Hid (∀ W : World, TkAt W g o cap ts → Calls Tryz.prog 69 #[.slice (some ⟨g, o, none⟩) ts.length cap, .int .i64 (i : Int), .string ⟨#[41]⟩] W fun e w' => e = .returned (.bool true) ∧ w' = W) := fun W hW => by
    have := ris_any g o cap ts i ⟨#[41]⟩ W hW hi
    rw [show atB (ts.drop i) (⟨#[41]⟩ : ByteArray).data.toList = true from h41] at this
    exact this
  have hw1 : IntKind.i64.wrap ((i : Int) + 1) = (i1 : Int) := by rw [wrap_le (by omega) (by omega)]; omega
  have HX := hide (BoxR.new w (rdC zh (.slice none 0 0) 0 false))
  have HTk := hide (hT.below (below_al w (.cells (rdC zh (.slice none 0 0) 0 false).toArray 111)))
  clear hr hd1 he hi1 hT h41
  go_enter Tryz.func94, Tryz.ntmps94
  go_wp2_with (first | (go_at_call 69; refine (HA.out _ HTk.out).mono ?_; rintro e wz ⟨rfl, hz⟩; subst wz) | (with_reducible refine wpl_id ?_; refine wpl_buildN rfl _ _ rfl (qs := #[(1, .int .i64 (i1 : Int))]) rfl (run_rdAt i1 _) ?_) | (with_reducible refine wpl_id ?_; refine wpl_storeR rfl _ _ rfl _ rfl rfl HX.out rfl ?_))
  refine bodyPost_ret (BoxR.retL rfl (HX.out.set _) rfl rfl) rfl ?_
  exact ⟨_, _, _, i1, rfl, kv_nil _ _ _ _, below_set (below_al _ _) (Nat.le_refl _) _, rfl, h1⟩
/-- Where a reading stands, in memory. -/
def natOf (v : Value) : Nat := (intOf v).toNat
set_option maxRecDepth 100000 in
set_option maxHeartbeats 4000000 in
theorem rlist_some (ts : List Tok) (g o cap i : Nat) (w : World) (hT : TkAt w g o cap ts) (hi : i < ts.length) (hl : ts.length ≤ 2000) (he : Ended (ts.drop i)) (h41 : atB (ts.drop i) [41] = false)
    (HF : ∀ p, i ≤ p → p < ts.length → Ended (ts.drop p) → ReadC ts g o cap p 0 (rd (.form 1) (ts.drop p))) :
    Calls Tryz.prog 94 #[.slice (some ⟨g, o, none⟩) ts.length cap, .int .i64 (i : Int)] w (ToldL ts w (rdL (ts.drop i))) := by
  obtain ⟨i0, hinf, hz0, hz1, hz2⟩ := info_parts infoNode3
  obtain ⟨m1, m2, m3, _⟩ := id hT
  unfold maxLen at m2
  have HR0 : Hid (rdL (ts.drop i) = (rd (.kids .nil) (ts.drop i)).on fun _ k r => if atB r [41] then .ok zh k r.tail else .bad r) := by
    show rdL (ts.drop i) = _
    unfold rdL; rw [if_neg (by rw [h41]; simp)]
  have HA : Hid (∀ W : World, TkAt W g o cap ts → Calls Tryz.prog 69 #[.slice (some ⟨g, o, none⟩) ts.length cap, .int .i64 (i : Int), .string ⟨#[41]⟩] W fun e w' => e = .returned (.bool false) ∧ w' = W) := fun W hW => by
    have := ris_any g o cap ts i ⟨#[41]⟩ W hW hi
    rw [show atB (ts.drop i) (⟨#[41]⟩ : ByteArray).data.toList = false from h41] at this
    exact this
  have HFo := hide HF
  have HTw := hide hT
  have HTk := hide (hT.below (below_al w (.cells (rdC zh (.slice none 0 0) 0 false).toArray 111)))
  have HI := hide (list_first w)
  have HEi := hide he
  clear HF hT h41 he
  go_enter Tryz.func94, Tryz.ntmps94
  go_wp2_with (first | (go_at_call 69; refine (HA.out _ HTk.out).mono ?_; rintro e wz ⟨rfl, hz⟩; subst wz))
  go_loopw [1, 6] (fun ui uo wr => ∃ (p : Nat) (v : Value) (L : List (Hd × Value)) (F : Fo), ui = .int .i64 (p : Int) ∧ uo = v ∧ i ≤ p ∧ p < ts.length ∧ L.length ≤ p ∧ Ended (ts.drop p) ∧ ListAt w v L F wr ∧ rd (.kids .nil) (ts.drop i) = rd (.kids F) (ts.drop p)) (fun ui _ _ => ts.length - natOf ui)
  case atStart => exact ⟨i, _, [], .nil, rfl, rfl, Nat.le_refl _, hi, Nat.zero_le _, HEi.out, HI.out, rfl⟩
  case round =>
    obtain ⟨p, v, L, F, rfl, rfl, hip, hp, hLp, hep, hA, hq⟩ := hrel
    have hk2 := rd_kids F (ts.drop p)
    have hR := HFo.out p hip hp hep
    have HAt := hide hA
    have HTr := hide (HTw.out.to hA.below m3)
    have HQ := hide hq
    have hsz := hA.le
    have hown := hA.own
    have hzz : (w.alloc (.cells (rdC zh (.slice none 0 0) 0 false).toArray 111)).heap.size = w.heap.size + 1 := by simp
    clear hA hq HI HEi
    cases e1 : rd (.form 1) (ts.drop p) with
    | bad l1 =>
      rw [e1] at hk2 hR
      have HQ2 : Hid (rdL (ts.drop i) = .bad l1) := by
        show rdL (ts.drop i) = .bad l1
        rw [HR0.out, HQ.out, hk2]; rfl
      have HRi := hide hR
      clear e1 hk2 hR hep HQ
      go_wp2_with (first | (go_at_call 46; refine (HRi.out _ HTr.out).mono ?_; rintro e w1 ⟨h1, a1, n1, c1, p1, rfl, hb1, hd1, hp1⟩; have HB1 := hide (HAt.out.below.trans (hb1.mono (by have := HAt.out.below.size; omega))); have HX1 := hide (HAt.out.box.below hb1 (by omega)); have z1 := hb1.size; have c17 := (BoxR.new w1 (rdC h1 (.slice a1 n1 c1) p1 true)).bad; clear hb1) | (with_reducible refine wpl_id ?_; refine wpl_newR rfl _ _ rfl rfl rfl rfl ?_))
      have HY := hide (BoxR.new w1 (rdC h1 (.slice a1 n1 c1) p1 true))
      have HYd := hide HY.out.drew
      have HXd := hide (HX1.out.alloc (.cells (rdC h1 (.slice a1 n1 c1) p1 true).toArray 111)).drew
      refine wp_region_held_drew (S := fun W => BoxR W w1.heap.size (rdC h1 (.slice a1 n1 c1) p1 true)) (by kernel_rfl) HY.out (fun hHeld => ?_)
      (refine takeD (i := 0) (some 19) rfl rfl (by kernel_rfl) (by kernel_rfl) (by kernel_rfl) (fun _ _ _ h => h) (v := .agg (rdC h1 (.slice a1 n1 c1) p1 true).toArray) rfl (fun W hSW => exec_loadR _ rfl w1.heap.size rfl hSW) (by assumption) ?_; try simp only [Act.put, List.setIfInBounds_toArray, List.set_cons_zero, List.set_cons_succ])
      (refine takeD (i := 1) (some 4) rfl rfl (by kernel_rfl) (by kernel_rfl) (by kernel_rfl) (fun _ _ _ h => h) (v := ?_) rfl ?_ (by assumption) ?_; rotate_left; (focus (intro w hSw; (try dsimp only at hSw); first | (go_simp; done) | (go_simp; with_reducible rfl))); try simp only [Act.put, List.setIfInBounds_toArray, List.set_cons_zero, List.set_cons_succ])
      refine wpAnyH_ready (rs := [2]) (by kernel_rfl) (by simp) ?_
      refine readyP (o := _) rfl rfl (fun K hK => ?_) AllReadyH.nil
      refine wp_storeR _ _ rfl _ rfl rfl HXd.out rfl ?_
      refine hK.out _ _ (HYd.out.other (by omega) _) (fun hHeld => ?_)
      clear hK K
      refine wpAnyH_done (by kernel_rfl) ?_ _
      go_wp2
      refine bodyPost_ret (BoxR.retL rfl (HXd.out.set _) rfl rfl) rfl ?_
      rw [HQ2.out]
      exact ⟨_, _, _, _, p1, rfl, below_set (bar_below HB1.out (Bar.of (bar_below (below_al w1 _) (Bar.of (below_drew0 _))))) (Nat.le_refl _) _, hd1, hp1⟩
    | ok h k l1 =>
      have hel := rd_ended (c := .form 1) (by simp [fine]) hep e1
      have hln := rd_len (c := .form 1) (by simp [fine]) e1
      rw [e1] at hk2 hR
      simp only [Rs.on] at hk2
      have HQ2 := hide (HQ.out.trans hk2)
      have HRi := hide hR
      simp only [takes] at hln
      clear e1 hk2 hR hep HQ
      go_wp2_with (first | (go_at_call 46; refine (HRi.out _ HTr.out).mono ?_; rintro e w1 ⟨a1, n1, c1, p1, rfl, hk1, hb1, hd1, hp1⟩; have HK1 := hide hk1; have HBr := hide hb1; have z1 := hb1.size; have c17 := (BoxR.new w1 (rdC h (.slice a1 n1 c1) p1 false)).bad; have HO3 := hide ((own_below hown hb1).alloc (.cells (rdC h (.slice a1 n1 c1) p1 false).toArray 111) |>.alloc (.cells (hdC h (.slice a1 n1 c1)).toArray 68)); clear hk1 hb1) | (with_reducible refine wpl_id ?_; refine wpl_newR rfl _ _ rfl rfl rfl rfl ?_) | (with_reducible refine wpl_id ?_; refine wpl_loadRN rfl _ rfl _ rfl (BoxR.new w1 (rdC h (.slice a1 n1 c1) p1 false)) ?_) | (with_reducible refine wpl_id ?_; refine wpl_buildS rfl _ _ _ rfl (qs := #[(0, .agg (hdC h (.slice a1 n1 c1)).toArray)]) rfl (build1 h (.slice a1 n1 c1) _) ?_) | (at_builtin; go_loud (refine wpList_append_own_at _ rfl _ _ 66 rfl (w.heap.size + 1) 68 i0 (.agg (hdC zh (.slice none 0 0)).toArray) 16 144 Tryz.underlying66 hinf hz0 hz1 hz2 rfl (by decide) _ _ _ rfl HO3.out ⟨(w1.alloc (.cells (rdC h (.slice a1 n1 c1) p1 false).toArray 111)).heap.size, 0, none⟩ 1 1 (hdC h (.slice a1 n1 c1)) rfl rfl ?c1 ?c2 ?c3 ?c4 ?c5 ?_)))
      case c1 =>
        intro j u hu
        have := cells_new (w1.alloc (.cells (rdC h (.slice a1 n1 c1) p1 false).toArray 111)) (hdC h (.slice a1 n1 c1)).toArray 68 j u (by simpa using hu)
        exact this
      case c2 =>
        have := hdC_one h (v := .slice a1 n1 c1) rfl
        rw [Array.all_eq_true_iff_forall_mem] at this
        exact fun u hu => this u (by simpa using hu)
      case c3 => unfold maxLen; omega
      case c4 => omega
      case c5 => simp; omega
      intro v' w4 hown4 hgr4 _ hwh4
      obtain ⟨hN, hbx, hs4⟩ := list_more (h := h) (cs := (rdC h (.slice a1 n1 c1) p1 false).toArray) HAt.out HBr.out HK1.out hown4 hgr4 (by simpa using hwh4)
      have HN := hide hN
      have c16 : w4.cell? ⟨w1.heap.size, 16, none⟩ = some (.int .i64 (p1 : Int)) := BoxR.at (show BoxR w4 w1.heap.size (rdC h (.slice a1 n1 c1) p1 false) from hbx)
      have HT4 := hide (HTw.out.to hN.below m3)
      have hpp : p < p1 := by
        have e1 : (ts.drop p1).length = l1.length := by rw [hd1]
        simp only [List.length_drop] at e1 hln
        omega
      obtain ⟨p2, hp2⟩ : ∃ p2 : Nat, p2 = p1 + 1 := ⟨_, rfl⟩
      have hw2 : IntKind.i64.wrap ((p1 : Int) + 1) = (p2 : Int) := by rw [wrap_le (by omega) (by omega)]; omega
      have hdp : ts.drop p2 = l1.tail := by rw [hp2, drop_tail, hd1]
      clear hown4 hgr4 hwh4 hN hbx HAt HO3 hown
      cases h41 : atB l1 [41] with
      | true =>
        have h2 : p2 < ts.length := drop_lt (by rw [hdp]; exact ended_ne (ended_at hel h41))
        have HQ3 : Hid (rdL (ts.drop i) = .ok zh (F.snoc h k) (ts.drop p2)) := by
          show rdL (ts.drop i) = _
          rw [HR0.out, HQ2.out, if_neg (by rw [atB_two h41 (by decide)]; simp)]
          simp only [Rs.on]
          rw [if_pos h41, hdp]
        have HA2 : Hid (∀ W : World, TkAt W g o cap ts → Calls Tryz.prog 69 #[.slice (some ⟨g, o, none⟩) ts.length cap, .int .i64 (p1 : Int), .string ⟨#[41]⟩] W fun e w' => e = .returned (.bool true) ∧ w' = W) := fun W hW => by
          have := ris_any g o cap ts p1 ⟨#[41]⟩ W hW hp1
          rw [show atB (ts.drop p1) (⟨#[41]⟩ : ByteArray).data.toList = true from (by rw [hd1]; exact h41)] at this
          exact this
        obtain ⟨a9, n9, c9, hv9, hkv⟩ := HN.out.kv
        subst hv9
        have HKV := hide hkv
        have HX4 := hide HN.out.box
        clear hkv h41 HQ2 hp2 hdp
        go_wp2_with (first | (go_at_call_of 69 [Value.slice (some ⟨g, o, none⟩) ts.length cap, Value.int .i64 (p1 : Int), Value.string ⟨#[41]⟩]; refine (HA2.out _ HT4.out).mono ?_; rintro e wz ⟨rfl, hz⟩; subst wz) | (with_reducible refine wpl_id ?_; refine wpl_buildN rfl _ _ rfl (qs := #[(1, .int .i64 (p2 : Int))]) rfl (run_rdAt p2 _) ?_) | (with_reducible refine wpl_id ?_; refine wpl_storeR rfl _ _ rfl _ rfl rfl HX4.out rfl ?_))
        refine bodyPost_ret (BoxR.retL rfl (HX4.out.set _) rfl rfl) rfl ?_
        rw [HQ3.out]
        refine ⟨_, _, _, p2, rfl, kv_to HKV.out (fun b hb => ⟨⟨Nat.le_of_lt hb.1, by rw [setRow_size]; exact hb.2⟩, setRow_heap _ _ _ _ (by have := hb.1; omega)⟩), below_set HN.out.below (Nat.le_refl _) _, rfl, h2⟩
      | false =>
        cases h44 : atB l1 [44] with
        | true =>
          have h2 : p2 < ts.length := drop_lt (by rw [hdp]; exact ended_ne (ended_at hel h44))
          have HQ3 : Hid (rd (.kids .nil) (ts.drop i) = rd (.kids (F.snoc h k)) (ts.drop p2)) := by
            show rd (.kids .nil) (ts.drop i) = _
            rw [HQ2.out, if_pos h44, hdp]
          have HE2 : Hid (Ended (ts.drop p2)) := by
            show Ended (ts.drop p2)
            rw [hdp]; exact ended_at hel h44
          have HA3 : Hid (∀ W : World, TkAt W g o cap ts → Calls Tryz.prog 69 #[.slice (some ⟨g, o, none⟩) ts.length cap, .int .i64 (p1 : Int), .string ⟨#[41]⟩] W fun e w' => e = .returned (.bool false) ∧ w' = W) := fun W hW => by
            have := ris_any g o cap ts p1 ⟨#[41]⟩ W hW hp1
            rw [show atB (ts.drop p1) (⟨#[41]⟩ : ByteArray).data.toList = false from (by rw [hd1]; exact h41)] at this
            exact this
          have HA4 : Hid (∀ W : World, TkAt W g o cap ts → Calls Tryz.prog 69 #[.slice (some ⟨g, o, none⟩) ts.length cap, .int .i64 (p1 : Int), .string ⟨#[44]⟩] W fun e w' => e = .returned (.bool true) ∧ w' = W) := fun W hW => by
            have := ris_any g o cap ts p1 ⟨#[44]⟩ W hW hp1
            rw [show atB (ts.drop p1) (⟨#[44]⟩ : ByteArray).data.toList = true from (by rw [hd1]; exact h44)] at this
            exact this
          have HP2 := hide hp2
          clear h41 h44 HQ2 hdp hp2
          go_wp2_with (first | (go_at_call_of 69 [Value.slice (some ⟨g, o, none⟩) ts.length cap, Value.int .i64 (p1 : Int), Value.string ⟨#[41]⟩]; refine (HA3.out _ HT4.out).mono ?_; rintro e wz ⟨rfl, hz⟩; subst wz) | (go_at_call_of 69 [Value.slice (some ⟨g, o, none⟩) ts.length cap, Value.int .i64 (p1 : Int), Value.string ⟨#[44]⟩]; refine (HA4.out _ HT4.out).mono ?_; rintro e wz ⟨rfl, hz⟩; subst wz))
          go_roundw
          case rel => exact ⟨p2, v', _, _, rfl, rfl, by have := HP2.out; omega, h2, by have := HP2.out; simp; omega, HE2.out, HN.out, HQ3.out⟩
          case measure => simp [natOf, intOf]; have := HP2.out; omega
        | false =>
          have HQ3 : Hid (rdL (ts.drop i) = .bad l1) := by
            show rdL (ts.drop i) = _
            rw [HR0.out, HQ2.out, if_neg (by rw [h44]; simp)]
            simp only [Rs.on]
            rw [if_neg (by rw [h41]; simp)]
          have HA3 : Hid (∀ W : World, TkAt W g o cap ts → Calls Tryz.prog 69 #[.slice (some ⟨g, o, none⟩) ts.length cap, .int .i64 (p1 : Int), .string ⟨#[41]⟩] W fun e w' => e = .returned (.bool false) ∧ w' = W) := fun W hW => by
            have := ris_any g o cap ts p1 ⟨#[41]⟩ W hW hp1
            rw [show atB (ts.drop p1) (⟨#[41]⟩ : ByteArray).data.toList = false from (by rw [hd1]; exact h41)] at this
            exact this
          have HA4 : Hid (∀ W : World, TkAt W g o cap ts → Calls Tryz.prog 69 #[.slice (some ⟨g, o, none⟩) ts.length cap, .int .i64 (p1 : Int), .string ⟨#[44]⟩] W fun e w' => e = .returned (.bool false) ∧ w' = W) := fun W hW => by
            have := ris_any g o cap ts p1 ⟨#[44]⟩ W hW hp1
            rw [show atB (ts.drop p1) (⟨#[44]⟩ : ByteArray).data.toList = false from (by rw [hd1]; exact h44)] at this
            exact this
          have HX4 := hide HN.out.box
          clear h41 h44 HQ2 hdp hp2
          go_wp2_with (first | (go_at_call_of 69 [Value.slice (some ⟨g, o, none⟩) ts.length cap, Value.int .i64 (p1 : Int), Value.string ⟨#[41]⟩]; refine (HA3.out _ HT4.out).mono ?_; rintro e wz ⟨rfl, hz⟩; subst wz) | (go_at_call_of 69 [Value.slice (some ⟨g, o, none⟩) ts.length cap, Value.int .i64 (p1 : Int), Value.string ⟨#[44]⟩]; refine (HA4.out _ HT4.out).mono ?_; rintro e wz ⟨rfl, hz⟩; subst wz) | (with_reducible refine wpl_id ?_; refine wpl_buildN rfl _ _ rfl (qs := #[(1, .int .i64 (p1 : Int)), (2, .bool true)]) rfl (run_rdBad p1 _) ?_) | (with_reducible refine wpl_id ?_; refine wpl_storeR rfl _ _ rfl _ rfl rfl HX4.out rfl ?_))
          refine bodyPost_ret (BoxR.retL rfl (HX4.out.set _) rfl rfl) rfl ?_
          rw [HQ3.out]
          exact ⟨_, _, _, _, p1, rfl, below_set HN.out.below (Nat.le_refl _) _, hd1, hp1⟩
end
section
open Go.RowKit
theorem rest_kv {w w1 w' : World} {v : Value} {k : Fo} (hk : Kv w1 (New (w.alloc (.cells (rdC zh (.slice none 0 0) 0 false).toArray 111)) w1) v k) (hs : w1.heap.size ≤ w'.heap.size) (hb : ∀ b, w.heap.size < b → b < w1.heap.size → w'.heap[b]? = w1.heap[b]?) : Kv w' (New w w') v k :=
  kv_to hk (fun b h => by
    have h1 := h.1
    have h2 := h.2
    simp only [World.size_alloc] at h1
    exact ⟨⟨by omega, by omega⟩, hb b (by omega) h2⟩)
set_option maxRecDepth 100000 in
set_option maxHeartbeats 1500000 in
theorem read_five (ts : List Tok) (g o cap i : Nat) (w : World) (hT : TkAt w g o cap ts) (r : Rs) (HS : SingleC ts g o cap i r) :
    Calls Tryz.prog 46 #[.slice (some ⟨g, o, none⟩) ts.length cap, .int .i64 (i : Int), .int .i64 5] w (ToldR ts w (r)) := by
  have HTk := hide (hT.below (below_al w (.cells (rdC zh (.slice none 0 0) 0 false).toArray 111)))
  have HX := hide (BoxR.new w (rdC zh (.slice none 0 0) 0 false))
  have HSi := hide HS
  clear HS hT
  cases r with
  | ok h k l =>
    go_enter Tryz.func46, Tryz.ntmps46
    go_wp2_with (first | (go_at_call 68; refine (HSi.out _ HTk.out).mono ?_; rintro e w1 ⟨a1, n1, c1, p, rfl, hk1, hb1, hd1, hp1⟩; have HK1 := hide hk1; have HX1 := hide (HX.out.below hb1 (by simp)); have HB1 := hide (below_alloc' hb1); clear hk1 hb1) | (with_reducible refine wpl_id ?_; refine wpl_storeR rfl _ _ rfl _ rfl rfl HX1.out rfl ?_))
    refine bodyPost_ret (BoxR.ret rfl (HX1.out.set _) rfl) rfl ?_
    exact ⟨_, _, _, p, rfl, rest_kv HK1.out (by simp) (fun b h1 _ => setRow_heap _ _ _ _ (by omega)), below_set HB1.out (Nat.le_refl _) _, hd1, hp1⟩
  | bad l =>
    go_enter Tryz.func46, Tryz.ntmps46
    go_wp2_with (first | (go_at_call 68; refine (HSi.out _ HTk.out).mono ?_; rintro e w1 ⟨h1, a1, n1, c1, p, rfl, hb1, hd1, hp1⟩; have HX1 := hide (HX.out.below hb1 (by simp)); have HB1 := hide (below_alloc' hb1); clear hb1) | (with_reducible refine wpl_id ?_; refine wpl_storeR rfl _ _ rfl _ rfl rfl HX1.out rfl ?_))
    refine bodyPost_ret (BoxR.ret rfl (HX1.out.set _) rfl) rfl ?_
    exact ⟨_, _, _, _, p, rfl, below_set HB1.out (Nat.le_refl _) _, hd1, hp1⟩
set_option maxRecDepth 100000 in
set_option maxHeartbeats 1500000 in
theorem read_four_no (ts : List Tok) (g o cap i : Nat) (w : World) (hT : TkAt w g o cap ts) (hi : i < ts.length) (h45 : atB (ts.drop i) [45] = false) (r : Rs) (HS : ReadC ts g o cap i 5 r) :
    Calls Tryz.prog 46 #[.slice (some ⟨g, o, none⟩) ts.length cap, .int .i64 (i : Int), .int .i64 4] w (ToldR ts w (r)) := by
  have HTk := hide (hT.below (below_al w (.cells (rdC zh (.slice none 0 0) 0 false).toArray 111)))
  have HX := hide (BoxR.new w (rdC zh (.slice none 0 0) 0 false))
  have HSi := hide HS
  have HA : Hid (∀ W : World, TkAt W g o cap ts → Calls Tryz.prog 69 #[.slice (some ⟨g, o, none⟩) ts.length cap, .int .i64 (i : Int), .string ⟨#[45]⟩] W fun e w' => e = .returned (.bool false) ∧ w' = W) := fun W hW => by
    have := ris_any g o cap ts i ⟨#[45]⟩ W hW hi
    rw [show atB (ts.drop i) (⟨#[45]⟩ : ByteArray).data.toList = false from h45] at this
    exact this
  clear HS hT h45
  cases r with
  | ok h k l =>
    go_enter Tryz.func46, Tryz.ntmps46
    go_wp2_with (first | (go_at_call 69; refine (HA.out _ HTk.out).mono ?_; rintro e wz ⟨rfl, hz⟩; subst wz) | (go_at_call 46; refine (HSi.out _ HTk.out).mono ?_; rintro e w1 ⟨a1, n1, c1, p, rfl, hk1, hb1, hd1, hp1⟩; have HK1 := hide hk1; have HX1 := hide (HX.out.below hb1 (by simp)); have HB1 := hide (below_alloc' hb1); clear hk1 hb1) | (with_reducible refine wpl_id ?_; refine wpl_storeR rfl _ _ rfl _ rfl rfl HX1.out rfl ?_))
    refine bodyPost_ret (BoxR.ret rfl (HX1.out.set _) rfl) rfl ?_
    exact ⟨_, _, _, p, rfl, rest_kv HK1.out (by simp) (fun b h1 _ => setRow_heap _ _ _ _ (by omega)), below_set HB1.out (Nat.le_refl _) _, hd1, hp1⟩
  | bad l =>
    go_enter Tryz.func46, Tryz.ntmps46
    go_wp2_with (first | (go_at_call 69; refine (HA.out _ HTk.out).mono ?_; rintro e wz ⟨rfl, hz⟩; subst wz) | (go_at_call 46; refine (HSi.out _ HTk.out).mono ?_; rintro e w1 ⟨h1, a1, n1, c1, p, rfl, hb1, hd1, hp1⟩; have HX1 := hide (HX.out.below hb1 (by simp)); have HB1 := hide (below_alloc' hb1); clear hb1) | (with_reducible refine wpl_id ?_; refine wpl_storeR rfl _ _ rfl _ rfl rfl HX1.out rfl ?_))
    refine bodyPost_ret (BoxR.ret rfl (HX1.out.set _) rfl) rfl ?_
    exact ⟨_, _, _, _, p, rfl, below_set HB1.out (Nat.le_refl _) _, hd1, hp1⟩
set_option maxRecDepth 100000 in
set_option maxHeartbeats 1500000 in
theorem read_four_yes (ts : List Tok) (g o cap i : Nat) (w : World) (hT : TkAt w g o cap ts) (hi : i < ts.length) (i1 : Nat) (hi1 : i1 = i + 1) (hl : ts.length ≤ 2000) (h45 : atB (ts.drop i) [45] = true) (r : Rs) (hr : rd .single (ts.drop i1) = r) (HS : ReadC ts g o cap i1 4 r) :
    Calls Tryz.prog 46 #[.slice (some ⟨g, o, none⟩) ts.length cap, .int .i64 (i : Int), .int .i64 4] w (ToldR ts w (rd .single (ts.drop i))) := by
  have HTk := hide (hT.below (below_al w (.cells (rdC zh (.slice none 0 0) 0 false).toArray 111)))
  have HX := hide (BoxR.new w (rdC zh (.slice none 0 0) 0 false))
  have HSi := hide HS
  have hm := rd_minus (l := ts.drop i) h45
  rw [show (ts.drop i).tail = ts.drop i1 by rw [hi1, drop_tail], hr] at hm
  rw [hm]
  have HA : Hid (∀ W : World, TkAt W g o cap ts → Calls Tryz.prog 69 #[.slice (some ⟨g, o, none⟩) ts.length cap, .int .i64 (i : Int), .string ⟨#[45]⟩] W fun e w' => e = .returned (.bool true) ∧ w' = W) := fun W hW => by
    have := ris_any g o cap ts i ⟨#[45]⟩ W hW hi
    rw [show atB (ts.drop i) (⟨#[45]⟩ : ByteArray).data.toList = true from h45] at this
    exact this
  have hw1 : IntKind.i64.wrap ((i : Int) + 1) = (i1 : Int) := by rw [wrap_le (by omega) (by omega)]; omega
  clear HS hT h45 hm hr hi1
  cases r with
  | ok h k l =>
    go_enter Tryz.func46, Tryz.ntmps46
    go_wp2_with (first | (go_at_call 69; refine (HA.out _ HTk.out).mono ?_; rintro e wz ⟨rfl, hz⟩; subst wz) | (go_at_call 46; refine (HSi.out _ HTk.out).mono ?_; rintro e w1 ⟨a1, n1, c1, p, rfl, hk1, hb1, hd1, hp1⟩; have HK1 := hide hk1; have HX1 := hide (((HX.out.below hb1 (by simp)).alloc (.cells (rdC h (.slice a1 n1 c1) p false).toArray 111)).alloc (.cells (hdC h (.slice a1 n1 c1)).toArray 68)); have HY1 := hide (BoxR.new w1 (rdC h (.slice a1 n1 c1) p false)); have HY2 := hide (HY1.out.alloc (.cells (hdC h (.slice a1 n1 c1)).toArray 68)); have z1 : w.heap.size < w1.heap.size := (by have := hb1.size; simp at this; omega); have HB1 := hide (below_alloc' hb1); clear hk1 hb1) | (with_reducible refine wpl_id ?_; refine wpl_newR rfl _ _ rfl rfl rfl rfl ?_) | (with_reducible refine wpl_id ?_; refine wpl_loadRN rfl _ rfl _ rfl HY1.out ?_) | (with_reducible refine wpl_id ?_; refine wpl_buildS rfl _ _ _ rfl (qs := #[(0, .agg (hdC h (.slice a1 n1 c1)).toArray)]) rfl (build1 h (.slice a1 n1 c1) _) ?_) | (with_reducible refine wpl_id ?_; refine wpl_buildN rfl _ _ rfl (qs := #[(0, .int .i64 4), (5, .slice (some ⟨(w1.alloc (.cells (rdC h (.slice a1 n1 c1) p false).toArray 111)).heap.size, 0, none⟩) 1 1)]) rfl (run_neg _ 1 1 _) ?_) | (with_reducible refine wpl_id ?_; refine wpl_storeRN rfl _ _ rfl _ rfl rfl HY2.out ?_) | (with_reducible refine wpl_id ?_; refine wpl_loadR rfl _ rfl _ rfl (HY2.out.set _) ?_) | (with_reducible refine wpl_id ?_; refine wpl_storeR rfl _ _ rfl _ rfl rfl (HX1.out.other (by omega) _) rfl ?_))
    refine bodyPost_ret (BoxR.ret rfl ((HX1.out.other (by omega) _).set _) rfl) rfl ?_
    refine ⟨_, _, _, p, rfl, ?_, below_set (below_set (bar_below (bar_below HB1.out (Bar.of (below_al w1 _))) (Bar.of (below_al _ _))) (by omega) _) (Nat.le_refl _) _, hd1, hp1⟩
    have hnb : ((w1.alloc (.cells (rdC h (.slice a1 n1 c1) p false).toArray 111)).alloc (.cells (hdC h (.slice a1 n1 c1)).toArray 68)).heap[w1.heap.size + 1]? = some (.cells (hdC h (.slice a1 n1 c1)).toArray 68 (0, 0)) := by
      have := heap_alloc_new (w1.alloc (.cells (rdC h (.slice a1 n1 c1) p false).toArray 111)) (.cells (hdC h (.slice a1 n1 c1)).toArray 68)
      rw [World.size_alloc] at this
      exact this
    refine kv_one (c := w1.heap.size + 1) (t := 68) (fz := (0, 0)) ?_ ⟨by omega, by simp⟩ (rest_kv HK1.out (by simp; omega) (fun b h1 h2 => ?_))
    · rw [setRow_heap _ _ _ _ (by omega), setRow_heap _ _ _ _ (by omega)]
      exact hnb
    · rw [setRow_heap _ _ _ _ (by omega), setRow_heap _ _ _ _ (by omega), Below.heap_alloc _ _ _ (by simp; omega), Below.heap_alloc _ _ _ h2]
  | bad l =>
    go_enter Tryz.func46, Tryz.ntmps46
    go_wp2_with (first | (go_at_call 69; refine (HA.out _ HTk.out).mono ?_; rintro e wz ⟨rfl, hz⟩; subst wz) | (go_at_call 46; refine (HSi.out _ HTk.out).mono ?_; rintro e w1 ⟨h1, a1, n1, c1, p, rfl, hb1, hd1, hp1⟩; have HX1 := hide (((HX.out.below hb1 (by simp)).alloc (.cells (rdC h1 (.slice a1 n1 c1) p true).toArray 111)).alloc (.cells (hdC h1 (.slice a1 n1 c1)).toArray 68)); have HY1 := hide (BoxR.new w1 (rdC h1 (.slice a1 n1 c1) p true)); have HY2 := hide (HY1.out.alloc (.cells (hdC h1 (.slice a1 n1 c1)).toArray 68)); have z1 : w.heap.size < w1.heap.size := (by have := hb1.size; simp at this; omega); have HB1 := hide (below_alloc' hb1); clear hb1) | (with_reducible refine wpl_id ?_; refine wpl_newR rfl _ _ rfl rfl rfl rfl ?_) | (with_reducible refine wpl_id ?_; refine wpl_loadRN rfl _ rfl _ rfl HY1.out ?_) | (with_reducible refine wpl_id ?_; refine wpl_buildS rfl _ _ _ rfl (qs := #[(0, .agg (hdC h1 (.slice a1 n1 c1)).toArray)]) rfl (build1 h1 (.slice a1 n1 c1) _) ?_) | (with_reducible refine wpl_id ?_; refine wpl_buildN rfl _ _ rfl (qs := #[(0, .int .i64 4), (5, .slice (some ⟨(w1.alloc (.cells (rdC h1 (.slice a1 n1 c1) p true).toArray 111)).heap.size, 0, none⟩) 1 1)]) rfl (run_neg _ 1 1 _) ?_) | (with_reducible refine wpl_id ?_; refine wpl_storeRN rfl _ _ rfl _ rfl rfl HY2.out ?_) | (with_reducible refine wpl_id ?_; refine wpl_loadR rfl _ rfl _ rfl (HY2.out.set _) ?_) | (with_reducible refine wpl_id ?_; refine wpl_storeR rfl _ _ rfl _ rfl rfl (HX1.out.other (by omega) _) rfl ?_))
    refine bodyPost_ret (BoxR.ret rfl ((HX1.out.other (by omega) _).set _) rfl) rfl ?_
    exact ⟨_, _, _, _, p, rfl, below_set (below_set (bar_below (bar_below HB1.out (Bar.of (below_al w1 _))) (Bar.of (below_al _ _))) (by omega) _) (Nat.le_refl _) _, hd1, hp1⟩
/-- Where a reading stands, in memory. -/
def posOf (w : World) (b : Nat) : Nat := natOf ((w.cell? ⟨b, 16, none⟩).getD default)
set_option maxRecDepth 100000 in
set_option maxHeartbeats 1500000 in
theorem read_line_bad (ts : List Tok) (g o cap i : Nat) (w : World) (hT : TkAt w g o cap ts) (j j1 : Nat) (hj : j ≤ 3) (hj1 : j1 = j + 1) (l : List Tok) (HS : ReadC ts g o cap i (j1 : Int) (.bad l)) :
    Calls Tryz.prog 46 #[.slice (some ⟨g, o, none⟩) ts.length cap, .int .i64 (i : Int), .int .i64 (j : Int)] w (ToldR ts w (.bad l)) := by
  have HTk := hide (hT.below (below_al w (.cells (rdC zh (.slice none 0 0) 0 false).toArray 111)))
  have HX := hide (BoxR.new w (rdC zh (.slice none 0 0) 0 false))
  have HSi := hide HS
  have jb5 : ((j : Int) == 5) = false := by rw [beq_eq_false_iff_ne]; omega
  have jb4 : ((j : Int) == 4) = false := by rw [beq_eq_false_iff_ne]; omega
  have hwj : IntKind.i64.wrap ((j : Int) + 1) = (j1 : Int) := by rw [wrap_le (by omega) (by omega)]; omega
  clear HS hT hj hj1
  go_enter Tryz.func46, Tryz.ntmps46
  go_wp2_with (first | (go_at_call 46; refine (HSi.out _ HTk.out).mono ?_; rintro e w1 ⟨h1, a1, n1, c1, p, rfl, hb1, hd1, hp1⟩; have HX1 := hide ((HX.out.below hb1 (by simp)).alloc (.cells (rdC h1 (.slice a1 n1 c1) p true).toArray 111)); have HY1 := hide (BoxR.new w1 (rdC h1 (.slice a1 n1 c1) p true)); have z1 : w.heap.size < w1.heap.size := (by have := hb1.size; simp at this; omega); have HB1 := hide (bar_below (below_alloc' hb1) (Bar.of (below_al w1 (.cells (rdC h1 (.slice a1 n1 c1) p true).toArray 111)))); clear hb1) | (with_reducible refine wpl_id ?_; refine wpl_newR rfl _ _ rfl rfl rfl rfl ?_))
  go_frame
  go_loopw [9] (fun _ wr => BoxR wr w1.heap.size (rdC h1 (.slice a1 n1 c1) p true) ∧ BoxR wr w.heap.size (rdC zh (.slice none 0 0) 0 false) ∧ Below w.heap.size w wr) (fun _ _ => 0)
  case atStart => exact ⟨HY1.out, HX1.out, HB1.out⟩
  case round =>
    obtain ⟨hy, hx, hb⟩ := hrel
    have c17 := hy.bad
    have HY := hide hy
    have HX2 := hide hx
    have HB2 := hide hb
    clear hy hx hb
    go_wp2_with (first | (with_reducible refine wpl_id ?_; refine wpl_loadR rfl _ rfl _ rfl HY.out ?_) | (with_reducible refine wpl_id ?_; refine wpl_storeR rfl _ _ rfl _ rfl rfl HX2.out rfl ?_))
    refine bodyPost_ret (BoxR.ret rfl (HX2.out.set _) rfl) rfl ?_
    exact ⟨_, _, _, _, p, rfl, below_set HB2.out (Nat.le_refl _) _, hd1, hp1⟩
/-- A reading under way at a line. -/
structure LineAt (w : World) (rb : Nat) (h : Hd) (a : Option Addr) (n cap : Nat) (k : Fo) (p : Nat) (wr : World) : Prop where
  box : BoxR wr rb (rdC h (.slice a n cap) p false)
  out : BoxR wr w.heap.size (rdC zh (.slice none 0 0) 0 false)
  kv : Kv wr (fun b => w.heap.size < b ∧ b ≠ rb ∧ b < wr.heap.size) (.slice a n cap) k
  below : Below w.heap.size w wr
  lt : w.heap.size < rb
theorem line_first {w w1 : World} {h : Hd} {a : Option Addr} {n cap : Nat} {k : Fo} {p : Nat} (hk : Kv w1 (New (w.alloc (.cells (rdC zh (.slice none 0 0) 0 false).toArray 111)) w1) (.slice a n cap) k) (hb : Below (w.alloc (.cells (rdC zh (.slice none 0 0) 0 false).toArray 111)).heap.size (w.alloc (.cells (rdC zh (.slice none 0 0) 0 false).toArray 111)) w1) :
    LineAt w w1.heap.size h a n cap k p (w1.alloc (.cells (rdC h (.slice a n cap) p false).toArray 111)) := by
  have hz := hb.size
  simp only [World.size_alloc] at hz
  refine ⟨BoxR.new _ _, ((BoxR.new w _).below hb (by simp)).alloc _, kv_to hk (fun b h => ?_), bar_below (below_alloc' hb) (Bar.of (below_al _ _)), by omega⟩
  have h1 := h.1
  have h2 := h.2
  simp only [World.size_alloc] at h1
  exact ⟨⟨by omega, by omega, by simp; omega⟩, Below.heap_alloc _ _ _ h2⟩
/-- One sign more. -/
theorem line_more {w wr w1 : World} {rb : Nat} {h h' : Hd} {a a' : Option Addr} {n cap n' cap' : Nat} {k k' : Fo} {p p' : Nat} {s : List UInt8} (hL : LineAt w rb h a n cap k p wr) (hb : Below wr.heap.size wr w1) (hk : Kv w1 (New wr w1) (.slice a' n' cap') k') :
    LineAt w rb (binH s) (some ⟨w1.heap.size + 1, 0, none⟩) 2 2 (.cons h k (.cons h' k' .nil)) p' ((((w1.alloc (.cells (rdC h' (.slice a' n' cap') p' false).toArray 111)).alloc (.cells (hdC h (.slice a n cap) ++ hdC h' (.slice a' n' cap')).toArray 68)).setRow rb (rdC (binH s) (.slice (some ⟨w1.heap.size + 1, 0, none⟩) 2 2) p' false).toArray)) := by
  have hz := hb.size
  have hrb := hL.box.lt
  have hw := hL.lt
  have hheap : ∀ b, b < w1.heap.size → b ≠ rb → ((((w1.alloc (.cells (rdC h' (.slice a' n' cap') p' false).toArray 111)).alloc (.cells (hdC h (.slice a n cap) ++ hdC h' (.slice a' n' cap')).toArray 68)).setRow rb (rdC (binH s) (.slice (some ⟨w1.heap.size + 1, 0, none⟩) 2 2) p' false).toArray)).heap[b]? = w1.heap[b]? := fun b h1 h2 => by
    rw [setRow_heap _ _ _ _ h2, Below.heap_alloc _ _ _ (by simp; omega), Below.heap_alloc _ _ _ h1]
  refine ⟨BoxR.set (((hL.box.below hb hrb).alloc _).alloc _) _, BoxR.other ((((hL.out.below hb (by omega))).alloc _).alloc _) (by omega) _, ?_, below_set (bar_below (bar_below (hL.below.trans (hb.mono hL.below.size)) (Bar.of (below_al _ _))) (Bar.of (below_al _ _))) (by omega) _, hw⟩
  refine kv_two (c := w1.heap.size + 1) (t := 68) (fz := (0, 0)) ?_ ⟨by omega, by omega, by simp⟩ (kv_to hL.kv (fun b hb' => ?_)) (kv_to hk (fun b hb' => ?_))
  · rw [setRow_heap _ _ _ _ (by omega)]
    have := heap_alloc_new (w1.alloc (.cells (rdC h' (.slice a' n' cap') p' false).toArray 111)) (.cells (hdC h (.slice a n cap) ++ hdC h' (.slice a' n' cap')).toArray 68)
    rw [World.size_alloc] at this
    exact this
  · obtain ⟨q1, q2, q3⟩ := hb'
    refine ⟨⟨q1, q2, by simp; omega⟩, ?_⟩
    rw [hheap b (by omega) q2, hb.block b q3]
  · have q1 := hb'.1
    have q2 := hb'.2
    refine ⟨⟨by omega, by omega, by simp; omega⟩, hheap b q2 (by omega)⟩
theorem LineAt.done {w wr : World} {rb : Nat} {h : Hd} {a : Option Addr} {n cap : Nat} {k : Fo} {p : Nat} (hL : LineAt w rb h a n cap k p wr) (cs : Array Value) : Kv (wr.setRow w.heap.size cs) (New w (wr.setRow w.heap.size cs)) (.slice a n cap) k :=
  kv_to hL.kv (fun b hb => ⟨⟨by have := hb.1; omega, by rw [setRow_size]; exact hb.2.2⟩, setRow_heap _ _ _ _ (by have := hb.1; omega)⟩)
theorem LineAt.pos {w wr : World} {rb : Nat} {h : Hd} {a : Option Addr} {n cap : Nat} {k : Fo} {p : Nat} (hL : LineAt w rb h a n cap k p wr) : posOf wr rb = p := by
  unfold posOf; rw [hL.box.at]; simp [natOf, intOf]
/-- Tokens whose texts bind only where they are signs. -/
def Plain (ts : List Tok) : Prop := ∀ t ∈ ts, t.kind ≠ 4 → bindN t.txt = 0
theorem Plain.hd {ts : List Tok} (h : Plain ts) {i : Nat} (hi : i < ts.length) : (hd (ts.drop i)).kind ≠ 4 → bindN (hd (ts.drop i)).txt = 0 :=
  h _ (List.mem_of_getElem? (hd_drop hi))
end
section
open Go.RowKit
set_option maxRecDepth 100000 in
set_option maxHeartbeats 1500000 in
theorem read_line (ts : List Tok) (g o cap i : Nat) (w : World) (hT : TkAt w g o cap ts) (hi : i < ts.length) (j j1 : Nat) (hj : j ≤ 3) (hj1 : j1 = j + 1) (hl : ts.length ≤ 2000) (hP : Plain ts) (hel : Ended (ts.drop i)) (R : Rs) (hR0 : rd (.form (j + 1)) (ts.drop i) = R) (h0 : Hd) (k0 : Fo) (l0 : List Tok) (hr0 : rd (.form (j + 2)) (ts.drop i) = .ok h0 k0 l0) (HS : ReadC ts g o cap i (j1 : Int) (.ok h0 k0 l0))
    (HF : ∀ p, i < p → p < ts.length → Ended (ts.drop p) → ReadC ts g o cap p (j1 : Int) (rd (.form (j + 2)) (ts.drop p))) :
    Calls Tryz.prog 46 #[.slice (some ⟨g, o, none⟩) ts.length cap, .int .i64 (i : Int), .int .i64 (j : Int)] w (ToldR ts w (R)) := by
  obtain ⟨m1, m2, m3, _⟩ := id hT
  unfold maxLen at m2
  have HTk := hide (hT.below (below_al w (.cells (rdC zh (.slice none 0 0) 0 false).toArray 111)))
  have HTw := hide hT
  have HX := hide (BoxR.new w (rdC zh (.slice none 0 0) 0 false))
  have HSi := hide HS
  have HFo := hide HF
  have HPl := hide hP
  have HR0 : Hid (R = rd (.loop (j + 1) h0 k0) l0) := by
    show R = _
    rw [← hR0, form_split (j + 1) (by omega), hr0]; rfl
  have HE0 := hide (rd_ended (c := .form (j + 2)) (by simp [fine]) hel hr0)
  have HH0 := hide (form_head (m := j + 2) (by omega) hr0)
  have HN0 := hide (rd_len (c := .form (j + 2)) (by simp [fine]) hr0)
  have jb5 : ((j : Int) == 5) = false := by rw [beq_eq_false_iff_ne]; omega
  have jb4 : ((j : Int) == 4) = false := by rw [beq_eq_false_iff_ne]; omega
  have hwj : IntKind.i64.wrap ((j : Int) + 1) = (j1 : Int) := by rw [wrap_le (by omega) (by omega)]; omega
  clear HS HF hT hr0 hel hP hR0 hj1
  go_enter Tryz.func46, Tryz.ntmps46
  go_wp2_with (first | (go_at_call 46; refine (HSi.out _ HTk.out).mono ?_; rintro e w1 ⟨a1, n1, c1, p0, rfl, hk1, hb1, hd1, hp1⟩; have HL0 := hide (line_first (h := h0) (p := p0) hk1 hb1); clear hk1 hb1) | (with_reducible refine wpl_id ?_; refine wpl_newR rfl _ _ rfl rfl rfl rfl ?_))
  have hip0 : i < p0 := by
    have e1 : (ts.drop p0).length = l0.length := by rw [hd1]
    have e2 := HN0.out
    simp only [takes, List.length_drop] at e1 e2
    omega
  go_frame
  go_loopw [9] (fun _ wr => ∃ (h : Hd) (a : Option Addr) (n cap' : Nat) (k : Fo) (p : Nat), LineAt w w1.heap.size h a n cap' k p wr ∧ i < p ∧ p < ts.length ∧ Ended (ts.drop p) ∧ bindN (hd (ts.drop p)).txt < j + 2 ∧ Hid (R = rd (.loop (j + 1) h k) (ts.drop p))) (fun _ wr => ts.length - posOf wr w1.heap.size)
  case atStart => exact ⟨h0, a1, n1, c1, k0, p0, HL0.out, hip0, hp1, by rw [hd1]; exact HE0.out, by rw [hd1]; exact HH0.out, hide (by rw [hd1]; exact HR0.out)⟩
  case round =>
    obtain ⟨h, a, n, cap', k, p, hL, hip, hp, hep, hhp, hq⟩ := hrel
    have hTr := HTw.out.to hL.below m3
    have HTr := hide hTr
    have tk0 : wr.cell? ⟨g, o + p * 12, none⟩ = some (.int .i64 (hd (ts.drop p)).kind) := hTr.tok hp 0 (by omega)
    have tk10 : wr.cell? ⟨g, o + p * 12 + 10, none⟩ = some (.string ⟨(hd (ts.drop p)).txt.toArray⟩) := hTr.tok hp 10 (by omega)
    have c16 := hL.box.at
    have c17 := hL.box.bad
    have HL := hide hL
    have HQ := hq
    have HP0 : Hid (posOf wr w1.heap.size = p) := by
      show posOf wr w1.heap.size = p
      unfold posOf; rw [c16]; simp [natOf, intOf]
    have hLn : ∀ W : World, Calls Tryz.prog 70 #[.string ⟨(hd (ts.drop p)).txt.toArray⟩] W fun e w' => e = .returned (.int .i64 ((bindN (hd (ts.drop p)).txt : Int) - 1)) ∧ w' = W := fun W => by
      have := line_any ⟨(hd (ts.drop p)).txt.toArray⟩ W
      simpa using this
    have HLn := hide hLn
    have hpl := HPl.out.hd hp
    clear hL hq hTr hLn HL0
    by_cases hbn : bindN (hd (ts.drop p)).txt < j + 1
    · have HQ2 : Hid (R = .ok h k (ts.drop p)) := by
        show R = _
        rw [HQ.out]
        exact rd_stop h k hbn
      have hne : ((bindN (hd (ts.drop p)).txt : Int) - 1 == (j : Int)) = false := by rw [beq_eq_false_iff_ne]; omega
      clear hbn hhp hep HQ hpl
      generalize (bindN (hd (ts.drop p)).txt : Int) - 1 = X at *
      by_cases hk4 : (hd (ts.drop p)).kind = 4
      · rw [hk4] at tk0
        clear hk4
        go_wp2_with (first | (go_at_call 70; refine (HLn.out _).mono ?_; rintro e wz ⟨rfl, hz⟩; subst wz) | (with_reducible refine wpl_id ?_; refine wpl_loadR rfl _ rfl _ rfl HL.out.box ?_) | (with_reducible refine wpl_id ?_; refine wpl_storeR rfl _ _ rfl _ rfl rfl HL.out.out rfl ?_))
        refine bodyPost_ret (BoxR.ret rfl (HL.out.out.set _) rfl) rfl ?_
        rw [HQ2.out]
        exact ⟨_, _, _, p, rfl, HL.out.done _, below_set HL.out.below (Nat.le_refl _) _, rfl, hp⟩
      · have hk5 : ((hd (ts.drop p)).kind == 4) = false := by rw [beq_eq_false_iff_ne]; exact hk4
        clear hk4
        go_wp2_with (first | (with_reducible refine wpl_id ?_; refine wpl_loadR rfl _ rfl _ rfl HL.out.box ?_) | (with_reducible refine wpl_id ?_; refine wpl_storeR rfl _ _ rfl _ rfl rfl HL.out.out rfl ?_))
        refine bodyPost_ret (BoxR.ret rfl (HL.out.out.set _) rfl) rfl ?_
        rw [HQ2.out]
        exact ⟨_, _, _, p, rfl, HL.out.done _, below_set HL.out.below (Nat.le_refl _) _, rfl, hp⟩
    · have hbe : bindN (hd (ts.drop p)).txt = j + 1 := by omega
      have hk4 : (hd (ts.drop p)).kind = 4 := by
        refine Classical.byContradiction fun hn => ?_
        have := hpl hn
        omega
      rw [hk4] at tk0
      obtain ⟨p1, hp1'⟩ : ∃ p1 : Nat, p1 = p + 1 := ⟨_, rfl⟩
      have hwp : IntKind.i64.wrap ((p : Int) + 1) = (p1 : Int) := by rw [wrap_le (by omega) (by omega)]; omega
      have hdp : ts.drop p1 = (ts.drop p).tail := by rw [hp1', drop_tail]
      have he1 : Ended (ts.drop p1) := by rw [hdp]; exact ended_tail hep (.inl (by omega))
      have hlt1 : p1 < ts.length := drop_lt (ended_ne he1)
      have hR := HFo.out p1 (by omega) hlt1 he1
      have hlo := rd_loop (m := j + 1) (by omega) h k (l := ts.drop p) (by omega)
      rw [hbe, ← hdp] at hlo
      have hXe : ((bindN (hd (ts.drop p)).txt : Int) - 1) = (j : Int) := by omega
      rw [hXe] at HLn
      have HP1 := hide hp1'
      clear hbn hbe hk4 hpl hhp hep hXe hdp hp1'
      cases e2 : rd (.form (j + 2)) (ts.drop p1) with
      | bad l2 =>
        rw [show j + 1 + 1 = j + 2 from rfl, e2] at hlo
        rw [e2] at hR
        have HQ2 := hide (HQ.out.trans hlo)
        have HRi := hide hR
        clear e2 hR hlo HQ he1
        generalize (hd (ts.drop p)).txt = S at *
        go_wp2_with (first | (go_at_call 70; refine (HLn.out _).mono ?_; rintro e wz ⟨rfl, hz⟩; subst wz) | (go_at_call 46; refine (HRi.out _ HTr.out).mono ?_; rintro e w2 ⟨h2, a2, n2, c2, p2, rfl, hb2, hd2, hp2⟩; have HX2 := hide ((HL.out.out.below hb2 (by have := HL.out.box.lt; have := HL.out.lt; omega)).alloc (.cells (rdC h2 (.slice a2 n2 c2) p2 true).toArray 111)); have HY2 := hide (BoxR.new w2 (rdC h2 (.slice a2 n2 c2) p2 true)); have d17 := HY2.out.bad; have HB2 := hide (bar_below (HL.out.below.trans (hb2.mono HL.out.below.size)) (Bar.of (below_al w2 (.cells (rdC h2 (.slice a2 n2 c2) p2 true).toArray 111)))); clear hb2) | (with_reducible refine wpl_id ?_; refine wpl_newR rfl _ _ rfl rfl rfl rfl ?_) | (with_reducible refine wpl_id ?_; refine wpl_loadR rfl _ rfl _ rfl HY2.out ?_) | (with_reducible refine wpl_id ?_; refine wpl_storeR rfl _ _ rfl _ rfl rfl HX2.out rfl ?_))
        refine bodyPost_ret (BoxR.ret rfl (HX2.out.set _) rfl) rfl ?_
        rw [HQ2.out]
        exact ⟨_, _, _, _, p2, rfl, below_set HB2.out (Nat.le_refl _) _, hd2, hp2⟩
      | ok h2 k2 l2 =>
        have hen := rd_ended (c := .form (j + 2)) (by simp [fine]) he1 e2
        have hhd := form_head (m := j + 2) (by omega) e2
        have hlen := rd_len (c := .form (j + 2)) (by simp [fine]) e2
        rw [show j + 1 + 1 = j + 2 from rfl, e2] at hlo
        rw [e2] at hR
        simp only [Rs.on] at hlo
        have HQ2 := hide (HQ.out.trans hlo)
        have HRi := hide hR
        clear e2 hR hlo HQ he1
        generalize (hd (ts.drop p)).txt = S at *
        go_wp2_with (first | (go_at_call 70; refine (HLn.out _).mono ?_; rintro e wz ⟨rfl, hz⟩; subst wz) | (go_at_call 46; refine (HRi.out _ HTr.out).mono ?_; rintro e w2 ⟨a2, n2, c2, p2, rfl, hk2, hb2, hd2, hp2⟩; have HM := hide (line_more (h' := h2) (p' := p2) (s := S) HL.out hb2 hk2); have HZ1 := hide ((HL.out.box.below hb2 HL.out.box.lt).alloc (.cells (rdC h2 (.slice a2 n2 c2) p2 false).toArray 111)); have HZ2 := hide (HZ1.out.alloc (.cells (hdC h (.slice a n cap') ++ hdC h2 (.slice a2 n2 c2)).toArray 68)); have HY2 := hide (BoxR.new w2 (rdC h2 (.slice a2 n2 c2) p2 false)); have d17 := HY2.out.bad; have d16 := (HY2.out.alloc (.cells (hdC h (.slice a n cap') ++ hdC h2 (.slice a2 n2 c2)).toArray 68)).at; have z2 := hb2.size; clear hk2 hb2) | (with_reducible refine wpl_id ?_; refine wpl_newR rfl _ _ rfl rfl rfl rfl ?_) | (with_reducible refine wpl_id ?_; refine wpl_loadRN rfl _ rfl _ rfl (by first | exact HZ1.out | exact HY2.out) ?_) | (with_reducible refine wpl_id ?_; refine wpl_buildS rfl _ _ _ rfl (qs := #[(0, .agg (hdC h (.slice a n cap')).toArray), (1, .agg (hdC h2 (.slice a2 n2 c2)).toArray)]) rfl (build2 h h2 (.slice a n cap') (.slice a2 n2 c2) _) ?_) | (with_reducible refine wpl_id ?_; refine wpl_buildN rfl 68 _ rfl (qs := #[(0, .int .i64 5), (4, .string ⟨S.toArray⟩), (5, .slice (some ⟨(w2.alloc (.cells (rdC h2 (.slice a2 n2 c2) p2 false).toArray 111)).heap.size, 0, none⟩) 2 2)]) rfl (run_bin S _ 2 2 _) ?_) | (with_reducible refine wpl_id ?_; refine wpl_buildN rfl 111 _ rfl (qs := #[(0, .agg (hdC (binH S) (.slice (some ⟨w2.heap.size + 1, 0, none⟩) 2 2)).toArray), (1, .int .i64 (p2 : Int))]) rfl (run_rd (binH S) _ 2 2 p2 _) ?_) | (with_reducible refine wpl_id ?_; refine wpl_storeR rfl _ _ rfl _ rfl rfl HZ2.out rfl ?_))
        have hpp : p1 < p2 := by
          have e1 : (ts.drop p2).length = l2.length := by rw [hd2]
          simp only [takes, List.length_drop] at e1 hlen
          omega
        have HM2 := HM.out
        go_frame
        go_roundw
        case rel => exact ⟨_, _, _, _, _, p2, HM2, by have := HP1.out; omega, hp2, by rw [hd2]; exact hen, by rw [hd2]; exact hhd, hide (by rw [hd2]; exact HQ2.out)⟩
        case measure =>
          rw [HP0.out]
          rw [HM2.pos]
          have := HP1.out
          omega
end
end Go.Proofs.YtklldmidcmfbdaaGreatDoor
