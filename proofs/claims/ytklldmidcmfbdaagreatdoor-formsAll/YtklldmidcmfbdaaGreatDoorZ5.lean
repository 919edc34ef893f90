/-
  Out of TrI, what is asked for (laid by pack9.py).
-/
import Derived.Test.YtklldmidcmfbdaaGreatDoorVNum
import Derived.Test.YtklldmidcmfbdaaGreatDoorVPla
import Derived.Test.YtklldmidcmfbdaaGreatDoorVVal
import Derived.Test.YtklldmidcmfbdaaGreatDoorVVal3
import Derived.Test.YtklldmidcmfbdaaGreatDoorVVal4
import Derived.Test.YtklldmidcmfbdaaGreatDoorZ1
import Derived.Test.YtklldmidcmfbdaaGreatDoorZ3
import Derived.Test.YtklldmidcmfbdaaGreatDoorZ4
import Derived.BigCall
import Derived.BigGuard
import Derived.BigQuiet
import Derived.ChangeArms
import Derived.Deep.MidRow
import Derived.Deep.QuietTactic
import Derived.Deep.RegionHeld3
import Derived.Deep.RegionWith
import Derived.Deep.WholeRow
import Derived.Defers
import Derived.Great.BuildSlice
import Derived.Laws.Cover1
import Derived.Laws.EntriesVeiled
import Derived.Laws.IdiomStrings
import Derived.Lib.AppendIntMem
import Derived.Lib.AtoiErrMem
import Derived.Lib.IndexMore
import Derived.Lib.ItoaMem
import Derived.Lib.LaidTab
import Derived.Lib.MinMax
import Derived.Lib.OthersKept
import Derived.Lib.Replace
import Derived.Lib.ReplaceLaws
import Derived.Lib.SmallJoins
import Derived.Lib.Walk
import Derived.LoopIn
import Derived.LoopNIn
import Derived.LoopTactic
import Derived.Maps.AppendAt
import Derived.OwnWalkIn
import Derived.RangeFuncBound
import Derived.RangeFuncBox
import Derived.RangeFuncCalls
import Derived.RangeFuncLeaves
import Derived.RangeFuncNested
import Derived.Recover
import Derived.Shelf.Abstract
import Derived.Shelf.RegionOpen
import Derived.TacticsInMore
import Derived.WalkKit
import Derived.WalkLawsBesides
import Derived.WalkSmall
import Derived.WalkSpells
import Derived.WideShapes
namespace Go.Proofs.YtklldmidcmfbdaaGreatDoor
section
open Go.RowKit
theorem Box.froz {w : World} {b : Nat} {cs : List Value} (k : Box w b cs) (j : Nat) : w.frozen? ⟨b, j, none⟩ = false := by
  unfold Box at k
  simp [World.frozen?, k]
theorem Box.at {w : World} {b : Nat} {cs : List Value} (k : Box w b cs) (j : Nat) (u : Value) : Box (w.setCell ⟨b, j, none⟩ u) b (cs.set j u) := by
  unfold Box at *
  show (w.heap.modify b _)[b]? = _
  rw [Array.getElem?_modify, if_pos rfl, k]
  simp
/-- A node read under a guard that says yes. -/
theorem wpl_loadG {ops : Array Oper} {rest : List Oper} {o : Oper} {a : Act} {w : World} {Q : Exit → Act → World → Prop} (hw : Region.wanted o (yielded ops a.tmps) = true) (x : Operand) (ho : o.op = .load 68 x)
    (g : Nat) (hx : a.eval x = .pointer (some ⟨g, 0, none⟩)) {h : Hd} {v : Value} (hb : Box w g (hdC h v))
    (hk : wpList Tryz.prog ops Q rest (a.put o.dst (.agg (hdC h v).toArray)) w) : wpList Tryz.prog ops Q (o :: rest) a w :=
  wpList_step fun K hK => by
    rw [if_pos hw]
    exact wp_loadN x ho g hx hb (hK _ _ hk)
set_option maxRecDepth 100000 in
set_option maxHeartbeats 2000000 in
theorem alone_value_true (vk : Int) (vn : Int) (vs : List UInt8) (vb : Bool) (vc : Int) (row : Int) (col : Int) (fr : Bool) (fc : Bool) (row2 : Int) (col2 : Int) (fr2 : Bool) (fc2 : Bool) (txt : List UInt8) (a : Option Addr) (n cap : Nat) (w : World) (hs : vs.length ≤ maxLen) (q : constB ⟨1, vk, vn, vs, vb, vc, row, col, fr, fc, row2, col2, fr2, fc2, txt⟩ = true) :
    Calls Tryz.prog 65 #[.agg (hdC ⟨1, vk, vn, vs, vb, vc, row, col, fr, fc, row2, col2, fr2, fc2, txt⟩ (.slice a n cap)).toArray] w fun e w' => e = .returned (.bool (emptyB ⟨1, 0, 0, [], false, 0, row, col, fr, fc, row2, col2, fr2, fc2, txt⟩ n)) ∧ Below w.heap.size w w' := by
  have HC1 : Hid (∀ W : World, Calls Tryz.prog 80 #[.agg #[.int .i64 vk, .int .i64 vn, .string ⟨vs.toArray⟩, .bool vb, .int .i64 vc]] W fun e w' => e = .returned (.bool true) ∧ Below W.heap.size W w') := fun W => by
    have := isConstant_any ⟨1, vk, vn, vs, vb, vc, row, col, fr, fc, row2, col2, fr2, fc2, txt⟩ W hs
    rw [q] at this
    exact this
  clear q hs
  have d0 := (Box.new w (hdC ⟨1, vk, vn, vs, vb, vc, row, col, fr, fc, row2, col2, fr2, fc2, txt⟩ (.slice a n cap))).cell 0 (.int .i64 1) rfl
  have d1 := (Box.new w (hdC ⟨1, vk, vn, vs, vb, vc, row, col, fr, fc, row2, col2, fr2, fc2, txt⟩ (.slice a n cap))).cell 1 (.int .i64 vk) rfl
  have d2 := (Box.new w (hdC ⟨1, vk, vn, vs, vb, vc, row, col, fr, fc, row2, col2, fr2, fc2, txt⟩ (.slice a n cap))).cell 2 (.int .i64 vn) rfl
  have d3 := (Box.new w (hdC ⟨1, vk, vn, vs, vb, vc, row, col, fr, fc, row2, col2, fr2, fc2, txt⟩ (.slice a n cap))).cell 3 (.string ⟨vs.toArray⟩) rfl
  have d4 := (Box.new w (hdC ⟨1, vk, vn, vs, vb, vc, row, col, fr, fc, row2, col2, fr2, fc2, txt⟩ (.slice a n cap))).cell 4 (.bool vb) rfl
  have d5 := (Box.new w (hdC ⟨1, vk, vn, vs, vb, vc, row, col, fr, fc, row2, col2, fr2, fc2, txt⟩ (.slice a n cap))).cell 5 (.int .i64 vc) rfl
  have d6 := (Box.new w (hdC ⟨1, vk, vn, vs, vb, vc, row, col, fr, fc, row2, col2, fr2, fc2, txt⟩ (.slice a n cap))).cell 6 (.int .i64 row) rfl
  have d7 := (Box.new w (hdC ⟨1, vk, vn, vs, vb, vc, row, col, fr, fc, row2, col2, fr2, fc2, txt⟩ (.slice a n cap))).cell 7 (.int .i64 col) rfl
  have d8 := (Box.new w (hdC ⟨1, vk, vn, vs, vb, vc, row, col, fr, fc, row2, col2, fr2, fc2, txt⟩ (.slice a n cap))).cell 8 (.bool fr) rfl
  have d9 := (Box.new w (hdC ⟨1, vk, vn, vs, vb, vc, row, col, fr, fc, row2, col2, fr2, fc2, txt⟩ (.slice a n cap))).cell 9 (.bool fc) rfl
  have d10 := (Box.new w (hdC ⟨1, vk, vn, vs, vb, vc, row, col, fr, fc, row2, col2, fr2, fc2, txt⟩ (.slice a n cap))).cell 10 (.int .i64 row2) rfl
  have d11 := (Box.new w (hdC ⟨1, vk, vn, vs, vb, vc, row, col, fr, fc, row2, col2, fr2, fc2, txt⟩ (.slice a n cap))).cell 11 (.int .i64 col2) rfl
  have d12 := (Box.new w (hdC ⟨1, vk, vn, vs, vb, vc, row, col, fr, fc, row2, col2, fr2, fc2, txt⟩ (.slice a n cap))).cell 12 (.bool fr2) rfl
  have d13 := (Box.new w (hdC ⟨1, vk, vn, vs, vb, vc, row, col, fr, fc, row2, col2, fr2, fc2, txt⟩ (.slice a n cap))).cell 13 (.bool fc2) rfl
  have d14 := (Box.new w (hdC ⟨1, vk, vn, vs, vb, vc, row, col, fr, fc, row2, col2, fr2, fc2, txt⟩ (.slice a n cap))).cell 14 (.string ⟨txt.toArray⟩) rfl
  have d15 := (Box.new w (hdC ⟨1, vk, vn, vs, vb, vc, row, col, fr, fc, row2, col2, fr2, fc2, txt⟩ (.slice a n cap))).cell 15 (.slice a n cap) rfl
  have fz := (Box.new w (hdC ⟨1, vk, vn, vs, vb, vc, row, col, fr, fc, row2, col2, fr2, fc2, txt⟩ (.slice a n cap))).froz
  have HX0 := hide (Box.new w (hdC ⟨1, vk, vn, vs, vb, vc, row, col, fr, fc, row2, col2, fr2, fc2, txt⟩ (.slice a n cap)))
  have HE : Hid (∀ W : World, Calls Tryz.prog 84 #[.agg (hdC ⟨1, 0, 0, [], false, 0, row, col, fr, fc, row2, col2, fr2, fc2, txt⟩ (.slice a n cap)).toArray] W fun e w' => e = .returned (.bool (emptyB ⟨1, 0, 0, [], false, 0, row, col, fr, fc, row2, col2, fr2, fc2, txt⟩ n)) ∧ Below W.heap.size W w') := fun W => isEmpty_any _ _ _ _ W
  go_enter Tryz.func65, Tryz.ntmps65
  go_wp2_with (first | (with_reducible refine wpl_id ?_; refine wpl_loadG rfl _ rfl _ rfl (Hid.out (by assumption)) ?_) | (go_at_call 80; refine (HC1.out _).mono ?_; rintro e w1 ⟨rfl, hb1⟩; obtain ⟨c1, f1⟩ := bcell hb1; have HB1 := hide hb1; have s1 : w.heap.size < w1.heap.size := (by have := hb1.size; first | omega | (simp at this; omega)); have HXZ : Hid (Box ((((((w1).setCell ⟨w.heap.size, 1, none⟩ (.int .i64 0)).setCell ⟨w.heap.size, 2, none⟩ (.int .i64 0)).setCell ⟨w.heap.size, 3, none⟩ (.string ⟨#[]⟩)).setCell ⟨w.heap.size, 4, none⟩ (.bool false)).setCell ⟨w.heap.size, 5, none⟩ (.int .i64 0)) w.heap.size (hdC ⟨1, 0, 0, [], false, 0, row, col, fr, fc, row2, col2, fr2, fc2, txt⟩ (.slice a n cap))) := ((((((HX0.out.below hb1).at 1 (.int .i64 0)).at 2 (.int .i64 0)).at 3 (.string ⟨#[]⟩)).at 4 (.bool false)).at 5 (.int .i64 0)); clear hb1) | (go_at_call 84; refine (HE.out _).mono ?_; rintro e w9 ⟨rfl, hb9⟩; have HB9 := hide hb9; clear hb9))
  go_ret
  refine ⟨rfl, ?_⟩
  have b1 := HB1.out
  have b9 := HB9.out
  repeat' (first | with_reducible exact Below.refl _ _ | with_reducible refine Below.setCell ?_ ?_ _ | with_reducible refine Below.alloc ?_ ?_ _ | with_reducible refine below_drewN ?_ _ | with_reducible refine Below.drew ?_ | with_reducible refine Below.trans ?_ (Below.mono (by assumption) ?_) | with_reducible exact Nat.le_refl _ | with_reducible refine Nat.le_trans ?_ (Below.size (by assumption)) | with_reducible refine Nat.le_trans ?_ (size_alloc _ _) | with_reducible refine Nat.le_trans ?_ (size_set _ _ _) | with_reducible refine Nat.le_trans ?_ (size_drewN _ _) | with_reducible refine Nat.le_trans ?_ (size_drew _) | (simp; done) | (simp; omega) | omega)
set_option maxRecDepth 100000 in
set_option maxHeartbeats 2000000 in
theorem alone_cell_true (vk : Int) (vn : Int) (vs : List UInt8) (vb : Bool) (vc : Int) (row : Int) (col : Int) (fr : Bool) (fc : Bool) (row2 : Int) (col2 : Int) (fr2 : Bool) (fc2 : Bool) (txt : List UInt8) (a : Option Addr) (n cap : Nat) (w : World) (q : Pla.placeB row col = true) :
    Calls Tryz.prog 65 #[.agg (hdC ⟨2, vk, vn, vs, vb, vc, row, col, fr, fc, row2, col2, fr2, fc2, txt⟩ (.slice a n cap)).toArray] w fun e w' => e = .returned (.bool (emptyB ⟨2, vk, vn, vs, vb, vc, 0, 0, false, false, row2, col2, fr2, fc2, txt⟩ n)) ∧ Below w.heap.size w w' := by
  have HC1 : Hid (∀ W : World, Calls Tryz.prog 81 #[.agg #[.int .i64 row, .int .i64 col, .bool fr, .bool fc]] W fun e w' => e = .returned (.bool true) ∧ Below W.heap.size W w') := fun W => by
    have := isCell_any row col fr fc W
    rw [q] at this
    exact this
  clear q
  have d0 := (Box.new w (hdC ⟨2, vk, vn, vs, vb, vc, row, col, fr, fc, row2, col2, fr2, fc2, txt⟩ (.slice a n cap))).cell 0 (.int .i64 2) rfl
  have d1 := (Box.new w (hdC ⟨2, vk, vn, vs, vb, vc, row, col, fr, fc, row2, col2, fr2, fc2, txt⟩ (.slice a n cap))).cell 1 (.int .i64 vk) rfl
  have d2 := (Box.new w (hdC ⟨2, vk, vn, vs, vb, vc, row, col, fr, fc, row2, col2, fr2, fc2, txt⟩ (.slice a n cap))).cell 2 (.int .i64 vn) rfl
  have d3 := (Box.new w (hdC ⟨2, vk, vn, vs, vb, vc, row, col, fr, fc, row2, col2, fr2, fc2, txt⟩ (.slice a n cap))).cell 3 (.string ⟨vs.toArray⟩) rfl
  have d4 := (Box.new w (hdC ⟨2, vk, vn, vs, vb, vc, row, col, fr, fc, row2, col2, fr2, fc2, txt⟩ (.slice a n cap))).cell 4 (.bool vb) rfl
  have d5 := (Box.new w (hdC ⟨2, vk, vn, vs, vb, vc, row, col, fr, fc, row2, col2, fr2, fc2, txt⟩ (.slice a n cap))).cell 5 (.int .i64 vc) rfl
  have d6 := (Box.new w (hdC ⟨2, vk, vn, vs, vb, vc, row, col, fr, fc, row2, col2, fr2, fc2, txt⟩ (.slice a n cap))).cell 6 (.int .i64 row) rfl
  have d7 := (Box.new w (hdC ⟨2, vk, vn, vs, vb, vc, row, col, fr, fc, row2, col2, fr2, fc2, txt⟩ (.slice a n cap))).cell 7 (.int .i64 col) rfl
  have d8 := (Box.new w (hdC ⟨2, vk, vn, vs, vb, vc, row, col, fr, fc, row2, col2, fr2, fc2, txt⟩ (.slice a n cap))).cell 8 (.bool fr) rfl
  have d9 := (Box.new w (hdC ⟨2, vk, vn, vs, vb, vc, row, col, fr, fc, row2, col2, fr2, fc2, txt⟩ (.slice a n cap))).cell 9 (.bool fc) rfl
  have d10 := (Box.new w (hdC ⟨2, vk, vn, vs, vb, vc, row, col, fr, fc, row2, col2, fr2, fc2, txt⟩ (.slice a n cap))).cell 10 (.int .i64 row2) rfl
  have d11 := (Box.new w (hdC ⟨2, vk, vn, vs, vb, vc, row, col, fr, fc, row2, col2, fr2, fc2, txt⟩ (.slice a n cap))).cell 11 (.int .i64 col2) rfl
  have d12 := (Box.new w (hdC ⟨2, vk, vn, vs, vb, vc, row, col, fr, fc, row2, col2, fr2, fc2, txt⟩ (.slice a n cap))).cell 12 (.bool fr2) rfl
  have d13 := (Box.new w (hdC ⟨2, vk, vn, vs, vb, vc, row, col, fr, fc, row2, col2, fr2, fc2, txt⟩ (.slice a n cap))).cell 13 (.bool fc2) rfl
  have d14 := (Box.new w (hdC ⟨2, vk, vn, vs, vb, vc, row, col, fr, fc, row2, col2, fr2, fc2, txt⟩ (.slice a n cap))).cell 14 (.string ⟨txt.toArray⟩) rfl
  have d15 := (Box.new w (hdC ⟨2, vk, vn, vs, vb, vc, row, col, fr, fc, row2, col2, fr2, fc2, txt⟩ (.slice a n cap))).cell 15 (.slice a n cap) rfl
  have fz := (Box.new w (hdC ⟨2, vk, vn, vs, vb, vc, row, col, fr, fc, row2, col2, fr2, fc2, txt⟩ (.slice a n cap))).froz
  have HX0 := hide (Box.new w (hdC ⟨2, vk, vn, vs, vb, vc, row, col, fr, fc, row2, col2, fr2, fc2, txt⟩ (.slice a n cap)))
  have HE : Hid (∀ W : World, Calls Tryz.prog 84 #[.agg (hdC ⟨2, vk, vn, vs, vb, vc, 0, 0, false, false, row2, col2, fr2, fc2, txt⟩ (.slice a n cap)).toArray] W fun e w' => e = .returned (.bool (emptyB ⟨2, vk, vn, vs, vb, vc, 0, 0, false, false, row2, col2, fr2, fc2, txt⟩ n)) ∧ Below W.heap.size W w') := fun W => isEmpty_any _ _ _ _ W
  go_enter Tryz.func65, Tryz.ntmps65
  go_wp2_with (first | (with_reducible refine wpl_id ?_; refine wpl_loadG rfl _ rfl _ rfl (Hid.out (by assumption)) ?_) | (go_at_call 81; refine (HC1.out _).mono ?_; rintro e w1 ⟨rfl, hb1⟩; obtain ⟨c1, f1⟩ := bcell hb1; have HB1 := hide hb1; have s1 : w.heap.size < w1.heap.size := (by have := hb1.size; first | omega | (simp at this; omega)); have HXZ : Hid (Box (((((w1).setCell ⟨w.heap.size, 6, none⟩ (.int .i64 0)).setCell ⟨w.heap.size, 7, none⟩ (.int .i64 0)).setCell ⟨w.heap.size, 8, none⟩ (.bool false)).setCell ⟨w.heap.size, 9, none⟩ (.bool false)) w.heap.size (hdC ⟨2, vk, vn, vs, vb, vc, 0, 0, false, false, row2, col2, fr2, fc2, txt⟩ (.slice a n cap))) := (((((HX0.out.below hb1).at 6 (.int .i64 0)).at 7 (.int .i64 0)).at 8 (.bool false)).at 9 (.bool false)); clear hb1) | (go_at_call 84; refine (HE.out _).mono ?_; rintro e w9 ⟨rfl, hb9⟩; have HB9 := hide hb9; clear hb9))
  go_ret
  refine ⟨rfl, ?_⟩
  have b1 := HB1.out
  have b9 := HB9.out
  repeat' (first | with_reducible exact Below.refl _ _ | with_reducible refine Below.setCell ?_ ?_ _ | with_reducible refine Below.alloc ?_ ?_ _ | with_reducible refine below_drewN ?_ _ | with_reducible refine Below.drew ?_ | with_reducible refine Below.trans ?_ (Below.mono (by assumption) ?_) | with_reducible exact Nat.le_refl _ | with_reducible refine Nat.le_trans ?_ (Below.size (by assumption)) | with_reducible refine Nat.le_trans ?_ (size_alloc _ _) | with_reducible refine Nat.le_trans ?_ (size_set _ _ _) | with_reducible refine Nat.le_trans ?_ (size_drewN _ _) | with_reducible refine Nat.le_trans ?_ (size_drew _) | (simp; done) | (simp; omega) | omega)
set_option maxRecDepth 100000 in
set_option maxHeartbeats 2000000 in
theorem alone_neg_true (vk : Int) (vn : Int) (vs : List UInt8) (vb : Bool) (vc : Int) (row : Int) (col : Int) (fr : Bool) (fc : Bool) (row2 : Int) (col2 : Int) (fr2 : Bool) (fc2 : Bool) (txt : List UInt8) (a : Option Addr) (n cap : Nat) (w : World) (q : ((n : Int) == 1) = true) :
    Calls Tryz.prog 65 #[.agg (hdC ⟨4, vk, vn, vs, vb, vc, row, col, fr, fc, row2, col2, fr2, fc2, txt⟩ (.slice a n cap)).toArray] w fun e w' => e = .returned (.bool (emptyB ⟨4, vk, vn, vs, vb, vc, row, col, fr, fc, row2, col2, fr2, fc2, txt⟩ 0)) ∧ Below w.heap.size w w' := by
  have d0 := (Box.new w (hdC ⟨4, vk, vn, vs, vb, vc, row, col, fr, fc, row2, col2, fr2, fc2, txt⟩ (.slice a n cap))).cell 0 (.int .i64 4) rfl
  have d1 := (Box.new w (hdC ⟨4, vk, vn, vs, vb, vc, row, col, fr, fc, row2, col2, fr2, fc2, txt⟩ (.slice a n cap))).cell 1 (.int .i64 vk) rfl
  have d2 := (Box.new w (hdC ⟨4, vk, vn, vs, vb, vc, row, col, fr, fc, row2, col2, fr2, fc2, txt⟩ (.slice a n cap))).cell 2 (.int .i64 vn) rfl
  have d3 := (Box.new w (hdC ⟨4, vk, vn, vs, vb, vc, row, col, fr, fc, row2, col2, fr2, fc2, txt⟩ (.slice a n cap))).cell 3 (.string ⟨vs.toArray⟩) rfl
  have d4 := (Box.new w (hdC ⟨4, vk, vn, vs, vb, vc, row, col, fr, fc, row2, col2, fr2, fc2, txt⟩ (.slice a n cap))).cell 4 (.bool vb) rfl
  have d5 := (Box.new w (hdC ⟨4, vk, vn, vs, vb, vc, row, col, fr, fc, row2, col2, fr2, fc2, txt⟩ (.slice a n cap))).cell 5 (.int .i64 vc) rfl
  have d6 := (Box.new w (hdC ⟨4, vk, vn, vs, vb, vc, row, col, fr, fc, row2, col2, fr2, fc2, txt⟩ (.slice a n cap))).cell 6 (.int .i64 row) rfl
  have d7 := (Box.new w (hdC ⟨4, vk, vn, vs, vb, vc, row, col, fr, fc, row2, col2, fr2, fc2, txt⟩ (.slice a n cap))).cell 7 (.int .i64 col) rfl
  have d8 := (Box.new w (hdC ⟨4, vk, vn, vs, vb, vc, row, col, fr, fc, row2, col2, fr2, fc2, txt⟩ (.slice a n cap))).cell 8 (.bool fr) rfl
  have d9 := (Box.new w (hdC ⟨4, vk, vn, vs, vb, vc, row, col, fr, fc, row2, col2, fr2, fc2, txt⟩ (.slice a n cap))).cell 9 (.bool fc) rfl
  have d10 := (Box.new w (hdC ⟨4, vk, vn, vs, vb, vc, row, col, fr, fc, row2, col2, fr2, fc2, txt⟩ (.slice a n cap))).cell 10 (.int .i64 row2) rfl
  have d11 := (Box.new w (hdC ⟨4, vk, vn, vs, vb, vc, row, col, fr, fc, row2, col2, fr2, fc2, txt⟩ (.slice a n cap))).cell 11 (.int .i64 col2) rfl
  have d12 := (Box.new w (hdC ⟨4, vk, vn, vs, vb, vc, row, col, fr, fc, row2, col2, fr2, fc2, txt⟩ (.slice a n cap))).cell 12 (.bool fr2) rfl
  have d13 := (Box.new w (hdC ⟨4, vk, vn, vs, vb, vc, row, col, fr, fc, row2, col2, fr2, fc2, txt⟩ (.slice a n cap))).cell 13 (.bool fc2) rfl
  have d14 := (Box.new w (hdC ⟨4, vk, vn, vs, vb, vc, row, col, fr, fc, row2, col2, fr2, fc2, txt⟩ (.slice a n cap))).cell 14 (.string ⟨txt.toArray⟩) rfl
  have d15 := (Box.new w (hdC ⟨4, vk, vn, vs, vb, vc, row, col, fr, fc, row2, col2, fr2, fc2, txt⟩ (.slice a n cap))).cell 15 (.slice a n cap) rfl
  have fz := (Box.new w (hdC ⟨4, vk, vn, vs, vb, vc, row, col, fr, fc, row2, col2, fr2, fc2, txt⟩ (.slice a n cap))).froz
  have HX0 := hide (Box.new w (hdC ⟨4, vk, vn, vs, vb, vc, row, col, fr, fc, row2, col2, fr2, fc2, txt⟩ (.slice a n cap)))
  have HE : Hid (∀ W : World, Calls Tryz.prog 84 #[.agg (hdC ⟨4, vk, vn, vs, vb, vc, row, col, fr, fc, row2, col2, fr2, fc2, txt⟩ (.slice none 0 0)).toArray] W fun e w' => e = .returned (.bool (emptyB ⟨4, vk, vn, vs, vb, vc, row, col, fr, fc, row2, col2, fr2, fc2, txt⟩ 0)) ∧ Below W.heap.size W w') := fun W => isEmpty_any _ _ _ _ W
  have HXZ : Hid (Box (w.alloc (.cells ((hdC ⟨4, vk, vn, vs, vb, vc, row, col, fr, fc, row2, col2, fr2, fc2, txt⟩ (.slice a n cap)).set 15 (.slice none 0 0)).toArray 68)) w.heap.size (hdC ⟨4, vk, vn, vs, vb, vc, row, col, fr, fc, row2, col2, fr2, fc2, txt⟩ (.slice none 0 0))) := Box.new w ((hdC ⟨4, vk, vn, vs, vb, vc, row, col, fr, fc, row2, col2, fr2, fc2, txt⟩ (.slice a n cap)).set 15 (.slice none 0 0))
  go_enter Tryz.func65, Tryz.ntmps65
  go_wp2_with (first | (with_reducible refine wpl_id ?_; refine wpl_loadG rfl _ rfl _ rfl (Hid.out (by assumption)) ?_) | (go_at_call 84; refine (HE.out _).mono ?_; rintro e w9 ⟨rfl, hb9⟩; have HB9 := hide hb9; clear hb9))
  go_ret
  refine ⟨rfl, ?_⟩
  have b9 := HB9.out
  repeat' (first | with_reducible exact Below.refl _ _ | with_reducible refine Below.setCell ?_ ?_ _ | with_reducible refine Below.alloc ?_ ?_ _ | with_reducible refine below_drewN ?_ _ | with_reducible refine Below.drew ?_ | with_reducible refine Below.trans ?_ (Below.mono (by assumption) ?_) | with_reducible exact Nat.le_refl _ | with_reducible refine Nat.le_trans ?_ (Below.size (by assumption)) | with_reducible refine Nat.le_trans ?_ (size_alloc _ _) | with_reducible refine Nat.le_trans ?_ (size_set _ _ _) | with_reducible refine Nat.le_trans ?_ (size_drewN _ _) | with_reducible refine Nat.le_trans ?_ (size_drew _) | (simp; done) | (simp; omega) | omega)
set_option maxRecDepth 100000 in
set_option maxHeartbeats 2000000 in
theorem alone_bin_true (vk : Int) (vn : Int) (vs : List UInt8) (vb : Bool) (vc : Int) (row : Int) (col : Int) (fr : Bool) (fc : Bool) (row2 : Int) (col2 : Int) (fr2 : Bool) (fc2 : Bool) (txt : List UInt8) (a : Option Addr) (n cap : Nat) (w : World) (q : 0 < bindN txt) (q2 : ((n : Int) == 2) = true) :
    Calls Tryz.prog 65 #[.agg (hdC ⟨5, vk, vn, vs, vb, vc, row, col, fr, fc, row2, col2, fr2, fc2, txt⟩ (.slice a n cap)).toArray] w fun e w' => e = .returned (.bool (emptyB ⟨5, vk, vn, vs, vb, vc, row, col, fr, fc, row2, col2, fr2, fc2, []⟩ 0)) ∧ Below w.heap.size w w' := by
  have HC1 : Hid (∀ W : World, Calls Tryz.prog 82 #[.string ⟨txt.toArray⟩] W fun e w' => e = .returned (.int .i64 (bindN txt : Int)) ∧ w' = W) := fun W => by
    have := binding_any ⟨txt.toArray⟩ W
    simpa using this
  have q' : (0 : Int) < (bindN txt : Int) := by omega
  clear q
  generalize bindN txt = bn at *
  have d0 := (Box.new w (hdC ⟨5, vk, vn, vs, vb, vc, row, col, fr, fc, row2, col2, fr2, fc2, txt⟩ (.slice a n cap))).cell 0 (.int .i64 5) rfl
  have d1 := (Box.new w (hdC ⟨5, vk, vn, vs, vb, vc, row, col, fr, fc, row2, col2, fr2, fc2, txt⟩ (.slice a n cap))).cell 1 (.int .i64 vk) rfl
  have d2 := (Box.new w (hdC ⟨5, vk, vn, vs, vb, vc, row, col, fr, fc, row2, col2, fr2, fc2, txt⟩ (.slice a n cap))).cell 2 (.int .i64 vn) rfl
  have d3 := (Box.new w (hdC ⟨5, vk, vn, vs, vb, vc, row, col, fr, fc, row2, col2, fr2, fc2, txt⟩ (.slice a n cap))).cell 3 (.string ⟨vs.toArray⟩) rfl
  have d4 := (Box.new w (hdC ⟨5, vk, vn, vs, vb, vc, row, col, fr, fc, row2, col2, fr2, fc2, txt⟩ (.slice a n cap))).cell 4 (.bool vb) rfl
  have d5 := (Box.new w (hdC ⟨5, vk, vn, vs, vb, vc, row, col, fr, fc, row2, col2, fr2, fc2, txt⟩ (.slice a n cap))).cell 5 (.int .i64 vc) rfl
  have d6 := (Box.new w (hdC ⟨5, vk, vn, vs, vb, vc, row, col, fr, fc, row2, col2, fr2, fc2, txt⟩ (.slice a n cap))).cell 6 (.int .i64 row) rfl
  have d7 := (Box.new w (hdC ⟨5, vk, vn, vs, vb, vc, row, col, fr, fc, row2, col2, fr2, fc2, txt⟩ (.slice a n cap))).cell 7 (.int .i64 col) rfl
  have d8 := (Box.new w (hdC ⟨5, vk, vn, vs, vb, vc, row, col, fr, fc, row2, col2, fr2, fc2, txt⟩ (.slice a n cap))).cell 8 (.bool fr) rfl
  have d9 := (Box.new w (hdC ⟨5, vk, vn, vs, vb, vc, row, col, fr, fc, row2, col2, fr2, fc2, txt⟩ (.slice a n cap))).cell 9 (.bool fc) rfl
  have d10 := (Box.new w (hdC ⟨5, vk, vn, vs, vb, vc, row, col, fr, fc, row2, col2, fr2, fc2, txt⟩ (.slice a n cap))).cell 10 (.int .i64 row2) rfl
  have d11 := (Box.new w (hdC ⟨5, vk, vn, vs, vb, vc, row, col, fr, fc, row2, col2, fr2, fc2, txt⟩ (.slice a n cap))).cell 11 (.int .i64 col2) rfl
  have d12 := (Box.new w (hdC ⟨5, vk, vn, vs, vb, vc, row, col, fr, fc, row2, col2, fr2, fc2, txt⟩ (.slice a n cap))).cell 12 (.bool fr2) rfl
  have d13 := (Box.new w (hdC ⟨5, vk, vn, vs, vb, vc, row, col, fr, fc, row2, col2, fr2, fc2, txt⟩ (.slice a n cap))).cell 13 (.bool fc2) rfl
  have d14 := (Box.new w (hdC ⟨5, vk, vn, vs, vb, vc, row, col, fr, fc, row2, col2, fr2, fc2, txt⟩ (.slice a n cap))).cell 14 (.string ⟨txt.toArray⟩) rfl
  have d15 := (Box.new w (hdC ⟨5, vk, vn, vs, vb, vc, row, col, fr, fc, row2, col2, fr2, fc2, txt⟩ (.slice a n cap))).cell 15 (.slice a n cap) rfl
  have fz := (Box.new w (hdC ⟨5, vk, vn, vs, vb, vc, row, col, fr, fc, row2, col2, fr2, fc2, txt⟩ (.slice a n cap))).froz
  have HX0 := hide (Box.new w (hdC ⟨5, vk, vn, vs, vb, vc, row, col, fr, fc, row2, col2, fr2, fc2, txt⟩ (.slice a n cap)))
  have HE : Hid (∀ W : World, Calls Tryz.prog 84 #[.agg (hdC ⟨5, vk, vn, vs, vb, vc, row, col, fr, fc, row2, col2, fr2, fc2, []⟩ (.slice none 0 0)).toArray] W fun e w' => e = .returned (.bool (emptyB ⟨5, vk, vn, vs, vb, vc, row, col, fr, fc, row2, col2, fr2, fc2, []⟩ 0)) ∧ Below W.heap.size W w') := fun W => isEmpty_any _ _ _ _ W
  have HXZ : Hid (Box (w.alloc (.cells (((hdC ⟨5, vk, vn, vs, vb, vc, row, col, fr, fc, row2, col2, fr2, fc2, txt⟩ (.slice a n cap)).set 14 (.string ⟨#[]⟩)).set 15 (.slice none 0 0)).toArray 68)) w.heap.size (hdC ⟨5, vk, vn, vs, vb, vc, row, col, fr, fc, row2, col2, fr2, fc2, []⟩ (.slice none 0 0))) := Box.new w (((hdC ⟨5, vk, vn, vs, vb, vc, row, col, fr, fc, row2, col2, fr2, fc2, txt⟩ (.slice a n cap)).set 14 (.string ⟨#[]⟩)).set 15 (.slice none 0 0))
  go_enter Tryz.func65, Tryz.ntmps65
  go_wp2_with (first | (with_reducible refine wpl_id ?_; refine wpl_loadG rfl _ rfl _ rfl (Hid.out (by assumption)) ?_) | (go_at_call 82; refine (HC1.out _).mono ?_; rintro e wz ⟨rfl, hz⟩; subst wz) | (go_at_call 84; refine (HE.out _).mono ?_; rintro e w9 ⟨rfl, hb9⟩; have HB9 := hide hb9; clear hb9))
  go_ret
  refine ⟨rfl, ?_⟩
  have b9 := HB9.out
  repeat' (first | with_reducible exact Below.refl _ _ | with_reducible refine Below.setCell ?_ ?_ _ | with_reducible refine Below.alloc ?_ ?_ _ | with_reducible refine below_drewN ?_ _ | with_reducible refine Below.drew ?_ | with_reducible refine Below.trans ?_ (Below.mono (by assumption) ?_) | with_reducible exact Nat.le_refl _ | with_reducible refine Nat.le_trans ?_ (Below.size (by assumption)) | with_reducible refine Nat.le_trans ?_ (size_alloc _ _) | with_reducible refine Nat.le_trans ?_ (size_set _ _ _) | with_reducible refine Nat.le_trans ?_ (size_drewN _ _) | with_reducible refine Nat.le_trans ?_ (size_drew _) | (simp; done) | (simp; omega) | omega)
set_option maxRecDepth 100000 in
set_option maxHeartbeats 2000000 in
theorem alone_call_true (vk : Int) (vn : Int) (vs : List UInt8) (vb : Bool) (vc : Int) (row : Int) (col : Int) (fr : Bool) (fc : Bool) (row2 : Int) (col2 : Int) (fr2 : Bool) (fc2 : Bool) (txt : List UInt8) (a : Option Addr) (n cap : Nat) (w : World) (hs : txt.length ≤ maxLen) (q : nameOk txt = true) :
    Calls Tryz.prog 65 #[.agg (hdC ⟨6, vk, vn, vs, vb, vc, row, col, fr, fc, row2, col2, fr2, fc2, txt⟩ (.slice a n cap)).toArray] w fun e w' => e = .returned (.bool (emptyB ⟨6, vk, vn, vs, vb, vc, row, col, fr, fc, row2, col2, fr2, fc2, []⟩ 0)) ∧ Below w.heap.size w w' := by
  have HC1 : Hid (∀ W : World, Calls Tryz.prog 83 #[.string ⟨txt.toArray⟩] W fun e w' => e = .returned (.bool true) ∧ Below W.heap.size W w') := fun W => by
    have := isName_any ⟨txt.toArray⟩ W (by show txt.toArray.size ≤ _; simpa using hs)
    simp only [q] at this
    exact this
  clear q hs
  have d0 := (Box.new w (hdC ⟨6, vk, vn, vs, vb, vc, row, col, fr, fc, row2, col2, fr2, fc2, txt⟩ (.slice a n cap))).cell 0 (.int .i64 6) rfl
  have d1 := (Box.new w (hdC ⟨6, vk, vn, vs, vb, vc, row, col, fr, fc, row2, col2, fr2, fc2, txt⟩ (.slice a n cap))).cell 1 (.int .i64 vk) rfl
  have d2 := (Box.new w (hdC ⟨6, vk, vn, vs, vb, vc, row, col, fr, fc, row2, col2, fr2, fc2, txt⟩ (.slice a n cap))).cell 2 (.int .i64 vn) rfl
  have d3 := (Box.new w (hdC ⟨6, vk, vn, vs, vb, vc, row, col, fr, fc, row2, col2, fr2, fc2, txt⟩ (.slice a n cap))).cell 3 (.string ⟨vs.toArray⟩) rfl
  have d4 := (Box.new w (hdC ⟨6, vk, vn, vs, vb, vc, row, col, fr, fc, row2, col2, fr2, fc2, txt⟩ (.slice a n cap))).cell 4 (.bool vb) rfl
  have d5 := (Box.new w (hdC ⟨6, vk, vn, vs, vb, vc, row, col, fr, fc, row2, col2, fr2, fc2, txt⟩ (.slice a n cap))).cell 5 (.int .i64 vc) rfl
  have d6 := (Box.new w (hdC ⟨6, vk, vn, vs, vb, vc, row, col, fr, fc, row2, col2, fr2, fc2, txt⟩ (.slice a n cap))).cell 6 (.int .i64 row) rfl
  have d7 := (Box.new w (hdC ⟨6, vk, vn, vs, vb, vc, row, col, fr, fc, row2, col2, fr2, fc2, txt⟩ (.slice a n cap))).cell 7 (.int .i64 col) rfl
  have d8 := (Box.new w (hdC ⟨6, vk, vn, vs, vb, vc, row, col, fr, fc, row2, col2, fr2, fc2, txt⟩ (.slice a n cap))).cell 8 (.bool fr) rfl
  have d9 := (Box.new w (hdC ⟨6, vk, vn, vs, vb, vc, row, col, fr, fc, row2, col2, fr2, fc2, txt⟩ (.slice a n cap))).cell 9 (.bool fc) rfl
  have d10 := (Box.new w (hdC ⟨6, vk, vn, vs, vb, vc, row, col, fr, fc, row2, col2, fr2, fc2, txt⟩ (.slice a n cap))).cell 10 (.int .i64 row2) rfl
  have d11 := (Box.new w (hdC ⟨6, vk, vn, vs, vb, vc, row, col, fr, fc, row2, col2, fr2, fc2, txt⟩ (.slice a n cap))).cell 11 (.int .i64 col2) rfl
  have d12 := (Box.new w (hdC ⟨6, vk, vn, vs, vb, vc, row, col, fr, fc, row2, col2, fr2, fc2, txt⟩ (.slice a n cap))).cell 12 (.bool fr2) rfl
  have d13 := (Box.new w (hdC ⟨6, vk, vn, vs, vb, vc, row, col, fr, fc, row2, col2, fr2, fc2, txt⟩ (.slice a n cap))).cell 13 (.bool fc2) rfl
  have d14 := (Box.new w (hdC ⟨6, vk, vn, vs, vb, vc, row, col, fr, fc, row2, col2, fr2, fc2, txt⟩ (.slice a n cap))).cell 14 (.string ⟨txt.toArray⟩) rfl
  have d15 := (Box.new w (hdC ⟨6, vk, vn, vs, vb, vc, row, col, fr, fc, row2, col2, fr2, fc2, txt⟩ (.slice a n cap))).cell 15 (.slice a n cap) rfl
  have fz := (Box.new w (hdC ⟨6, vk, vn, vs, vb, vc, row, col, fr, fc, row2, col2, fr2, fc2, txt⟩ (.slice a n cap))).froz
  have HX0 := hide (Box.new w (hdC ⟨6, vk, vn, vs, vb, vc, row, col, fr, fc, row2, col2, fr2, fc2, txt⟩ (.slice a n cap)))
  have HE : Hid (∀ W : World, Calls Tryz.prog 84 #[.agg (hdC ⟨6, vk, vn, vs, vb, vc, row, col, fr, fc, row2, col2, fr2, fc2, []⟩ (.slice none 0 0)).toArray] W fun e w' => e = .returned (.bool (emptyB ⟨6, vk, vn, vs, vb, vc, row, col, fr, fc, row2, col2, fr2, fc2, []⟩ 0)) ∧ Below W.heap.size W w') := fun W => isEmpty_any _ _ _ _ W
  go_enter Tryz.func65, Tryz.ntmps65
  go_wp2_with (first | (with_reducible refine wpl_id ?_; refine wpl_loadG rfl _ rfl _ rfl (Hid.out (by assumption)) ?_) | (go_at_call 83; refine (HC1.out _).mono ?_; rintro e w1 ⟨rfl, hb1⟩; obtain ⟨c1, f1⟩ := bcell hb1; have HB1 := hide hb1; have s1 : w.heap.size < w1.heap.size := (by have := hb1.size; first | omega | (simp at this; omega)); have HXZ : Hid (Box (((w1).setCell ⟨w.heap.size, 14, none⟩ (.string ⟨#[]⟩)).setCell ⟨w.heap.size, 15, none⟩ (.slice none 0 0)) w.heap.size (hdC ⟨6, vk, vn, vs, vb, vc, row, col, fr, fc, row2, col2, fr2, fc2, []⟩ (.slice none 0 0))) := (((HX0.out.below hb1).at 14 (.string ⟨#[]⟩)).at 15 (.slice none 0 0)); clear hb1) | (go_at_call 84; refine (HE.out _).mono ?_; rintro e w9 ⟨rfl, hb9⟩; have HB9 := hide hb9; clear hb9))
  go_ret
  refine ⟨rfl, ?_⟩
  have b1 := HB1.out
  have b9 := HB9.out
  repeat' (first | with_reducible exact Below.refl _ _ | with_reducible refine Below.setCell ?_ ?_ _ | with_reducible refine Below.alloc ?_ ?_ _ | with_reducible refine below_drewN ?_ _ | with_reducible refine Below.drew ?_ | with_reducible refine Below.trans ?_ (Below.mono (by assumption) ?_) | with_reducible exact Nat.le_refl _ | with_reducible refine Nat.le_trans ?_ (Below.size (by assumption)) | with_reducible refine Nat.le_trans ?_ (size_alloc _ _) | with_reducible refine Nat.le_trans ?_ (size_set _ _ _) | with_reducible refine Nat.le_trans ?_ (size_drewN _ _) | with_reducible refine Nat.le_trans ?_ (size_drew _) | (simp; done) | (simp; omega) | omega)
set_option maxRecDepth 100000 in
set_option maxHeartbeats 2000000 in
theorem alone_value_false (vk : Int) (vn : Int) (vs : List UInt8) (vb : Bool) (vc : Int) (row : Int) (col : Int) (fr : Bool) (fc : Bool) (row2 : Int) (col2 : Int) (fr2 : Bool) (fc2 : Bool) (txt : List UInt8) (a : Option Addr) (n cap : Nat) (w : World) (hs : vs.length ≤ maxLen) (q : constB ⟨1, vk, vn, vs, vb, vc, row, col, fr, fc, row2, col2, fr2, fc2, txt⟩ = false) :
    Calls Tryz.prog 65 #[.agg (hdC ⟨1, vk, vn, vs, vb, vc, row, col, fr, fc, row2, col2, fr2, fc2, txt⟩ (.slice a n cap)).toArray] w fun e w' => e = .returned (.bool (false)) ∧ Below w.heap.size w w' := by
  have HC1 : Hid (∀ W : World, Calls Tryz.prog 80 #[.agg #[.int .i64 vk, .int .i64 vn, .string ⟨vs.toArray⟩, .bool vb, .int .i64 vc]] W fun e w' => e = .returned (.bool false) ∧ Below W.heap.size W w') := fun W => by
    have := isConstant_any ⟨1, vk, vn, vs, vb, vc, row, col, fr, fc, row2, col2, fr2, fc2, txt⟩ W hs
    rw [q] at this
    exact this
  clear q hs
  have d0 := (Box.new w (hdC ⟨1, vk, vn, vs, vb, vc, row, col, fr, fc, row2, col2, fr2, fc2, txt⟩ (.slice a n cap))).cell 0 (.int .i64 1) rfl
  have d1 := (Box.new w (hdC ⟨1, vk, vn, vs, vb, vc, row, col, fr, fc, row2, col2, fr2, fc2, txt⟩ (.slice a n cap))).cell 1 (.int .i64 vk) rfl
  have d2 := (Box.new w (hdC ⟨1, vk, vn, vs, vb, vc, row, col, fr, fc, row2, col2, fr2, fc2, txt⟩ (.slice a n cap))).cell 2 (.int .i64 vn) rfl
  have d3 := (Box.new w (hdC ⟨1, vk, vn, vs, vb, vc, row, col, fr, fc, row2, col2, fr2, fc2, txt⟩ (.slice a n cap))).cell 3 (.string ⟨vs.toArray⟩) rfl
  have d4 := (Box.new w (hdC ⟨1, vk, vn, vs, vb, vc, row, col, fr, fc, row2, col2, fr2, fc2, txt⟩ (.slice a n cap))).cell 4 (.bool vb) rfl
  have d5 := (Box.new w (hdC ⟨1, vk, vn, vs, vb, vc, row, col, fr, fc, row2, col2, fr2, fc2, txt⟩ (.slice a n cap))).cell 5 (.int .i64 vc) rfl
  have d6 := (Box.new w (hdC ⟨1, vk, vn, vs, vb, vc, row, col, fr, fc, row2, col2, fr2, fc2, txt⟩ (.slice a n cap))).cell 6 (.int .i64 row) rfl
  have d7 := (Box.new w (hdC ⟨1, vk, vn, vs, vb, vc, row, col, fr, fc, row2, col2, fr2, fc2, txt⟩ (.slice a n cap))).cell 7 (.int .i64 col) rfl
  have d8 := (Box.new w (hdC ⟨1, vk, vn, vs, vb, vc, row, col, fr, fc, row2, col2, fr2, fc2, txt⟩ (.slice a n cap))).cell 8 (.bool fr) rfl
  have d9 := (Box.new w (hdC ⟨1, vk, vn, vs, vb, vc, row, col, fr, fc, row2, col2, fr2, fc2, txt⟩ (.slice a n cap))).cell 9 (.bool fc) rfl
  have d10 := (Box.new w (hdC ⟨1, vk, vn, vs, vb, vc, row, col, fr, fc, row2, col2, fr2, fc2, txt⟩ (.slice a n cap))).cell 10 (.int .i64 row2) rfl
  have d11 := (Box.new w (hdC ⟨1, vk, vn, vs, vb, vc, row, col, fr, fc, row2, col2, fr2, fc2, txt⟩ (.slice a n cap))).cell 11 (.int .i64 col2) rfl
  have d12 := (Box.new w (hdC ⟨1, vk, vn, vs, vb, vc, row, col, fr, fc, row2, col2, fr2, fc2, txt⟩ (.slice a n cap))).cell 12 (.bool fr2) rfl
  have d13 := (Box.new w (hdC ⟨1, vk, vn, vs, vb, vc, row, col, fr, fc, row2, col2, fr2, fc2, txt⟩ (.slice a n cap))).cell 13 (.bool fc2) rfl
  have d14 := (Box.new w (hdC ⟨1, vk, vn, vs, vb, vc, row, col, fr, fc, row2, col2, fr2, fc2, txt⟩ (.slice a n cap))).cell 14 (.string ⟨txt.toArray⟩) rfl
  have d15 := (Box.new w (hdC ⟨1, vk, vn, vs, vb, vc, row, col, fr, fc, row2, col2, fr2, fc2, txt⟩ (.slice a n cap))).cell 15 (.slice a n cap) rfl
  have fz := (Box.new w (hdC ⟨1, vk, vn, vs, vb, vc, row, col, fr, fc, row2, col2, fr2, fc2, txt⟩ (.slice a n cap))).froz
  have HX0 := hide (Box.new w (hdC ⟨1, vk, vn, vs, vb, vc, row, col, fr, fc, row2, col2, fr2, fc2, txt⟩ (.slice a n cap)))
  go_enter Tryz.func65, Tryz.ntmps65
  go_wp2_with (first | (with_reducible refine wpl_id ?_; refine wpl_loadG rfl _ rfl _ rfl (Hid.out (by assumption)) ?_) | (go_at_call 80; refine (HC1.out _).mono ?_; rintro e w1 ⟨rfl, hb1⟩; obtain ⟨c1, f1⟩ := bcell hb1; have HB1 := hide hb1; have s1 : w.heap.size < w1.heap.size := (by have := hb1.size; first | omega | (simp at this; omega)); clear hb1))
  go_ret
  refine ⟨rfl, ?_⟩
  have b1 := HB1.out
  repeat' (first | with_reducible exact Below.refl _ _ | with_reducible refine Below.setCell ?_ ?_ _ | with_reducible refine Below.alloc ?_ ?_ _ | with_reducible refine below_drewN ?_ _ | with_reducible refine Below.drew ?_ | with_reducible refine Below.trans ?_ (Below.mono (by assumption) ?_) | with_reducible exact Nat.le_refl _ | with_reducible refine Nat.le_trans ?_ (Below.size (by assumption)) | with_reducible refine Nat.le_trans ?_ (size_alloc _ _) | with_reducible refine Nat.le_trans ?_ (size_set _ _ _) | with_reducible refine Nat.le_trans ?_ (size_drewN _ _) | with_reducible refine Nat.le_trans ?_ (size_drew _) | (simp; done) | (simp; omega) | omega)
set_option maxRecDepth 100000 in
set_option maxHeartbeats 2000000 in
theorem alone_cell_false (vk : Int) (vn : Int) (vs : List UInt8) (vb : Bool) (vc : Int) (row : Int) (col : Int) (fr : Bool) (fc : Bool) (row2 : Int) (col2 : Int) (fr2 : Bool) (fc2 : Bool) (txt : List UInt8) (a : Option Addr) (n cap : Nat) (w : World) (q : Pla.placeB row col = false) :
    Calls Tryz.prog 65 #[.agg (hdC ⟨2, vk, vn, vs, vb, vc, row, col, fr, fc, row2, col2, fr2, fc2, txt⟩ (.slice a n cap)).toArray] w fun e w' => e = .returned (.bool (false)) ∧ Below w.heap.size w w' := by
  have HC1 : Hid (∀ W : World, Calls Tryz.prog 81 #[.agg #[.int .i64 row, .int .i64 col, .bool fr, .bool fc]] W fun e w' => e = .returned (.bool false) ∧ Below W.heap.size W w') := fun W => by
    have := isCell_any row col fr fc W
    rw [q] at this
    exact this
  clear q
  have d0 := (Box.new w (hdC ⟨2, vk, vn, vs, vb, vc, row, col, fr, fc, row2, col2, fr2, fc2, txt⟩ (.slice a n cap))).cell 0 (.int .i64 2) rfl
  have d1 := (Box.new w (hdC ⟨2, vk, vn, vs, vb, vc, row, col, fr, fc, row2, col2, fr2, fc2, txt⟩ (.slice a n cap))).cell 1 (.int .i64 vk) rfl
  have d2 := (Box.new w (hdC ⟨2, vk, vn, vs, vb, vc, row, col, fr, fc, row2, col2, fr2, fc2, txt⟩ (.slice a n cap))).cell 2 (.int .i64 vn) rfl
  have d3 := (Box.new w (hdC ⟨2, vk, vn, vs, vb, vc, row, col, fr, fc, row2, col2, fr2, fc2, txt⟩ (.slice a n cap))).cell 3 (.string ⟨vs.toArray⟩) rfl
  have d4 := (Box.new w (hdC ⟨2, vk, vn, vs, vb, vc, row, col, fr, fc, row2, col2, fr2, fc2, txt⟩ (.slice a n cap))).cell 4 (.bool vb) rfl
  have d5 := (Box.new w (hdC ⟨2, vk, vn, vs, vb, vc, row, col, fr, fc, row2, col2, fr2, fc2, txt⟩ (.slice a n cap))).cell 5 (.int .i64 vc) rfl
  have d6 := (Box.new w (hdC ⟨2, vk, vn, vs, vb, vc, row, col, fr, fc, row2, col2, fr2, fc2, txt⟩ (.slice a n cap))).cell 6 (.int .i64 row) rfl
  have d7 := (Box.new w (hdC ⟨2, vk, vn, vs, vb, vc, row, col, fr, fc, row2, col2, fr2, fc2, txt⟩ (.slice a n cap))).cell 7 (.int .i64 col) rfl
  have d8 := (Box.new w (hdC ⟨2, vk, vn, vs, vb, vc, row, col, fr, fc, row2, col2, fr2, fc2, txt⟩ (.slice a n cap))).cell 8 (.bool fr) rfl
  have d9 := (Box.new w (hdC ⟨2, vk, vn, vs, vb, vc, row, col, fr, fc, row2, col2, fr2, fc2, txt⟩ (.slice a n cap))).cell 9 (.bool fc) rfl
  have d10 := (Box.new w (hdC ⟨2, vk, vn, vs, vb, vc, row, col, fr, fc, row2, col2, fr2, fc2, txt⟩ (.slice a n cap))).cell 10 (.int .i64 row2) rfl
  have d11 := (Box.new w (hdC ⟨2, vk, vn, vs, vb, vc, row, col, fr, fc, row2, col2, fr2, fc2, txt⟩ (.slice a n cap))).cell 11 (.int .i64 col2) rfl
  have d12 := (Box.new w (hdC ⟨2, vk, vn, vs, vb, vc, row, col, fr, fc, row2, col2, fr2, fc2, txt⟩ (.slice a n cap))).cell 12 (.bool fr2) rfl
  have d13 := (Box.new w (hdC ⟨2, vk, vn, vs, vb, vc, row, col, fr, fc, row2, col2, fr2, fc2, txt⟩ (.slice a n cap))).cell 13 (.bool fc2) rfl
  have d14 := (Box.new w (hdC ⟨2, vk, vn, vs, vb, vc, row, col, fr, fc, row2, col2, fr2, fc2, txt⟩ (.slice a n cap))).cell 14 (.string ⟨txt.toArray⟩) rfl
  have d15 := (Box.new w (hdC ⟨2, vk, vn, vs, vb, vc, row, col, fr, fc, row2, col2, fr2, fc2, txt⟩ (.slice a n cap))).cell 15 (.slice a n cap) rfl
  have fz := (Box.new w (hdC ⟨2, vk, vn, vs, vb, vc, row, col, fr, fc, row2, col2, fr2, fc2, txt⟩ (.slice a n cap))).froz
  have HX0 := hide (Box.new w (hdC ⟨2, vk, vn, vs, vb, vc, row, col, fr, fc, row2, col2, fr2, fc2, txt⟩ (.slice a n cap)))
  go_enter Tryz.func65, Tryz.ntmps65
  go_wp2_with (first | (with_reducible refine wpl_id ?_; refine wpl_loadG rfl _ rfl _ rfl (Hid.out (by assumption)) ?_) | (go_at_call 81; refine (HC1.out _).mono ?_; rintro e w1 ⟨rfl, hb1⟩; obtain ⟨c1, f1⟩ := bcell hb1; have HB1 := hide hb1; have s1 : w.heap.size < w1.heap.size := (by have := hb1.size; first | omega | (simp at this; omega)); clear hb1))
  go_ret
  refine ⟨rfl, ?_⟩
  have b1 := HB1.out
  repeat' (first | with_reducible exact Below.refl _ _ | with_reducible refine Below.setCell ?_ ?_ _ | with_reducible refine Below.alloc ?_ ?_ _ | with_reducible refine below_drewN ?_ _ | with_reducible refine Below.drew ?_ | with_reducible refine Below.trans ?_ (Below.mono (by assumption) ?_) | with_reducible exact Nat.le_refl _ | with_reducible refine Nat.le_trans ?_ (Below.size (by assumption)) | with_reducible refine Nat.le_trans ?_ (size_alloc _ _) | with_reducible refine Nat.le_trans ?_ (size_set _ _ _) | with_reducible refine Nat.le_trans ?_ (size_drewN _ _) | with_reducible refine Nat.le_trans ?_ (size_drew _) | (simp; done) | (simp; omega) | omega)
set_option maxRecDepth 100000 in
set_option maxHeartbeats 2000000 in
theorem alone_neg_false (vk : Int) (vn : Int) (vs : List UInt8) (vb : Bool) (vc : Int) (row : Int) (col : Int) (fr : Bool) (fc : Bool) (row2 : Int) (col2 : Int) (fr2 : Bool) (fc2 : Bool) (txt : List UInt8) (a : Option Addr) (n cap : Nat) (w : World) (q : ((n : Int) == 1) = false) :
    Calls Tryz.prog 65 #[.agg (hdC ⟨4, vk, vn, vs, vb, vc, row, col, fr, fc, row2, col2, fr2, fc2, txt⟩ (.slice a n cap)).toArray] w fun e w' => e = .returned (.bool (false)) ∧ Below w.heap.size w w' := by
  have d0 := (Box.new w (hdC ⟨4, vk, vn, vs, vb, vc, row, col, fr, fc, row2, col2, fr2, fc2, txt⟩ (.slice a n cap))).cell 0 (.int .i64 4) rfl
  have d1 := (Box.new w (hdC ⟨4, vk, vn, vs, vb, vc, row, col, fr, fc, row2, col2, fr2, fc2, txt⟩ (.slice a n cap))).cell 1 (.int .i64 vk) rfl
  have d2 := (Box.new w (hdC ⟨4, vk, vn, vs, vb, vc, row, col, fr, fc, row2, col2, fr2, fc2, txt⟩ (.slice a n cap))).cell 2 (.int .i64 vn) rfl
  have d3 := (Box.new w (hdC ⟨4, vk, vn, vs, vb, vc, row, col, fr, fc, row2, col2, fr2, fc2, txt⟩ (.slice a n cap))).cell 3 (.string ⟨vs.toArray⟩) rfl
  have d4 := (Box.new w (hdC ⟨4, vk, vn, vs, vb, vc, row, col, fr, fc, row2, col2, fr2, fc2, txt⟩ (.slice a n cap))).cell 4 (.bool vb) rfl
  have d5 := (Box.new w (hdC ⟨4, vk, vn, vs, vb, vc, row, col, fr, fc, row2, col2, fr2, fc2, txt⟩ (.slice a n cap))).cell 5 (.int .i64 vc) rfl
  have d6 := (Box.new w (hdC ⟨4, vk, vn, vs, vb, vc, row, col, fr, fc, row2, col2, fr2, fc2, txt⟩ (.slice a n cap))).cell 6 (.int .i64 row) rfl
  have d7 := (Box.new w (hdC ⟨4, vk, vn, vs, vb, vc, row, col, fr, fc, row2, col2, fr2, fc2, txt⟩ (.slice a n cap))).cell 7 (.int .i64 col) rfl
  have d8 := (Box.new w (hdC ⟨4, vk, vn, vs, vb, vc, row, col, fr, fc, row2, col2, fr2, fc2, txt⟩ (.slice a n cap))).cell 8 (.bool fr) rfl
  have d9 := (Box.new w (hdC ⟨4, vk, vn, vs, vb, vc, row, col, fr, fc, row2, col2, fr2, fc2, txt⟩ (.slice a n cap))).cell 9 (.bool fc) rfl
  have d10 := (Box.new w (hdC ⟨4, vk, vn, vs, vb, vc, row, col, fr, fc, row2, col2, fr2, fc2, txt⟩ (.slice a n cap))).cell 10 (.int .i64 row2) rfl
  have d11 := (Box.new w (hdC ⟨4, vk, vn, vs, vb, vc, row, col, fr, fc, row2, col2, fr2, fc2, txt⟩ (.slice a n cap))).cell 11 (.int .i64 col2) rfl
  have d12 := (Box.new w (hdC ⟨4, vk, vn, vs, vb, vc, row, col, fr, fc, row2, col2, fr2, fc2, txt⟩ (.slice a n cap))).cell 12 (.bool fr2) rfl
  have d13 := (Box.new w (hdC ⟨4, vk, vn, vs, vb, vc, row, col, fr, fc, row2, col2, fr2, fc2, txt⟩ (.slice a n cap))).cell 13 (.bool fc2) rfl
  have d14 := (Box.new w (hdC ⟨4, vk, vn, vs, vb, vc, row, col, fr, fc, row2, col2, fr2, fc2, txt⟩ (.slice a n cap))).cell 14 (.string ⟨txt.toArray⟩) rfl
  have d15 := (Box.new w (hdC ⟨4, vk, vn, vs, vb, vc, row, col, fr, fc, row2, col2, fr2, fc2, txt⟩ (.slice a n cap))).cell 15 (.slice a n cap) rfl
  have fz := (Box.new w (hdC ⟨4, vk, vn, vs, vb, vc, row, col, fr, fc, row2, col2, fr2, fc2, txt⟩ (.slice a n cap))).froz
  have HX0 := hide (Box.new w (hdC ⟨4, vk, vn, vs, vb, vc, row, col, fr, fc, row2, col2, fr2, fc2, txt⟩ (.slice a n cap)))
  go_enter Tryz.func65, Tryz.ntmps65
  go_wp2_with (first | (with_reducible refine wpl_id ?_; refine wpl_loadG rfl _ rfl _ rfl (Hid.out (by assumption)) ?_))
  go_ret
  refine ⟨rfl, ?_⟩
  repeat' (first | with_reducible exact Below.refl _ _ | with_reducible refine Below.setCell ?_ ?_ _ | with_reducible refine Below.alloc ?_ ?_ _ | with_reducible refine below_drewN ?_ _ | with_reducible refine Below.drew ?_ | with_reducible refine Below.trans ?_ (Below.mono (by assumption) ?_) | with_reducible exact Nat.le_refl _ | with_reducible refine Nat.le_trans ?_ (Below.size (by assumption)) | with_reducible refine Nat.le_trans ?_ (size_alloc _ _) | with_reducible refine Nat.le_trans ?_ (size_set _ _ _) | with_reducible refine Nat.le_trans ?_ (size_drewN _ _) | with_reducible refine Nat.le_trans ?_ (size_drew _) | (simp; done) | (simp; omega) | omega)
set_option maxRecDepth 100000 in
set_option maxHeartbeats 2000000 in
theorem alone_call_false (vk : Int) (vn : Int) (vs : List UInt8) (vb : Bool) (vc : Int) (row : Int) (col : Int) (fr : Bool) (fc : Bool) (row2 : Int) (col2 : Int) (fr2 : Bool) (fc2 : Bool) (txt : List UInt8) (a : Option Addr) (n cap : Nat) (w : World) (hs : txt.length ≤ maxLen) (q : nameOk txt = false) :
    Calls Tryz.prog 65 #[.agg (hdC ⟨6, vk, vn, vs, vb, vc, row, col, fr, fc, row2, col2, fr2, fc2, txt⟩ (.slice a n cap)).toArray] w fun e w' => e = .returned (.bool (false)) ∧ Below w.heap.size w w' := by
  have HC1 : Hid (∀ W : World, Calls Tryz.prog 83 #[.string ⟨txt.toArray⟩] W fun e w' => e = .returned (.bool false) ∧ Below W.heap.size W w') := fun W => by
    have := isName_any ⟨txt.toArray⟩ W (by show txt.toArray.size ≤ _; simpa using hs)
    simp only [q] at this
    exact this
  clear q hs
  have d0 := (Box.new w (hdC ⟨6, vk, vn, vs, vb, vc, row, col, fr, fc, row2, col2, fr2, fc2, txt⟩ (.slice a n cap))).cell 0 (.int .i64 6) rfl
  have d1 := (Box.new w (hdC ⟨6, vk, vn, vs, vb, vc, row, col, fr, fc, row2, col2, fr2, fc2, txt⟩ (.slice a n cap))).cell 1 (.int .i64 vk) rfl
  have d2 := (Box.new w (hdC ⟨6, vk, vn, vs, vb, vc, row, col, fr, fc, row2, col2, fr2, fc2, txt⟩ (.slice a n cap))).cell 2 (.int .i64 vn) rfl
  have d3 := (Box.new w (hdC ⟨6, vk, vn, vs, vb, vc, row, col, fr, fc, row2, col2, fr2, fc2, txt⟩ (.slice a n cap))).cell 3 (.string ⟨vs.toArray⟩) rfl
  have d4 := (Box.new w (hdC ⟨6, vk, vn, vs, vb, vc, row, col, fr, fc, row2, col2, fr2, fc2, txt⟩ (.slice a n cap))).cell 4 (.bool vb) rfl
  have d5 := (Box.new w (hdC ⟨6, vk, vn, vs, vb, vc, row, col, fr, fc, row2, col2, fr2, fc2, txt⟩ (.slice a n cap))).cell 5 (.int .i64 vc) rfl
  have d6 := (Box.new w (hdC ⟨6, vk, vn, vs, vb, vc, row, col, fr, fc, row2, col2, fr2, fc2, txt⟩ (.slice a n cap))).cell 6 (.int .i64 row) rfl
  have d7 := (Box.new w (hdC ⟨6, vk, vn, vs, vb, vc, row, col, fr, fc, row2, col2, fr2, fc2, txt⟩ (.slice a n cap))).cell 7 (.int .i64 col) rfl
  have d8 := (Box.new w (hdC ⟨6, vk, vn, vs, vb, vc, row, col, fr, fc, row2, col2, fr2, fc2, txt⟩ (.slice a n cap))).cell 8 (.bool fr) rfl
  have d9 := (Box.new w (hdC ⟨6, vk, vn, vs, vb, vc, row, col, fr, fc, row2, col2, fr2, fc2, txt⟩ (.slice a n cap))).cell 9 (.bool fc) rfl
  have d10 := (Box.new w (hdC ⟨6, vk, vn, vs, vb, vc, row, col, fr, fc, row2, col2, fr2, fc2, txt⟩ (.slice a n cap))).cell 10 (.int .i64 row2) rfl
  have d11 := (Box.new w (hdC ⟨6, vk, vn, vs, vb, vc, row, col, fr, fc, row2, col2, fr2, fc2, txt⟩ (.slice a n cap))).cell 11 (.int .i64 col2) rfl
  have d12 := (Box.new w (hdC ⟨6, vk, vn, vs, vb, vc, row, col, fr, fc, row2, col2, fr2, fc2, txt⟩ (.slice a n cap))).cell 12 (.bool fr2) rfl
  have d13 := (Box.new w (hdC ⟨6, vk, vn, vs, vb, vc, row, col, fr, fc, row2, col2, fr2, fc2, txt⟩ (.slice a n cap))).cell 13 (.bool fc2) rfl
  have d14 := (Box.new w (hdC ⟨6, vk, vn, vs, vb, vc, row, col, fr, fc, row2, col2, fr2, fc2, txt⟩ (.slice a n cap))).cell 14 (.string ⟨txt.toArray⟩) rfl
  have d15 := (Box.new w (hdC ⟨6, vk, vn, vs, vb, vc, row, col, fr, fc, row2, col2, fr2, fc2, txt⟩ (.slice a n cap))).cell 15 (.slice a n cap) rfl
  have fz := (Box.new w (hdC ⟨6, vk, vn, vs, vb, vc, row, col, fr, fc, row2, col2, fr2, fc2, txt⟩ (.slice a n cap))).froz
  have HX0 := hide (Box.new w (hdC ⟨6, vk, vn, vs, vb, vc, row, col, fr, fc, row2, col2, fr2, fc2, txt⟩ (.slice a n cap)))
  go_enter Tryz.func65, Tryz.ntmps65
  go_wp2_with (first | (with_reducible refine wpl_id ?_; refine wpl_loadG rfl _ rfl _ rfl (Hid.out (by assumption)) ?_) | (go_at_call 83; refine (HC1.out _).mono ?_; rintro e w1 ⟨rfl, hb1⟩; obtain ⟨c1, f1⟩ := bcell hb1; have HB1 := hide hb1; have s1 : w.heap.size < w1.heap.size := (by have := hb1.size; first | omega | (simp at this; omega)); clear hb1))
  go_ret
  refine ⟨rfl, ?_⟩
  have b1 := HB1.out
  repeat' (first | with_reducible exact Below.refl _ _ | with_reducible refine Below.setCell ?_ ?_ _ | with_reducible refine Below.alloc ?_ ?_ _ | with_reducible refine below_drewN ?_ _ | with_reducible refine Below.drew ?_ | with_reducible refine Below.trans ?_ (Below.mono (by assumption) ?_) | with_reducible exact Nat.le_refl _ | with_reducible refine Nat.le_trans ?_ (Below.size (by assumption)) | with_reducible refine Nat.le_trans ?_ (size_alloc _ _) | with_reducible refine Nat.le_trans ?_ (size_set _ _ _) | with_reducible refine Nat.le_trans ?_ (size_drewN _ _) | with_reducible refine Nat.le_trans ?_ (size_drew _) | (simp; done) | (simp; omega) | omega)
set_option maxRecDepth 100000 in
set_option maxHeartbeats 2000000 in
theorem alone_range_true (vk : Int) (vn : Int) (vs : List UInt8) (vb : Bool) (vc : Int) (row : Int) (col : Int) (fr : Bool) (fc : Bool) (row2 : Int) (col2 : Int) (fr2 : Bool) (fc2 : Bool) (txt : List UInt8) (a : Option Addr) (n cap : Nat) (w : World) (q : Pla.placeB row col = true) (q2 : Pla.placeB row2 col2 = true) :
    Calls Tryz.prog 65 #[.agg (hdC ⟨3, vk, vn, vs, vb, vc, row, col, fr, fc, row2, col2, fr2, fc2, txt⟩ (.slice a n cap)).toArray] w fun e w' => e = .returned (.bool (emptyB ⟨3, vk, vn, vs, vb, vc, 0, 0, false, false, 0, 0, false, false, txt⟩ n)) ∧ Below w.heap.size w w' := by
  have HC1 : Hid (∀ W : World, Calls Tryz.prog 81 #[.agg #[.int .i64 row, .int .i64 col, .bool fr, .bool fc]] W fun e w' => e = .returned (.bool true) ∧ Below W.heap.size W w') := fun W => by
    have := isCell_any row col fr fc W
    rw [q] at this
    exact this
  have HC2 : Hid (∀ W : World, Calls Tryz.prog 81 #[.agg #[.int .i64 row2, .int .i64 col2, .bool fr2, .bool fc2]] W fun e w' => e = .returned (.bool true) ∧ Below W.heap.size W w') := fun W => by
    have := isCell_any row2 col2 fr2 fc2 W
    rw [q2] at this
    exact this
  clear q q2
  have d0 := (Box.new w (hdC ⟨3, vk, vn, vs, vb, vc, row, col, fr, fc, row2, col2, fr2, fc2, txt⟩ (.slice a n cap))).cell 0 (.int .i64 3) rfl
  have d1 := (Box.new w (hdC ⟨3, vk, vn, vs, vb, vc, row, col, fr, fc, row2, col2, fr2, fc2, txt⟩ (.slice a n cap))).cell 1 (.int .i64 vk) rfl
  have d2 := (Box.new w (hdC ⟨3, vk, vn, vs, vb, vc, row, col, fr, fc, row2, col2, fr2, fc2, txt⟩ (.slice a n cap))).cell 2 (.int .i64 vn) rfl
  have d3 := (Box.new w (hdC ⟨3, vk, vn, vs, vb, vc, row, col, fr, fc, row2, col2, fr2, fc2, txt⟩ (.slice a n cap))).cell 3 (.string ⟨vs.toArray⟩) rfl
  have d4 := (Box.new w (hdC ⟨3, vk, vn, vs, vb, vc, row, col, fr, fc, row2, col2, fr2, fc2, txt⟩ (.slice a n cap))).cell 4 (.bool vb) rfl
  have d5 := (Box.new w (hdC ⟨3, vk, vn, vs, vb, vc, row, col, fr, fc, row2, col2, fr2, fc2, txt⟩ (.slice a n cap))).cell 5 (.int .i64 vc) rfl
  have d6 := (Box.new w (hdC ⟨3, vk, vn, vs, vb, vc, row, col, fr, fc, row2, col2, fr2, fc2, txt⟩ (.slice a n cap))).cell 6 (.int .i64 row) rfl
  have d7 := (Box.new w (hdC ⟨3, vk, vn, vs, vb, vc, row, col, fr, fc, row2, col2, fr2, fc2, txt⟩ (.slice a n cap))).cell 7 (.int .i64 col) rfl
  have d8 := (Box.new w (hdC ⟨3, vk, vn, vs, vb, vc, row, col, fr, fc, row2, col2, fr2, fc2, txt⟩ (.slice a n cap))).cell 8 (.bool fr) rfl
  have d9 := (Box.new w (hdC ⟨3, vk, vn, vs, vb, vc, row, col, fr, fc, row2, col2, fr2, fc2, txt⟩ (.slice a n cap))).cell 9 (.bool fc) rfl
  have d10 := (Box.new w (hdC ⟨3, vk, vn, vs, vb, vc, row, col, fr, fc, row2, col2, fr2, fc2, txt⟩ (.slice a n cap))).cell 10 (.int .i64 row2) rfl
  have d11 := (Box.new w (hdC ⟨3, vk, vn, vs, vb, vc, row, col, fr, fc, row2, col2, fr2, fc2, txt⟩ (.slice a n cap))).cell 11 (.int .i64 col2) rfl
  have d12 := (Box.new w (hdC ⟨3, vk, vn, vs, vb, vc, row, col, fr, fc, row2, col2, fr2, fc2, txt⟩ (.slice a n cap))).cell 12 (.bool fr2) rfl
  have d13 := (Box.new w (hdC ⟨3, vk, vn, vs, vb, vc, row, col, fr, fc, row2, col2, fr2, fc2, txt⟩ (.slice a n cap))).cell 13 (.bool fc2) rfl
  have d14 := (Box.new w (hdC ⟨3, vk, vn, vs, vb, vc, row, col, fr, fc, row2, col2, fr2, fc2, txt⟩ (.slice a n cap))).cell 14 (.string ⟨txt.toArray⟩) rfl
  have d15 := (Box.new w (hdC ⟨3, vk, vn, vs, vb, vc, row, col, fr, fc, row2, col2, fr2, fc2, txt⟩ (.slice a n cap))).cell 15 (.slice a n cap) rfl
  have fz := (Box.new w (hdC ⟨3, vk, vn, vs, vb, vc, row, col, fr, fc, row2, col2, fr2, fc2, txt⟩ (.slice a n cap))).froz
  have HX0 := hide (Box.new w (hdC ⟨3, vk, vn, vs, vb, vc, row, col, fr, fc, row2, col2, fr2, fc2, txt⟩ (.slice a n cap)))
  have HE : Hid (∀ W : World, Calls Tryz.prog 84 #[.agg (hdC ⟨3, vk, vn, vs, vb, vc, 0, 0, false, false, 0, 0, false, false, txt⟩ (.slice a n cap)).toArray] W fun e w' => e = .returned (.bool (emptyB ⟨3, vk, vn, vs, vb, vc, 0, 0, false, false, 0, 0, false, false, txt⟩ n)) ∧ Below W.heap.size W w') := fun W => isEmpty_any _ _ _ _ W
  go_enter Tryz.func65, Tryz.ntmps65
  go_wp2_with (first | (with_reducible refine wpl_id ?_; refine wpl_loadG rfl _ rfl _ rfl (Hid.out (by assumption)) ?_) | (go_at_call_of 81 [Value.agg #[Value.int IntKind.i64 row, Value.int IntKind.i64 col, Value.bool fr, Value.bool fc]]; refine (HC1.out _).mono ?_; rintro e w1 ⟨rfl, hb1⟩; obtain ⟨c1, f1⟩ := bcell hb1; have HB1 := hide hb1; have s1 : w.heap.size < w1.heap.size := (by have := hb1.size; first | omega | (simp at this; omega)); clear hb1) | (go_at_call_of 81 [Value.agg #[Value.int IntKind.i64 row2, Value.int IntKind.i64 col2, Value.bool fr2, Value.bool fc2]]; refine (HC2.out _).mono ?_; rintro e w2 ⟨rfl, hb2⟩; obtain ⟨c2, f2⟩ := bcell hb2; have HB2 := hide hb2; have s2 : w.heap.size < w2.heap.size := (by have := hb2.size; first | omega | (simp at this; omega)); have HXZ : Hid (Box (((((((((w2).setCell ⟨w.heap.size, 6, none⟩ (.int .i64 0)).setCell ⟨w.heap.size, 7, none⟩ (.int .i64 0)).setCell ⟨w.heap.size, 8, none⟩ (.bool false)).setCell ⟨w.heap.size, 9, none⟩ (.bool false)).setCell ⟨w.heap.size, 10, none⟩ (.int .i64 0)).setCell ⟨w.heap.size, 11, none⟩ (.int .i64 0)).setCell ⟨w.heap.size, 12, none⟩ (.bool false)).setCell ⟨w.heap.size, 13, none⟩ (.bool false)) w.heap.size (hdC ⟨3, vk, vn, vs, vb, vc, 0, 0, false, false, 0, 0, false, false, txt⟩ (.slice a n cap))) := ((((((((((HX0.out.below HB1.out).below hb2).at 6 (.int .i64 0)).at 7 (.int .i64 0)).at 8 (.bool false)).at 9 (.bool false)).at 10 (.int .i64 0)).at 11 (.int .i64 0)).at 12 (.bool false)).at 13 (.bool false)); clear hb2) | (go_at_call 84; refine (HE.out _).mono ?_; rintro e w9 ⟨rfl, hb9⟩; have HB9 := hide hb9; clear hb9))
  go_ret
  refine ⟨rfl, ?_⟩
  have b1 := HB1.out
  have b2 := HB2.out
  have b9 := HB9.out
  repeat' (first | with_reducible exact Below.refl _ _ | with_reducible refine Below.setCell ?_ ?_ _ | with_reducible refine Below.alloc ?_ ?_ _ | with_reducible refine below_drewN ?_ _ | with_reducible refine Below.drew ?_ | with_reducible refine Below.trans ?_ (Below.mono (by assumption) ?_) | with_reducible exact Nat.le_refl _ | with_reducible refine Nat.le_trans ?_ (Below.size (by assumption)) | with_reducible refine Nat.le_trans ?_ (size_alloc _ _) | with_reducible refine Nat.le_trans ?_ (size_set _ _ _) | with_reducible refine Nat.le_trans ?_ (size_drewN _ _) | with_reducible refine Nat.le_trans ?_ (size_drew _) | (simp; done) | (simp; omega) | omega)
set_option maxRecDepth 100000 in
set_option maxHeartbeats 2000000 in
theorem alone_range_no1 (vk : Int) (vn : Int) (vs : List UInt8) (vb : Bool) (vc : Int) (row : Int) (col : Int) (fr : Bool) (fc : Bool) (row2 : Int) (col2 : Int) (fr2 : Bool) (fc2 : Bool) (txt : List UInt8) (a : Option Addr) (n cap : Nat) (w : World) (q : Pla.placeB row col = false) :
    Calls Tryz.prog 65 #[.agg (hdC ⟨3, vk, vn, vs, vb, vc, row, col, fr, fc, row2, col2, fr2, fc2, txt⟩ (.slice a n cap)).toArray] w fun e w' => e = .returned (.bool (false)) ∧ Below w.heap.size w w' := by
  have HC1 : Hid (∀ W : World, Calls Tryz.prog 81 #[.agg #[.int .i64 row, .int .i64 col, .bool fr, .bool fc]] W fun e w' => e = .returned (.bool false) ∧ Below W.heap.size W w') := fun W => by
    have := isCell_any row col fr fc W
    rw [q] at this
    exact this
  clear q
  have d0 := (Box.new w (hdC ⟨3, vk, vn, vs, vb, vc, row, col, fr, fc, row2, col2, fr2, fc2, txt⟩ (.slice a n cap))).cell 0 (.int .i64 3) rfl
  have d1 := (Box.new w (hdC ⟨3, vk, vn, vs, vb, vc, row, col, fr, fc, row2, col2, fr2, fc2, txt⟩ (.slice a n cap))).cell 1 (.int .i64 vk) rfl
  have d2 := (Box.new w (hdC ⟨3, vk, vn, vs, vb, vc, row, col, fr, fc, row2, col2, fr2, fc2, txt⟩ (.slice a n cap))).cell 2 (.int .i64 vn) rfl
  have d3 := (Box.new w (hdC ⟨3, vk, vn, vs, vb, vc, row, col, fr, fc, row2, col2, fr2, fc2, txt⟩ (.slice a n cap))).cell 3 (.string ⟨vs.toArray⟩) rfl
  have d4 := (Box.new w (hdC ⟨3, vk, vn, vs, vb, vc, row, col, fr, fc, row2, col2, fr2, fc2, txt⟩ (.slice a n cap))).cell 4 (.bool vb) rfl
  have d5 := (Box.new w (hdC ⟨3, vk, vn, vs, vb, vc, row, col, fr, fc, row2, col2, fr2, fc2, txt⟩ (.slice a n cap))).cell 5 (.int .i64 vc) rfl
  have d6 := (Box.new w (hdC ⟨3, vk, vn, vs, vb, vc, row, col, fr, fc, row2, col2, fr2, fc2, txt⟩ (.slice a n cap))).cell 6 (.int .i64 row) rfl
  have d7 := (Box.new w (hdC ⟨3, vk, vn, vs, vb, vc, row, col, fr, fc, row2, col2, fr2, fc2, txt⟩ (.slice a n cap))).cell 7 (.int .i64 col) rfl
  have d8 := (Box.new w (hdC ⟨3, vk, vn, vs, vb, vc, row, col, fr, fc, row2, col2, fr2, fc2, txt⟩ (.slice a n cap))).cell 8 (.bool fr) rfl
  have d9 := (Box.new w (hdC ⟨3, vk, vn, vs, vb, vc, row, col, fr, fc, row2, col2, fr2, fc2, txt⟩ (.slice a n cap))).cell 9 (.bool fc) rfl
  have d10 := (Box.new w (hdC ⟨3, vk, vn, vs, vb, vc, row, col, fr, fc, row2, col2, fr2, fc2, txt⟩ (.slice a n cap))).cell 10 (.int .i64 row2) rfl
  have d11 := (Box.new w (hdC ⟨3, vk, vn, vs, vb, vc, row, col, fr, fc, row2, col2, fr2, fc2, txt⟩ (.slice a n cap))).cell 11 (.int .i64 col2) rfl
  have d12 := (Box.new w (hdC ⟨3, vk, vn, vs, vb, vc, row, col, fr, fc, row2, col2, fr2, fc2, txt⟩ (.slice a n cap))).cell 12 (.bool fr2) rfl
  have d13 := (Box.new w (hdC ⟨3, vk, vn, vs, vb, vc, row, col, fr, fc, row2, col2, fr2, fc2, txt⟩ (.slice a n cap))).cell 13 (.bool fc2) rfl
  have d14 := (Box.new w (hdC ⟨3, vk, vn, vs, vb, vc, row, col, fr, fc, row2, col2, fr2, fc2, txt⟩ (.slice a n cap))).cell 14 (.string ⟨txt.toArray⟩) rfl
  have d15 := (Box.new w (hdC ⟨3, vk, vn, vs, vb, vc, row, col, fr, fc, row2, col2, fr2, fc2, txt⟩ (.slice a n cap))).cell 15 (.slice a n cap) rfl
  have fz := (Box.new w (hdC ⟨3, vk, vn, vs, vb, vc, row, col, fr, fc, row2, col2, fr2, fc2, txt⟩ (.slice a n cap))).froz
  have HX0 := hide (Box.new w (hdC ⟨3, vk, vn, vs, vb, vc, row, col, fr, fc, row2, col2, fr2, fc2, txt⟩ (.slice a n cap)))
  go_enter Tryz.func65, Tryz.ntmps65
  go_wp2_with (first | (with_reducible refine wpl_id ?_; refine wpl_loadG rfl _ rfl _ rfl (Hid.out (by assumption)) ?_) | (go_at_call 81; refine (HC1.out _).mono ?_; rintro e w1 ⟨rfl, hb1⟩; obtain ⟨c1, f1⟩ := bcell hb1; have HB1 := hide hb1; have s1 : w.heap.size < w1.heap.size := (by have := hb1.size; first | omega | (simp at this; omega)); clear hb1))
  go_ret
  refine ⟨rfl, ?_⟩
  have b1 := HB1.out
  repeat' (first | with_reducible exact Below.refl _ _ | with_reducible refine Below.setCell ?_ ?_ _ | with_reducible refine Below.alloc ?_ ?_ _ | with_reducible refine below_drewN ?_ _ | with_reducible refine Below.drew ?_ | with_reducible refine Below.trans ?_ (Below.mono (by assumption) ?_) | with_reducible exact Nat.le_refl _ | with_reducible refine Nat.le_trans ?_ (Below.size (by assumption)) | with_reducible refine Nat.le_trans ?_ (size_alloc _ _) | with_reducible refine Nat.le_trans ?_ (size_set _ _ _) | with_reducible refine Nat.le_trans ?_ (size_drewN _ _) | with_reducible refine Nat.le_trans ?_ (size_drew _) | (simp; done) | (simp; omega) | omega)
set_option maxRecDepth 100000 in
set_option maxHeartbeats 2000000 in
theorem alone_range_no2 (vk : Int) (vn : Int) (vs : List UInt8) (vb : Bool) (vc : Int) (row : Int) (col : Int) (fr : Bool) (fc : Bool) (row2 : Int) (col2 : Int) (fr2 : Bool) (fc2 : Bool) (txt : List UInt8) (a : Option Addr) (n cap : Nat) (w : World) (q : Pla.placeB row col = true) (q2 : Pla.placeB row2 col2 = false) :
    Calls Tryz.prog 65 #[.agg (hdC ⟨3, vk, vn, vs, vb, vc, row, col, fr, fc, row2, col2, fr2, fc2, txt⟩ (.slice a n cap)).toArray] w fun e w' => e = .returned (.bool (false)) ∧ Below w.heap.size w w' := by
  have HC1 : Hid (∀ W : World, Calls Tryz.prog 81 #[.agg #[.int .i64 row, .int .i64 col, .bool fr, .bool fc]] W fun e w' => e = .returned (.bool true) ∧ Below W.heap.size W w') := fun W => by
    have := isCell_any row col fr fc W
    rw [q] at this
    exact this
  have HC2 : Hid (∀ W : World, Calls Tryz.prog 81 #[.agg #[.int .i64 row2, .int .i64 col2, .bool fr2, .bool fc2]] W fun e w' => e = .returned (.bool false) ∧ Below W.heap.size W w') := fun W => by
    have := isCell_any row2 col2 fr2 fc2 W
    rw [q2] at this
    exact this
  clear q q2
  have d0 := (Box.new w (hdC ⟨3, vk, vn, vs, vb, vc, row, col, fr, fc, row2, col2, fr2, fc2, txt⟩ (.slice a n cap))).cell 0 (.int .i64 3) rfl
  have d1 := (Box.new w (hdC ⟨3, vk, vn, vs, vb, vc, row, col, fr, fc, row2, col2, fr2, fc2, txt⟩ (.slice a n cap))).cell 1 (.int .i64 vk) rfl
  have d2 := (Box.new w (hdC ⟨3, vk, vn, vs, vb, vc, row, col, fr, fc, row2, col2, fr2, fc2, txt⟩ (.slice a n cap))).cell 2 (.int .i64 vn) rfl
  have d3 := (Box.new w (hdC ⟨3, vk, vn, vs, vb, vc, row, col, fr, fc, row2, col2, fr2, fc2, txt⟩ (.slice a n cap))).cell 3 (.string ⟨vs.toArray⟩) rfl
  have d4 := (Box.new w (hdC ⟨3, vk, vn, vs, vb, vc, row, col, fr, fc, row2, col2, fr2, fc2, txt⟩ (.slice a n cap))).cell 4 (.bool vb) rfl
  have d5 := (Box.new w (hdC ⟨3, vk, vn, vs, vb, vc, row, col, fr, fc, row2, col2, fr2, fc2, txt⟩ (.slice a n cap))).cell 5 (.int .i64 vc) rfl
  have d6 := (Box.new w (hdC ⟨3, vk, vn, vs, vb, vc, row, col, fr, fc, row2, col2, fr2, fc2, txt⟩ (.slice a n cap))).cell 6 (.int .i64 row) rfl
  have d7 := (Box.new w (hdC ⟨3, vk, vn, vs, vb, vc, row, col, fr, fc, row2, col2, fr2, fc2, txt⟩ (.slice a n cap))).cell 7 (.int .i64 col) rfl
  have d8 := (Box.new w (hdC ⟨3, vk, vn, vs, vb, vc, row, col, fr, fc, row2, col2, fr2, fc2, txt⟩ (.slice a n cap))).cell 8 (.bool fr) rfl
  have d9 := (Box.new w (hdC ⟨3, vk, vn, vs, vb, vc, row, col, fr, fc, row2, col2, fr2, fc2, txt⟩ (.slice a n cap))).cell 9 (.bool fc) rfl
  have d10 := (Box.new w (hdC ⟨3, vk, vn, vs, vb, vc, row, col, fr, fc, row2, col2, fr2, fc2, txt⟩ (.slice a n cap))).cell 10 (.int .i64 row2) rfl
  have d11 := (Box.new w (hdC ⟨3, vk, vn, vs, vb, vc, row, col, fr, fc, row2, col2, fr2, fc2, txt⟩ (.slice a n cap))).cell 11 (.int .i64 col2) rfl
  have d12 := (Box.new w (hdC ⟨3, vk, vn, vs, vb, vc, row, col, fr, fc, row2, col2, fr2, fc2, txt⟩ (.slice a n cap))).cell 12 (.bool fr2) rfl
  have d13 := (Box.new w (hdC ⟨3, vk, vn, vs, vb, vc, row, col, fr, fc, row2, col2, fr2, fc2, txt⟩ (.slice a n cap))).cell 13 (.bool fc2) rfl
  have d14 := (Box.new w (hdC ⟨3, vk, vn, vs, vb, vc, row, col, fr, fc, row2, col2, fr2, fc2, txt⟩ (.slice a n cap))).cell 14 (.string ⟨txt.toArray⟩) rfl
  have d15 := (Box.new w (hdC ⟨3, vk, vn, vs, vb, vc, row, col, fr, fc, row2, col2, fr2, fc2, txt⟩ (.slice a n cap))).cell 15 (.slice a n cap) rfl
  have fz := (Box.new w (hdC ⟨3, vk, vn, vs, vb, vc, row, col, fr, fc, row2, col2, fr2, fc2, txt⟩ (.slice a n cap))).froz
  have HX0 := hide (Box.new w (hdC ⟨3, vk, vn, vs, vb, vc, row, col, fr, fc, row2, col2, fr2, fc2, txt⟩ (.slice a n cap)))
  go_enter Tryz.func65, Tryz.ntmps65
  go_wp2_with (first | (with_reducible refine wpl_id ?_; refine wpl_loadG rfl _ rfl _ rfl (Hid.out (by assumption)) ?_) | (go_at_call_of 81 [Value.agg #[Value.int IntKind.i64 row, Value.int IntKind.i64 col, Value.bool fr, Value.bool fc]]; refine (HC1.out _).mono ?_; rintro e w1 ⟨rfl, hb1⟩; obtain ⟨c1, f1⟩ := bcell hb1; have HB1 := hide hb1; have s1 : w.heap.size < w1.heap.size := (by have := hb1.size; first | omega | (simp at this; omega)); clear hb1) | (go_at_call_of 81 [Value.agg #[Value.int IntKind.i64 row2, Value.int IntKind.i64 col2, Value.bool fr2, Value.bool fc2]]; refine (HC2.out _).mono ?_; rintro e w2 ⟨rfl, hb2⟩; obtain ⟨c2, f2⟩ := bcell hb2; have HB2 := hide hb2; have s2 : w.heap.size < w2.heap.size := (by have := hb2.size; first | omega | (simp at this; omega)); clear hb2))
  go_ret
  refine ⟨rfl, ?_⟩
  have b1 := HB1.out
  have b2 := HB2.out
  repeat' (first | with_reducible exact Below.refl _ _ | with_reducible refine Below.setCell ?_ ?_ _ | with_reducible refine Below.alloc ?_ ?_ _ | with_reducible refine below_drewN ?_ _ | with_reducible refine Below.drew ?_ | with_reducible refine Below.trans ?_ (Below.mono (by assumption) ?_) | with_reducible exact Nat.le_refl _ | with_reducible refine Nat.le_trans ?_ (Below.size (by assumption)) | with_reducible refine Nat.le_trans ?_ (size_alloc _ _) | with_reducible refine Nat.le_trans ?_ (size_set _ _ _) | with_reducible refine Nat.le_trans ?_ (size_drewN _ _) | with_reducible refine Nat.le_trans ?_ (size_drew _) | (simp; done) | (simp; omega) | omega)
set_option maxRecDepth 100000 in
set_option maxHeartbeats 2000000 in
theorem alone_bin_no1 (vk : Int) (vn : Int) (vs : List UInt8) (vb : Bool) (vc : Int) (row : Int) (col : Int) (fr : Bool) (fc : Bool) (row2 : Int) (col2 : Int) (fr2 : Bool) (fc2 : Bool) (txt : List UInt8) (a : Option Addr) (n cap : Nat) (w : World) (q : bindN txt = 0) :
    Calls Tryz.prog 65 #[.agg (hdC ⟨5, vk, vn, vs, vb, vc, row, col, fr, fc, row2, col2, fr2, fc2, txt⟩ (.slice a n cap)).toArray] w fun e w' => e = .returned (.bool (false)) ∧ Below w.heap.size w w' := by
  have HC1 : Hid (∀ W : World, Calls Tryz.prog 82 #[.string ⟨txt.toArray⟩] W fun e w' => e = .returned (.int .i64 (bindN txt : Int)) ∧ w' = W) := fun W => by
    have := binding_any ⟨txt.toArray⟩ W
    simpa using this
  rw [q] at HC1
  clear q
  have d0 := (Box.new w (hdC ⟨5, vk, vn, vs, vb, vc, row, col, fr, fc, row2, col2, fr2, fc2, txt⟩ (.slice a n cap))).cell 0 (.int .i64 5) rfl
  have d1 := (Box.new w (hdC ⟨5, vk, vn, vs, vb, vc, row, col, fr, fc, row2, col2, fr2, fc2, txt⟩ (.slice a n cap))).cell 1 (.int .i64 vk) rfl
  have d2 := (Box.new w (hdC ⟨5, vk, vn, vs, vb, vc, row, col, fr, fc, row2, col2, fr2, fc2, txt⟩ (.slice a n cap))).cell 2 (.int .i64 vn) rfl
  have d3 := (Box.new w (hdC ⟨5, vk, vn, vs, vb, vc, row, col, fr, fc, row2, col2, fr2, fc2, txt⟩ (.slice a n cap))).cell 3 (.string ⟨vs.toArray⟩) rfl
  have d4 := (Box.new w (hdC ⟨5, vk, vn, vs, vb, vc, row, col, fr, fc, row2, col2, fr2, fc2, txt⟩ (.slice a n cap))).cell 4 (.bool vb) rfl
  have d5 := (Box.new w (hdC ⟨5, vk, vn, vs, vb, vc, row, col, fr, fc, row2, col2, fr2, fc2, txt⟩ (.slice a n cap))).cell 5 (.int .i64 vc) rfl
  have d6 := (Box.new w (hdC ⟨5, vk, vn, vs, vb, vc, row, col, fr, fc, row2, col2, fr2, fc2, txt⟩ (.slice a n cap))).cell 6 (.int .i64 row) rfl
  have d7 := (Box.new w (hdC ⟨5, vk, vn, vs, vb, vc, row, col, fr, fc, row2, col2, fr2, fc2, txt⟩ (.slice a n cap))).cell 7 (.int .i64 col) rfl
  have d8 := (Box.new w (hdC ⟨5, vk, vn, vs, vb, vc, row, col, fr, fc, row2, col2, fr2, fc2, txt⟩ (.slice a n cap))).cell 8 (.bool fr) rfl
  have d9 := (Box.new w (hdC ⟨5, vk, vn, vs, vb, vc, row, col, fr, fc, row2, col2, fr2, fc2, txt⟩ (.slice a n cap))).cell 9 (.bool fc) rfl
  have d10 := (Box.new w (hdC ⟨5, vk, vn, vs, vb, vc, row, col, fr, fc, row2, col2, fr2, fc2, txt⟩ (.slice a n cap))).cell 10 (.int .i64 row2) rfl
  have d11 := (Box.new w (hdC ⟨5, vk, vn, vs, vb, vc, row, col, fr, fc, row2, col2, fr2, fc2, txt⟩ (.slice a n cap))).cell 11 (.int .i64 col2) rfl
  have d12 := (Box.new w (hdC ⟨5, vk, vn, vs, vb, vc, row, col, fr, fc, row2, col2, fr2, fc2, txt⟩ (.slice a n cap))).cell 12 (.bool fr2) rfl
  have d13 := (Box.new w (hdC ⟨5, vk, vn, vs, vb, vc, row, col, fr, fc, row2, col2, fr2, fc2, txt⟩ (.slice a n cap))).cell 13 (.bool fc2) rfl
  have d14 := (Box.new w (hdC ⟨5, vk, vn, vs, vb, vc, row, col, fr, fc, row2, col2, fr2, fc2, txt⟩ (.slice a n cap))).cell 14 (.string ⟨txt.toArray⟩) rfl
  have d15 := (Box.new w (hdC ⟨5, vk, vn, vs, vb, vc, row, col, fr, fc, row2, col2, fr2, fc2, txt⟩ (.slice a n cap))).cell 15 (.slice a n cap) rfl
  have fz := (Box.new w (hdC ⟨5, vk, vn, vs, vb, vc, row, col, fr, fc, row2, col2, fr2, fc2, txt⟩ (.slice a n cap))).froz
  have HX0 := hide (Box.new w (hdC ⟨5, vk, vn, vs, vb, vc, row, col, fr, fc, row2, col2, fr2, fc2, txt⟩ (.slice a n cap)))
  go_enter Tryz.func65, Tryz.ntmps65
  go_wp2_with (first | (with_reducible refine wpl_id ?_; refine wpl_loadG rfl _ rfl _ rfl (Hid.out (by assumption)) ?_) | (go_at_call 82; refine (HC1.out _).mono ?_; rintro e wz ⟨rfl, hz⟩; subst wz))
  go_ret
  refine ⟨rfl, ?_⟩
  repeat' (first | with_reducible exact Below.refl _ _ | with_reducible refine Below.setCell ?_ ?_ _ | with_reducible refine Below.alloc ?_ ?_ _ | with_reducible refine below_drewN ?_ _ | with_reducible refine Below.drew ?_ | with_reducible refine Below.trans ?_ (Below.mono (by assumption) ?_) | with_reducible exact Nat.le_refl _ | with_reducible refine Nat.le_trans ?_ (Below.size (by assumption)) | with_reducible refine Nat.le_trans ?_ (size_alloc _ _) | with_reducible refine Nat.le_trans ?_ (size_set _ _ _) | with_reducible refine Nat.le_trans ?_ (size_drewN _ _) | with_reducible refine Nat.le_trans ?_ (size_drew _) | (simp; done) | (simp; omega) | omega)
set_option maxRecDepth 100000 in
set_option maxHeartbeats 2000000 in
theorem alone_bin_no2 (vk : Int) (vn : Int) (vs : List UInt8) (vb : Bool) (vc : Int) (row : Int) (col : Int) (fr : Bool) (fc : Bool) (row2 : Int) (col2 : Int) (fr2 : Bool) (fc2 : Bool) (txt : List UInt8) (a : Option Addr) (n cap : Nat) (w : World) (q : 0 < bindN txt) (q2 : ((n : Int) == 2) = false) :
    Calls Tryz.prog 65 #[.agg (hdC ⟨5, vk, vn, vs, vb, vc, row, col, fr, fc, row2, col2, fr2, fc2, txt⟩ (.slice a n cap)).toArray] w fun e w' => e = .returned (.bool (false)) ∧ Below w.heap.size w w' := by
  have HC1 : Hid (∀ W : World, Calls Tryz.prog 82 #[.string ⟨txt.toArray⟩] W fun e w' => e = .returned (.int .i64 (bindN txt : Int)) ∧ w' = W) := fun W => by
    have := binding_any ⟨txt.toArray⟩ W
    simpa using this
  have q' : (0 : Int) < (bindN txt : Int) := by omega
  clear q
  generalize bindN txt = bn at *
  have d0 := (Box.new w (hdC ⟨5, vk, vn, vs, vb, vc, row, col, fr, fc, row2, col2, fr2, fc2, txt⟩ (.slice a n cap))).cell 0 (.int .i64 5) rfl
  have d1 := (Box.new w (hdC ⟨5, vk, vn, vs, vb, vc, row, col, fr, fc, row2, col2, fr2, fc2, txt⟩ (.slice a n cap))).cell 1 (.int .i64 vk) rfl
  have d2 := (Box.new w (hdC ⟨5, vk, vn, vs, vb, vc, row, col, fr, fc, row2, col2, fr2, fc2, txt⟩ (.slice a n cap))).cell 2 (.int .i64 vn) rfl
  have d3 := (Box.new w (hdC ⟨5, vk, vn, vs, vb, vc, row, col, fr, fc, row2, col2, fr2, fc2, txt⟩ (.slice a n cap))).cell 3 (.string ⟨vs.toArray⟩) rfl
  have d4 := (Box.new w (hdC ⟨5, vk, vn, vs, vb, vc, row, col, fr, fc, row2, col2, fr2, fc2, txt⟩ (.slice a n cap))).cell 4 (.bool vb) rfl
  have d5 := (Box.new w (hdC ⟨5, vk, vn, vs, vb, vc, row, col, fr, fc, row2, col2, fr2, fc2, txt⟩ (.slice a n cap))).cell 5 (.int .i64 vc) rfl
  have d6 := (Box.new w (hdC ⟨5, vk, vn, vs, vb, vc, row, col, fr, fc, row2, col2, fr2, fc2, txt⟩ (.slice a n cap))).cell 6 (.int .i64 row) rfl
  have d7 := (Box.new w (hdC ⟨5, vk, vn, vs, vb, vc, row, col, fr, fc, row2, col2, fr2, fc2, txt⟩ (.slice a n cap))).cell 7 (.int .i64 col) rfl
  have d8 := (Box.new w (hdC ⟨5, vk, vn, vs, vb, vc, row, col, fr, fc, row2, col2, fr2, fc2, txt⟩ (.slice a n cap))).cell 8 (.bool fr) rfl
  have d9 := (Box.new w (hdC ⟨5, vk, vn, vs, vb, vc, row, col, fr, fc, row2, col2, fr2, fc2, txt⟩ (.slice a n cap))).cell 9 (.bool fc) rfl
  have d10 := (Box.new w (hdC ⟨5, vk, vn, vs, vb, vc, row, col, fr, fc, row2, col2, fr2, fc2, txt⟩ (.slice a n cap))).cell 10 (.int .i64 row2) rfl
  have d11 := (Box.new w (hdC ⟨5, vk, vn, vs, vb, vc, row, col, fr, fc, row2, col2, fr2, fc2, txt⟩ (.slice a n cap))).cell 11 (.int .i64 col2) rfl
  have d12 := (Box.new w (hdC ⟨5, vk, vn, vs, vb, vc, row, col, fr, fc, row2, col2, fr2, fc2, txt⟩ (.slice a n cap))).cell 12 (.bool fr2) rfl
  have d13 := (Box.new w (hdC ⟨5, vk, vn, vs, vb, vc, row, col, fr, fc, row2, col2, fr2, fc2, txt⟩ (.slice a n cap))).cell 13 (.bool fc2) rfl
  have d14 := (Box.new w (hdC ⟨5, vk, vn, vs, vb, vc, row, col, fr, fc, row2, col2, fr2, fc2, txt⟩ (.slice a n cap))).cell 14 (.string ⟨txt.toArray⟩) rfl
  have d15 := (Box.new w (hdC ⟨5, vk, vn, vs, vb, vc, row, col, fr, fc, row2, col2, fr2, fc2, txt⟩ (.slice a n cap))).cell 15 (.slice a n cap) rfl
  have fz := (Box.new w (hdC ⟨5, vk, vn, vs, vb, vc, row, col, fr, fc, row2, col2, fr2, fc2, txt⟩ (.slice a n cap))).froz
  have HX0 := hide (Box.new w (hdC ⟨5, vk, vn, vs, vb, vc, row, col, fr, fc, row2, col2, fr2, fc2, txt⟩ (.slice a n cap)))
  go_enter Tryz.func65, Tryz.ntmps65
  go_wp2_with (first | (with_reducible refine wpl_id ?_; refine wpl_loadG rfl _ rfl _ rfl (Hid.out (by assumption)) ?_) | (go_at_call 82; refine (HC1.out _).mono ?_; rintro e wz ⟨rfl, hz⟩; subst wz))
  go_ret
  refine ⟨rfl, ?_⟩
  repeat' (first | with_reducible exact Below.refl _ _ | with_reducible refine Below.setCell ?_ ?_ _ | with_reducible refine Below.alloc ?_ ?_ _ | with_reducible refine below_drewN ?_ _ | with_reducible refine Below.drew ?_ | with_reducible refine Below.trans ?_ (Below.mono (by assumption) ?_) | with_reducible exact Nat.le_refl _ | with_reducible refine Nat.le_trans ?_ (Below.size (by assumption)) | with_reducible refine Nat.le_trans ?_ (size_alloc _ _) | with_reducible refine Nat.le_trans ?_ (size_set _ _ _) | with_reducible refine Nat.le_trans ?_ (size_drewN _ _) | with_reducible refine Nat.le_trans ?_ (size_drew _) | (simp; done) | (simp; omega) | omega)
set_option maxRecDepth 100000 in
set_option maxHeartbeats 2000000 in
theorem alone_none (vk : Int) (vn : Int) (vs : List UInt8) (vb : Bool) (vc : Int) (row : Int) (col : Int) (fr : Bool) (fc : Bool) (row2 : Int) (col2 : Int) (fr2 : Bool) (fc2 : Bool) (txt : List UInt8) (a : Option Addr) (n cap : Nat) (w : World) (kd : Int) (q1 : (kd == 1) = false) (q2 : (kd == 2) = false) (q3 : (kd == 3) = false) (q4 : (kd == 4) = false) (q5 : (kd == 5) = false) (q6 : (kd == 6) = false) :
    Calls Tryz.prog 65 #[.agg (hdC ⟨kd, vk, vn, vs, vb, vc, row, col, fr, fc, row2, col2, fr2, fc2, txt⟩ (.slice a n cap)).toArray] w fun e w' => e = .returned (.bool (false)) ∧ Below w.heap.size w w' := by
  have d0 := (Box.new w (hdC ⟨kd, vk, vn, vs, vb, vc, row, col, fr, fc, row2, col2, fr2, fc2, txt⟩ (.slice a n cap))).cell 0 (.int .i64 kd) rfl
  have d1 := (Box.new w (hdC ⟨kd, vk, vn, vs, vb, vc, row, col, fr, fc, row2, col2, fr2, fc2, txt⟩ (.slice a n cap))).cell 1 (.int .i64 vk) rfl
  have d2 := (Box.new w (hdC ⟨kd, vk, vn, vs, vb, vc, row, col, fr, fc, row2, col2, fr2, fc2, txt⟩ (.slice a n cap))).cell 2 (.int .i64 vn) rfl
  have d3 := (Box.new w (hdC ⟨kd, vk, vn, vs, vb, vc, row, col, fr, fc, row2, col2, fr2, fc2, txt⟩ (.slice a n cap))).cell 3 (.string ⟨vs.toArray⟩) rfl
  have d4 := (Box.new w (hdC ⟨kd, vk, vn, vs, vb, vc, row, col, fr, fc, row2, col2, fr2, fc2, txt⟩ (.slice a n cap))).cell 4 (.bool vb) rfl
  have d5 := (Box.new w (hdC ⟨kd, vk, vn, vs, vb, vc, row, col, fr, fc, row2, col2, fr2, fc2, txt⟩ (.slice a n cap))).cell 5 (.int .i64 vc) rfl
  have d6 := (Box.new w (hdC ⟨kd, vk, vn, vs, vb, vc, row, col, fr, fc, row2, col2, fr2, fc2, txt⟩ (.slice a n cap))).cell 6 (.int .i64 row) rfl
  have d7 := (Box.new w (hdC ⟨kd, vk, vn, vs, vb, vc, row, col, fr, fc, row2, col2, fr2, fc2, txt⟩ (.slice a n cap))).cell 7 (.int .i64 col) rfl
  have d8 := (Box.new w (hdC ⟨kd, vk, vn, vs, vb, vc, row, col, fr, fc, row2, col2, fr2, fc2, txt⟩ (.slice a n cap))).cell 8 (.bool fr) rfl
  have d9 := (Box.new w (hdC ⟨kd, vk, vn, vs, vb, vc, row, col, fr, fc, row2, col2, fr2, fc2, txt⟩ (.slice a n cap))).cell 9 (.bool fc) rfl
  have d10 := (Box.new w (hdC ⟨kd, vk, vn, vs, vb, vc, row, col, fr, fc, row2, col2, fr2, fc2, txt⟩ (.slice a n cap))).cell 10 (.int .i64 row2) rfl
  have d11 := (Box.new w (hdC ⟨kd, vk, vn, vs, vb, vc, row, col, fr, fc, row2, col2, fr2, fc2, txt⟩ (.slice a n cap))).cell 11 (.int .i64 col2) rfl
  have d12 := (Box.new w (hdC ⟨kd, vk, vn, vs, vb, vc, row, col, fr, fc, row2, col2, fr2, fc2, txt⟩ (.slice a n cap))).cell 12 (.bool fr2) rfl
  have d13 := (Box.new w (hdC ⟨kd, vk, vn, vs, vb, vc, row, col, fr, fc, row2, col2, fr2, fc2, txt⟩ (.slice a n cap))).cell 13 (.bool fc2) rfl
  have d14 := (Box.new w (hdC ⟨kd, vk, vn, vs, vb, vc, row, col, fr, fc, row2, col2, fr2, fc2, txt⟩ (.slice a n cap))).cell 14 (.string ⟨txt.toArray⟩) rfl
  have d15 := (Box.new w (hdC ⟨kd, vk, vn, vs, vb, vc, row, col, fr, fc, row2, col2, fr2, fc2, txt⟩ (.slice a n cap))).cell 15 (.slice a n cap) rfl
  have fz := (Box.new w (hdC ⟨kd, vk, vn, vs, vb, vc, row, col, fr, fc, row2, col2, fr2, fc2, txt⟩ (.slice a n cap))).froz
  have HX0 := hide (Box.new w (hdC ⟨kd, vk, vn, vs, vb, vc, row, col, fr, fc, row2, col2, fr2, fc2, txt⟩ (.slice a n cap)))
  go_enter Tryz.func65, Tryz.ntmps65
  go_wp2_with (first | (with_reducible refine wpl_id ?_; refine wpl_loadG rfl _ rfl _ rfl (Hid.out (by assumption)) ?_))
  go_ret
  refine ⟨rfl, ?_⟩
  repeat' (first | with_reducible exact Below.refl _ _ | with_reducible refine Below.setCell ?_ ?_ _ | with_reducible refine Below.alloc ?_ ?_ _ | with_reducible refine below_drewN ?_ _ | with_reducible refine Below.drew ?_ | with_reducible refine Below.trans ?_ (Below.mono (by assumption) ?_) | with_reducible exact Nat.le_refl _ | with_reducible refine Nat.le_trans ?_ (Below.size (by assumption)) | with_reducible refine Nat.le_trans ?_ (size_alloc _ _) | with_reducible refine Nat.le_trans ?_ (size_set _ _ _) | with_reducible refine Nat.le_trans ?_ (size_drewN _ _) | with_reducible refine Nat.le_trans ?_ (size_drew _) | (simp; done) | (simp; omega) | omega)
theorem rightAlone_any (h : Hd) (a : Option Addr) (n cap : Nat) (w : World) (hs : h.vs.length ≤ maxLen) (ht : h.txt.length ≤ maxLen) :
    Calls Tryz.prog 65 #[.agg (hdC h (.slice a n cap)).toArray] w fun e w' => e = .returned (.bool (aloneB h n)) ∧ Below w.heap.size w w' := by
  obtain ⟨kind, vk, vn, vs, vb, vc, row, col, fr, fc, row2, col2, fr2, fc2, txt⟩ := h
  simp only at hs ht
  by_cases h1 : kind = 1
  · subst h1
    cases q : constB ⟨1, vk, vn, vs, vb, vc, row, col, fr, fc, row2, col2, fr2, fc2, txt⟩ with
    | true =>
      have := alone_value_true vk vn vs vb vc row col fr fc row2 col2 fr2 fc2 txt a n cap w hs q
      rw [show aloneB ⟨1, vk, vn, vs, vb, vc, row, col, fr, fc, row2, col2, fr2, fc2, txt⟩ n = emptyB ⟨1, 0, 0, [], false, 0, row, col, fr, fc, row2, col2, fr2, fc2, txt⟩ n by simp [aloneB, emptyB, q, noVal, noCell, noTo]]
      exact this
    | false =>
      rw [show aloneB ⟨1, vk, vn, vs, vb, vc, row, col, fr, fc, row2, col2, fr2, fc2, txt⟩ n = false by simp [aloneB, q]]
      exact alone_value_false vk vn vs vb vc row col fr fc row2 col2 fr2 fc2 txt a n cap w hs q
  by_cases h2 : kind = 2
  · subst h2
    cases q : Pla.placeB row col with
    | true =>
      have := alone_cell_true vk vn vs vb vc row col fr fc row2 col2 fr2 fc2 txt a n cap w q
      rw [show aloneB ⟨2, vk, vn, vs, vb, vc, row, col, fr, fc, row2, col2, fr2, fc2, txt⟩ n = emptyB ⟨2, vk, vn, vs, vb, vc, 0, 0, false, false, row2, col2, fr2, fc2, txt⟩ n by simp [aloneB, emptyB, q, noVal, noCell, noTo]]
      exact this
    | false =>
      rw [show aloneB ⟨2, vk, vn, vs, vb, vc, row, col, fr, fc, row2, col2, fr2, fc2, txt⟩ n = false by simp [aloneB, q]]
      exact alone_cell_false vk vn vs vb vc row col fr fc row2 col2 fr2 fc2 txt a n cap w q
  by_cases h3 : kind = 3
  · subst h3
    cases q : Pla.placeB row col with
    | true =>
      cases q2 : Pla.placeB row2 col2 with
      | true =>
        have := alone_range_true vk vn vs vb vc row col fr fc row2 col2 fr2 fc2 txt a n cap w q q2
        rw [show aloneB ⟨3, vk, vn, vs, vb, vc, row, col, fr, fc, row2, col2, fr2, fc2, txt⟩ n = emptyB ⟨3, vk, vn, vs, vb, vc, 0, 0, false, false, 0, 0, false, false, txt⟩ n by simp [aloneB, emptyB, q, q2, noVal, noCell, noTo]]
        exact this
      | false =>
        rw [show aloneB ⟨3, vk, vn, vs, vb, vc, row, col, fr, fc, row2, col2, fr2, fc2, txt⟩ n = false by simp [aloneB, q, q2]]
        exact alone_range_no2 vk vn vs vb vc row col fr fc row2 col2 fr2 fc2 txt a n cap w q q2
    | false =>
      rw [show aloneB ⟨3, vk, vn, vs, vb, vc, row, col, fr, fc, row2, col2, fr2, fc2, txt⟩ n = false by simp [aloneB, q]]
      exact alone_range_no1 vk vn vs vb vc row col fr fc row2 col2 fr2 fc2 txt a n cap w q
  by_cases h4 : kind = 4
  · subst h4
    by_cases q : n = 1
    · have := alone_neg_true vk vn vs vb vc row col fr fc row2 col2 fr2 fc2 txt a n cap w (by simp [q])
      rw [show aloneB ⟨4, vk, vn, vs, vb, vc, row, col, fr, fc, row2, col2, fr2, fc2, txt⟩ n = emptyB ⟨4, vk, vn, vs, vb, vc, row, col, fr, fc, row2, col2, fr2, fc2, txt⟩ 0 by simp [aloneB, emptyB, q, noVal, noCell, noTo]]
      exact this
    · rw [show aloneB ⟨4, vk, vn, vs, vb, vc, row, col, fr, fc, row2, col2, fr2, fc2, txt⟩ n = false by simp [aloneB, q]]
      exact alone_neg_false vk vn vs vb vc row col fr fc row2 col2 fr2 fc2 txt a n cap w (by simp; omega)
  by_cases h5 : kind = 5
  · subst h5
    by_cases q : 0 < bindN txt
    · by_cases q2 : n = 2
      · have := alone_bin_true vk vn vs vb vc row col fr fc row2 col2 fr2 fc2 txt a n cap w q (by simp [q2])
        rw [show aloneB ⟨5, vk, vn, vs, vb, vc, row, col, fr, fc, row2, col2, fr2, fc2, txt⟩ n = emptyB ⟨5, vk, vn, vs, vb, vc, row, col, fr, fc, row2, col2, fr2, fc2, []⟩ 0 by simp [aloneB, emptyB, q, q2, noVal, noCell, noTo]]
        exact this
      · rw [show aloneB ⟨5, vk, vn, vs, vb, vc, row, col, fr, fc, row2, col2, fr2, fc2, txt⟩ n = false by simp [aloneB, q2]]
        exact alone_bin_no2 vk vn vs vb vc row col fr fc row2 col2 fr2 fc2 txt a n cap w q (by simp; omega)
    · rw [show aloneB ⟨5, vk, vn, vs, vb, vc, row, col, fr, fc, row2, col2, fr2, fc2, txt⟩ n = false by simp [aloneB]; omega]
      exact alone_bin_no1 vk vn vs vb vc row col fr fc row2 col2 fr2 fc2 txt a n cap w (by omega)
  by_cases h6 : kind = 6
  · subst h6
    cases q : nameOk txt with
    | true =>
      have := alone_call_true vk vn vs vb vc row col fr fc row2 col2 fr2 fc2 txt a n cap w ht q
      rw [show aloneB ⟨6, vk, vn, vs, vb, vc, row, col, fr, fc, row2, col2, fr2, fc2, txt⟩ n = emptyB ⟨6, vk, vn, vs, vb, vc, row, col, fr, fc, row2, col2, fr2, fc2, []⟩ 0 by simp [aloneB, emptyB, q, noVal, noCell, noTo]]
      exact this
    | false =>
      rw [show aloneB ⟨6, vk, vn, vs, vb, vc, row, col, fr, fc, row2, col2, fr2, fc2, txt⟩ n = false by simp [aloneB, q]]
      exact alone_call_false vk vn vs vb vc row col fr fc row2 col2 fr2 fc2 txt a n cap w ht q
  rw [show aloneB ⟨kind, vk, vn, vs, vb, vc, row, col, fr, fc, row2, col2, fr2, fc2, txt⟩ n = false by simp [aloneB, h1, h2, h3, h4, h5, h6]]
  exact alone_none vk vn vs vb vc row col fr fc row2 col2 fr2 fc2 txt a n cap w kind (by simpa using h1) (by simpa using h2) (by simpa using h3) (by simpa using h4) (by simpa using h5) (by simpa using h6)
end
end Go.Proofs.YtklldmidcmfbdaaGreatDoor
