/-
  A formula made anew, in plain words.
-/
import Derived.Test.YtfpmmckpobpokaaGreatMRw1c
import Derived.Test.YtfpmmckpobpokaaGreatMZ9
set_option maxRecDepth 100000
set_option maxHeartbeats 4000000
namespace Go.Proofs.YtfpmmckpobpokaaGreat
open Go.RowKit
def lostH : Hd := ⟨1, 4, 0, [], false, 3, 0, 0, false, false, 0, 0, false, false, []⟩
def cellN (r c : Int) (x y : Bool) : Hd := ⟨2, 0, 0, [], false, 0, r, c, x, y, 0, 0, false, false, []⟩
def rangeN (r c : Int) (x y : Bool) (r2 c2 : Int) (x2 y2 : Bool) : Hd := ⟨3, 0, 0, [], false, 0, r, c, x, y, r2, c2, x2, y2, []⟩
def bareH (h : Hd) : Hd := ⟨h.kind, h.vk, h.vn, h.vs, h.vb, h.vc, 0, 0, false, false, 0, 0, false, false, h.txt⟩
structure Do where
 c : Hd → Int × Int × Bool
 s : Hd → Int × Int × Int × Int × Bool
def remH (D : Do) (h : Hd) : Hd :=
 if h.kind = 2 then (if (D.c h).2.2 then cellN (D.c h).1 (D.c h).2.1 h.fr h.fc else lostH)
 else if h.kind = 3 then (if (D.s h).2.2.2.2 then rangeN (D.s h).1 (D.s h).2.1 h.fr h.fc (D.s h).2.2.1 (D.s h).2.2.2.1 h.fr2 h.fc2 else lostH)
 else bareH h
def leafB (h : Hd) : Bool := decide (h.kind = 2) || decide (h.kind = 3)
def remF (D : Do) : Fo → Fo
 | .nil => .nil
 | .cons h k r => .cons (remH D h) (if leafB h then .nil else remF D k) (remF D r)
def remK (D : Do) (h : Hd) (k : Fo) : Fo := if leafB h then .nil else remF D k
def joinF : Fo → Fo → Fo
 | .nil, r => r
 | .cons h k q, r => .cons h k (joinF q r)
theorem join_nil : ∀ F : Fo, joinF F .nil = F
 | .nil => rfl
 | .cons h k r => by simp [joinF, join_nil r]
theorem join_snoc : ∀ (F : Fo) (h : Hd) (k r : Fo), joinF (F.snoc h k) r = joinF F (.cons h k r)
 | .nil, _, _, _ => rfl
 | .cons h' k' q, h, k, r => by simp [joinF, Fo.snoc, join_snoc q]
theorem wp_at {c : Code} {Q : Exit → Act → World → Prop} {a : Act} {W W0 : World} (h : W0 = W) (k : c.wp Tryz.prog Q a W0) : c.wp Tryz.prog Q a W := h ▸ k
theorem CelAt.put {w : World} {b : Nat} {r c : Int} {x y : Bool} (h : CelAt w b r c x y) (r' c' : Int) (x' y' : Bool) : CelAt ((((w.setCell ⟨b, 0, none⟩ (.int .i64 r')).setCell ⟨b, 1, none⟩ (.int .i64 c')).setCell ⟨b, 2, none⟩ (.bool x')).setCell ⟨b, 3, none⟩ (.bool y')) b r' c' x' y' := by
 obtain ⟨h0, ⟨h1, h2, h3, h4⟩, h5, h6, h7, h8⟩ := h
 have q : ∀ (W : World) (i j : Nat) (u : Value), i ≠ j → (W.setCell ⟨b, j, none⟩ u).cell? ⟨b, i, none⟩ = W.cell? ⟨b, i, none⟩ := fun W i j u hi => World.cell?_setCell_other _ _ _ _ (by intro e; have := congrArg Addr.off e; simp at this; omega)
 refine ⟨by simpa using h0, ⟨?_, ?_, ?_, ?_⟩, ?_, ?_, ?_, ?_⟩
 ·
  rw [q _ 0 3 _ (by omega), q _ 0 2 _ (by omega), q _ 0 1 _ (by omega)]
  exact World.cell?_setCell_same _ _ _ h1
 ·
  rw [q _ 1 3 _ (by omega), q _ 1 2 _ (by omega)]
  exact World.cell?_setCell_same _ _ _ ((q _ 1 0 _ (by omega)).trans h2)
 ·
  rw [q _ 2 3 _ (by omega)]
  exact World.cell?_setCell_same _ _ _ ((q _ 2 1 _ (by omega)).trans ((q _ 2 0 _ (by omega)).trans h3))
 ·
  exact World.cell?_setCell_same _ _ _ ((q _ 3 2 _ (by omega)).trans ((q _ 3 1 _ (by omega)).trans ((q _ 3 0 _ (by omega)).trans h4)))
 all_goals (simp only [World.frozen?_setCell]; assumption)
theorem Box.cellset {w : World} {b b' : Nat} {cs : List Value} (h : Box w b cs) (hb : b ≠ b') (j : Nat) (v : Value) : Box (w.setCell ⟨b', j, none⟩ v) b cs := by
 unfold Box
 rw [show (w.setCell ⟨b', j, none⟩ v).heap[b]? = w.heap[b]? from (by show (w.heap.modify b' _)[b]? = _; rw [Array.getElem?_modify, if_neg (Ne.symm hb)])]
 exact h
theorem wp_cutT2 {P : Program} {c : Code} {Q : Exit → Act → World → Prop} {T : Nat → Nat → Act} {F : Nat → Nat → World → Prop} {a : Act} {w : World} (hr : c.wp P (Pla.Norm fun a' w' => ∃ k j, a' = T k j ∧ F k j w') a w) (hk : ∀ k j w', F k j w' → Q .normal (T k j) w') : c.wp P Q a w :=
 Pla.wp_cut hr fun a w ⟨k, j, e, f⟩ => by rw [e]; exact hk k j w f
theorem len_many : ∀ k : Fo, k.len ≤ k.many
 | .nil => Nat.le_refl _
 | .cons h k r => by have := len_many r; simp only [Fo.len, Fo.many]; omega
theorem made_there {w W w2 : World} {n : Nat} {xs : List Value} (h : w2.ownsRow (w.heap.size + 1) 33 16 (.slice (some ⟨W.heap.size, 0, none⟩) n n) n xs) (hg : W.grownBy w2 none) (hb : Below w.heap.size w W) : w2.there W.heap.size 0 (n * 16) ∧ Below w.heap.size w w2 ∧ Below W.heap.size W w2 ∧ W.heap.size < w2.heap.size := by
 obtain ⟨_, h⟩ := h
 rcases h with ⟨h, _⟩ | ⟨g, cap, cur, h1, h2, h3, h4, h5, h6, h7⟩
 ·
  simp at h
 ·
  simp only [Value.slice.injEq, Option.some.injEq, Addr.mk.injEq, true_and, and_true] at h1
  obtain ⟨e1, e2⟩ := h1
  subst e1
  subst e2
  have hB : Below W.heap.size W w2 := ⟨hg.os, hg.tape, hg.output, hg.size, fun k hk => hg.block k hk (by simp)⟩
  refine ⟨fun j hj => ?_, hb.trans (hB.mono hb.size), hB, (Array.getElem?_eq_some_iff.1 h3).1⟩
  rw [Nat.zero_add, World.cell?, World.frozen?, h3]
  have hs : j < cur.size := by omega
  simp [hs]
theorem run_cellN (r c : Int) (x y : Bool) (w : World) : (Instr.build 33 #[(0, .int .i64 2), (2, .agg #[.int .i64 r, .int .i64 c, .bool x, .bool y])]).run Tryz.prog w = .ok (.agg (hdC (cellN r c x y) (.slice none 0 0)).toArray) w := run_build w _ _ _ (by kernel_rfl)
theorem run_rangeN (r c : Int) (x y : Bool) (r2 c2 : Int) (x2 y2 : Bool) (w : World) : (Instr.build 33 #[(0, .int .i64 3), (2, .agg #[.int .i64 r, .int .i64 c, .bool x, .bool y]), (3, .agg #[.int .i64 r2, .int .i64 c2, .bool x2, .bool y2])]).run Tryz.prog w = .ok (.agg (hdC (rangeN r c x y r2 c2 x2 y2) (.slice none 0 0)).toArray) w := run_build w _ _ _ (by kernel_rfl)
theorem run_bareN (h : Hd) (a : Option Addr) (n cap : Nat) (w : World) : (Instr.build 33 #[(0, .int .i64 h.kind), (1, .agg #[.int .i64 h.vk, .int .i64 h.vn, .string ⟨h.vs.toArray⟩, .bool h.vb, .int .i64 h.vc]), (4, .string ⟨h.txt.toArray⟩), (5, .slice a n cap)]).run Tryz.prog w = .ok (.agg (hdC (bareH h) (.slice a n cap)).toArray) w := run_build w _ _ _ (by kernel_rfl)
theorem run_lostN (w : World) : (Instr.build 33 #[(0, .int .i64 1), (1, .agg #[.int .i64 4, .int .i64 0, .string ⟨#[]⟩, .bool false, .int .i64 3])]).run Tryz.prog w = .ok (.agg (hdC lostH (.slice none 0 0)).toArray) w := run_build w _ _ _ (by kernel_rfl)
theorem lost_ans (w : World) : Calls Tryz.prog 60 #[] w fun e w' => e = .returned (.agg (hdC lostH (.slice none 0 0)).toArray) ∧ Below w.heap.size w w' := by
 have HX := hide (Box.new w (hdC zh (.slice none 0 0)))
 go_enter Tryz.func60, Tryz.ntmps60
 go_wp2_with (first | (with_reducible refine wpl_id ?_; refine wpl_buildN rfl 33 _ rfl (qs := #[(0, .int .i64 1), (1, .agg #[.int .i64 4, .int .i64 0, .string ⟨#[]⟩, .bool false, .int .i64 3])]) rfl (run_lostN _) ?_) | (with_reducible refine wpl_id ?_; refine wpl_store rfl _ _ rfl _ rfl rfl (by ((repeat' (first | with_reducible (first | exact Hid.out (by assumption) | apply Box.set | exact Box.new _ _ | apply Box.other | apply Box.alloc | apply Box.drew | apply Box.drewN) | omega)); done)) rfl ?_))
 refine bodyPost_ret (Box.ret rfl (HX.out.set _) rfl) rfl ⟨rfl, ?_⟩
 exact below_set (below_al w _) (Nat.le_refl _) _
end Go.Proofs.YtfpmmckpobpokaaGreat
