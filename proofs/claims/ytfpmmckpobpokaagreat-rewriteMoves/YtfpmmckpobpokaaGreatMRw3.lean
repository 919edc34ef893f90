/-
  The contract of rewrite.remade (made by rwgen.py).
-/
import Derived.Test.YtfpmmckpobpokaaGreatMRw2
set_option maxRecDepth 100000
set_option maxHeartbeats 4000000
namespace Go.Proofs.YtfpmmckpobpokaaGreat
open Go.RowKit
structure DoOk (D : Do) (f1 f2 : Nat) (l1 l2 : Array Value) (E : World → Prop) : Prop where
 cell : ∀ (h : Hd) (W : World), E W → Calls Tryz.prog f1 (#[.agg #[.int .i64 h.row, .int .i64 h.col, .bool h.fr, .bool h.fc]] ++ l1) W fun e w' => e = .returned (.tuple #[.agg #[.int .i64 (D.c h).1, .int .i64 (D.c h).2.1, .bool h.fr, .bool h.fc], .bool (D.c h).2.2]) ∧ Below W.heap.size W w'
 span : ∀ (h : Hd) (W : World), E W → Calls Tryz.prog f2 (#[.agg #[.int .i64 h.row, .int .i64 h.col, .bool h.fr, .bool h.fc], .agg #[.int .i64 h.row2, .int .i64 h.col2, .bool h.fr2, .bool h.fc2]] ++ l2) W fun e w' => e = .returned (.tuple #[.agg #[.int .i64 (D.s h).1, .int .i64 (D.s h).2.1, .bool h.fr, .bool h.fc], .agg #[.int .i64 (D.s h).2.2.1, .int .i64 (D.s h).2.2.2.1, .bool h.fr2, .bool h.fc2], .bool (D.s h).2.2.2.2]) ∧ Below W.heap.size W w'
 below : ∀ {W W' : World}, E W → Below W.heap.size W W' → E W'
 r1 : ∀ (xs : Array Value) (W : World), Sem.run Tryz.prog (callFunc f1 xs) W = .ok (.enter f1 xs) W
 r2 : ∀ (xs : Array Value) (W : World), Sem.run Tryz.prog (callFunc f2 xs) W = .ok (.enter f2 xs) W
theorem docellG (D : Do) (f1 f2 : Nat) (l1 l2 : Array Value) (E : World → Prop) (G : DoOk D f1 f2 l1 l2 E) : ∀ (h : Hd) (W : World), E W → Calls Tryz.prog f1 (#[.agg #[.int .i64 h.row, .int .i64 h.col, .bool h.fr, .bool h.fc]] ++ l1) W fun e w' => e = .returned (.tuple #[.agg #[.int .i64 (D.c h).1, .int .i64 (D.c h).2.1, .bool h.fr, .bool h.fc], .bool (D.c h).2.2]) ∧ Below W.heap.size W w' :=
 G.cell
theorem dospanG (D : Do) (f1 f2 : Nat) (l1 l2 : Array Value) (E : World → Prop) (G : DoOk D f1 f2 l1 l2 E) : ∀ (h : Hd) (W : World), E W → Calls Tryz.prog f2 (#[.agg #[.int .i64 h.row, .int .i64 h.col, .bool h.fr, .bool h.fc], .agg #[.int .i64 h.row2, .int .i64 h.col2, .bool h.fr2, .bool h.fc2]] ++ l2) W fun e w' => e = .returned (.tuple #[.agg #[.int .i64 (D.s h).1, .int .i64 (D.s h).2.1, .bool h.fr, .bool h.fc], .agg #[.int .i64 (D.s h).2.2.1, .int .i64 (D.s h).2.2.2.1, .bool h.fr2, .bool h.fc2], .bool (D.s h).2.2.2.2]) ∧ Below W.heap.size W w' :=
 G.span
def RemCG (D : Do) (f1 f2 : Nat) (l1 l2 : Array Value) (E : World → Prop) (k : Fo) : Prop :=
 ∀ (Dm : Nat → Prop) (h : Hd) (b o : Nat) (w : World), (∀ c, Dm c → c < w.heap.size) → Row w Dm (.cons h k .nil) b o → E w → k.many ≤ 4096 →
  Calls Tryz.prog 32 #[.pointer (some ⟨b, o, none⟩), .agg #[.func (.func f1) #[] l1, .func (.func f2) #[] l2]] w fun e w' => ∃ a n cap, e = .returned (.agg (hdC (remH (D) h) (.slice a n cap)).toArray) ∧ Kv w' (New w w') (.slice a n cap) (remK (D) h k) ∧ Below w.heap.size w w'
def RemAG (D : Do) (f1 f2 : Nat) (l1 l2 : Array Value) (E : World → Prop) : Fo → Prop
 | .nil => True
 | .cons _ k r => RemCG D f1 f2 l1 l2 E k ∧ RemAG D f1 f2 l1 l2 E r
theorem rem_cellG (D : Do) (f1 f2 : Nat) (l1 l2 : Array Value) (E : World → Prop) (G : DoOk D f1 f2 l1 l2 E) (Dm : Nat → Prop) (h : Hd) (k : Fo) (b o : Nat) (w : World) (hD : ∀ c, Dm c → c < w.heap.size) (hr : Row w Dm (.cons h k .nil) b o) (he : E w) (h2 : h.kind = 2) :
  Calls Tryz.prog 32 #[.pointer (some ⟨b, o, none⟩), .agg #[.func (.func f1) #[] l1, .func (.func f2) #[] l2]] w fun e w' => ∃ a n cap, e = .returned (.agg (hdC (remH (D) h) (.slice a n cap)).toArray) ∧ Kv w' (New w w') (.slice a n cap) (remK (D) h k) ∧ Below w.heap.size w w' := by
 have HC : Hid (∀ W : World, Below w.heap.size w W → Calls Tryz.prog f1 (#[.agg #[.int .i64 h.row, .int .i64 h.col, .bool h.fr, .bool h.fc]] ++ l1) W fun e w' => e = .returned (.tuple #[.agg #[.int .i64 (D.c h).1, .int .i64 (D.c h).2.1, .bool h.fr, .bool h.fc], .bool (D.c h).2.2]) ∧ Below W.heap.size W w') := fun W hW => docellG D f1 f2 l1 l2 E G h W (G.below he hW)
 have HL : Hid (∀ W : World, Calls Tryz.prog 60 #[] W fun e w' => e = .returned (.agg (hdC lostH (.slice none 0 0)).toArray) ∧ Below W.heap.size W w') := lost_ans
 obtain ⟨hb, ⟨v, hc, _⟩, _⟩ := row_cons.1 hr
 replace hb := hD b hb
 have hH : remH (D) h = if ((D).c h).2.2 then cellN ((D).c h).1 ((D).c h).2.1 h.fr h.fc else lostH := by unfold remH; rw [if_pos h2]
 have hK : remK (D) h k = .nil := by unfold remK leafB; rw [h2]; rfl
 rw [hH, hK]
 have c0 : w.cell? ⟨b, o, none⟩ = some (.int .i64 2) := by have := hc 0 (by omega); rw [show (hdC h v)[0]? = some (.int .i64 h.kind) from rfl, h2] at this; exact this
 have c6 : w.cell? ⟨b, o + 6, none⟩ = some (.int .i64 h.row) := hc 6 (by omega)
 have c7 : w.cell? ⟨b, o + 7, none⟩ = some (.int .i64 h.col) := hc 7 (by omega)
 have c8 : w.cell? ⟨b, o + 8, none⟩ = some (.bool h.fr) := hc 8 (by omega)
 have c9 : w.cell? ⟨b, o + 9, none⟩ = some (.bool h.fc) := hc 9 (by omega)
 have hb1 : b < w.heap.size + 1 := by omega
 generalize (D).c h = q at *
 obtain ⟨q1, q2, q3⟩ := q
 dsimp only at HC ⊢
 generalize h.row = r at *
 generalize h.col = c at *
 generalize h.fr = x at *
 generalize h.fc = y at *
 obtain ⟨H, hHe⟩ : ∃ H, H = if q3 = true then cellN q1 q2 x y else lostH := ⟨_, rfl⟩
 rw [← hHe]
 have HH := hide hHe
 clear hHe
 have HX : Hid (Box ((w.alloc (.cells #[.func (.func f1) #[] l1, .func (.func f2) #[] l2] 78)).alloc (.cells (hdC zh (.slice none 0 0)).toArray 33)) (w.heap.size + 1) (hdC zh (.slice none 0 0))) := by
  have := Box.new (w.alloc (.cells #[.func (.func f1) #[] l1, .func (.func f2) #[] l2] 78)) (hdC zh (.slice none 0 0))
  rw [World.size_alloc] at this
  exact this
 have HB := hide (((Below.refl _ w).alloc (Nat.le_refl _) (.cells #[.func (.func f1) #[] l1, .func (.func f2) #[] l2] 78)).alloc (by simp) (.cells (hdC zh (.slice none 0 0)).toArray 33))
 clear hH hK hc hr hD h2 he
 obtain ⟨W0, hW0⟩ : ∃ W0 : World, W0 = ((w.alloc (.cells #[.func (.func f1) #[] l1, .func (.func f2) #[] l2] 78)).alloc (.cells (hdC zh (.slice none 0 0)).toArray 33)) := ⟨_, rfl⟩
 have HS : Hid (∀ W : World, Below W0.heap.size W0 W → W.cell? ⟨w.heap.size, 0, none⟩ = some (.func (.func f1) #[] l1) ∧ W.cell? ⟨b, o + 6, none⟩ = some (.int .i64 r) ∧ W.cell? ⟨b, o + 6 + 1, none⟩ = some (.int .i64 c) ∧ W.cell? ⟨b, o + 6 + 2, none⟩ = some (.bool x) ∧ W.cell? ⟨b, o + 6 + 3, none⟩ = some (.bool y)) := fun W hW => by
  have hB0 : Below w.heap.size w W0 := by rw [hW0]; exact HB.out
  have hw := hB0.trans (hW.mono hB0.size)
  have hd : W0.cell? ⟨w.heap.size, 0, none⟩ = some (.func (.func f1) #[] l1) := by rw [hW0]; simp [go_sem]
  have hs : w.heap.size < W0.heap.size := by rw [hW0]; simp; omega
  exact ⟨(hW.cell (p := ⟨w.heap.size, 0, none⟩) hs).trans hd, (hw.cell (p := ⟨b, o + 6, none⟩) hb).trans c6, (hw.cell (p := ⟨b, o + 6 + 1, none⟩) hb).trans c7, (hw.cell (p := ⟨b, o + 6 + 2, none⟩) hb).trans c8, (hw.cell (p := ⟨b, o + 6 + 3, none⟩) hb).trans c9⟩
 go_enter Tryz.func32, Tryz.ntmps32
 go_wp2_with fail
 refine wp_at (W0 := W0) hW0 ?_
 have HX0 : Hid (Box W0 (w.heap.size + 1) (hdC zh (.slice none 0 0))) := by rw [hW0]; exact HX.out
 have HB0 : Hid (Below w.heap.size w W0) := by rw [hW0]; exact HB.out
 have hz : w.heap.size + 1 < W0.heap.size := HX0.out.lt
 clear hW0 HX HB c0 c6 c7 c8 c9
 apply Pla.wp_cutT (F := fun cb w' => CelAt w' cb q1 q2 x y ∧ Box w' (w.heap.size + 1) (hdC zh (.slice none 0 0)) ∧ Below w.heap.size w w')
 case hr =>
  refine wp_region_held_drew (S := fun W => W.cell? ⟨w.heap.size, 0, none⟩ = some (.func (.func f1) #[] l1) ∧ W.cell? ⟨b, o + 6, none⟩ = some (.int .i64 r) ∧ W.cell? ⟨b, o + 6 + 1, none⟩ = some (.int .i64 c) ∧ W.cell? ⟨b, o + 6 + 2, none⟩ = some (.bool x) ∧ W.cell? ⟨b, o + 6 + 3, none⟩ = some (.bool y)) (by kernel_rfl) (HS.out _ (below_drew0 W0)) (fun hHeld => ?_)
  refine takeF 0 (some 17) ?_; refine takeF 1 (some 18) ?_; refine takeF 2 (some 19) ?_; refine takeF 3 (some 20) ?_; refine takeF 4 (some 21) ?_; refine takeF 5 (some 22) ?_
  refine wpAnyH_ready (rs := [6, 10]) (by kernel_rfl) (by simp) ?_
  refine AllReadyH.cons (o := _) rfl (fun K hK => ?_) (AllReadyH.cons (o := _) rfl (fun K hK => ?_) AllReadyH.nil)
  ·
   go_simp
   (rw [G.r1, Oper.upon_enter]; refine (HC.out _ (HB0.out.drew)).mono ?_; rintro e w1 ⟨rfl, hb2⟩; have hbd : Below W0.heap.size W0 w1 := (below_drew0 W0).trans hb2; have HX1 := hide (HX0.out.below hbd); have HB1 := hide (HB0.out.trans (hbd.mono HB0.out.size)); have hs1 := HS.out w1 hbd; have HBd := hide hbd; clear hb2 hbd)
   refine hK.out _ _ hs1 (fun hHeld => ?_)
   clear hK K
   try simp only [Act.put, pA, pB, pC]
   refine takeF 7 (some 16) ?_; refine takeF 8 (some 24) ?_; refine takeF 9 (some 25) ?_
   refine wpAnyH_ready (rs := [10]) (by kernel_rfl) (by simp) ?_
   refine AllReadyH.cons (o := _) rfl (fun K hK => ?_) AllReadyH.nil
   go_simp
   refine hK.out _ _ (HS.out _ (HBd.out.alloc HBd.out.size _)) (fun hHeld => ?_)
   clear hK K
   try simp only [Act.put, pA, pB, pC]
   refine wpAnyH_ready (rs := [11]) (by kernel_rfl) (by simp) ?_
   refine AllReadyH.cons (o := _) rfl (fun K hK => ?_) AllReadyH.nil
   go_simp
   refine hK.out _ _ (HS.out _ (HBd.out.alloc HBd.out.size _)) (fun hHeld => ?_)
   clear hK K
   try simp only [Act.put, pA, pB, pC]
   refine takeF 12 (some 6) ?_
   refine wpAnyH_done (by kernel_rfl) ?_ _
   refine ⟨w1.heap.size, ?_, CelAt.new w1 q1 q2 x y _, HX1.out.alloc _, HB1.out.alloc HB1.out.size _⟩
   generalize w1.heap.size = cb
   rfl
  ·
   go_simp
   have HA := hide (below_drew0 W0 |>.alloc (Nat.le_refl _) (.cells #[.int .i64 0, .int .i64 0, .bool false, .bool false] 30))
   refine hK.out _ _ (HS.out _ (by first | exact HA.out | exact ((Below.refl _ W0).alloc (Nat.le_refl _) _).drew)) (fun hHeld => ?_)
   clear hK K
   try simp only [Act.put, pA, pB, pC]
   have HA2 : Hid (Below W0.heap.size W0 (W0.alloc (.cells #[.int .i64 0, .int .i64 0, .bool false, .bool false] 30)).drew) := ((Below.refl _ W0).alloc (Nat.le_refl _) _).drew
   have HN : Hid (CelAt (W0.alloc (.cells #[.int .i64 0, .int .i64 0, .bool false, .bool false] 30)).drew W0.heap.size 0 0 false false) := CelAt.new W0 0 0 false false _
   refine wpAnyH_ready (rs := [6]) (by kernel_rfl) (by simp) ?_
   refine AllReadyH.cons (o := _) rfl (fun K hK => ?_) AllReadyH.nil
   go_simp
   (rw [G.r1, Oper.upon_enter]; refine (HC.out _ (HB0.out.trans (HA2.out.mono HB0.out.size))).mono ?_; rintro e w1 ⟨rfl, hb2⟩; have hbd : Below W0.heap.size W0 w1 := HA2.out.trans (hb2.mono HA2.out.size); have HN1 := hide (HN.out.below hb2); have HX1 := hide (HX0.out.below hbd); have HB1 := hide (HB0.out.trans (hbd.mono HB0.out.size)); have hs1 := HS.out w1 hbd; have HBd := hide hbd; clear hb2 hbd)
   refine hK.out _ _ hs1 (fun hHeld => ?_)
   clear hK K
   try simp only [Act.put, pA, pB, pC]
   refine takeF 7 (some 16) ?_; refine takeF 8 (some 24) ?_; refine takeF 9 (some 25) ?_
   obtain ⟨p0, ⟨p1, p2, p3, p4⟩, p5, p6, p7, p8⟩ := HN1.out
   refine wpAnyH_ready (rs := [11]) (by kernel_rfl) (by simp) ?_
   refine AllReadyH.cons (o := _) rfl (fun K hK => ?_) AllReadyH.nil
   go_simp
   refine hK.out _ _ (HS.out _ ((((HBd.out.setCell (Nat.le_refl _) _).setCell (Nat.le_refl _) _).setCell (Nat.le_refl _) _).setCell (Nat.le_refl _) _)) (fun hHeld => ?_)
   clear hK K
   try simp only [Act.put, pA, pB, pC]
   refine takeF 12 (some 6) ?_
   refine wpAnyH_done (by kernel_rfl) ?_ _
   have hz2 : w.heap.size ≤ W0.heap.size := by omega
   refine ⟨W0.heap.size, ?_, HN1.out.put q1 q2 x y, (((HX1.out.cellset (by omega) _ _).cellset (by omega) _ _).cellset (by omega) _ _).cellset (by omega) _ _, (((HB1.out.setCell hz2 _).setCell hz2 _).setCell hz2 _).setCell hz2 _⟩
   generalize W0.heap.size = cb
   rfl
 intro cb w6 ⟨hC6, hX6, hB6⟩
 obtain ⟨p0, ⟨p1, p2, p3, p4⟩, _⟩ := hC6
 have HX6 := hide hX6
 have HB6 := hide hB6
 clear hX6 hB6 HX0 HB0 HS HC
 cases q3 with
 | true =>
  have hh : H = cellN q1 q2 x y := by rw [HH.out]; rfl
  subst hh
  go_wp2_with (first | (with_reducible refine wpl_id ?_; refine wpl_buildN rfl 33 _ rfl (qs := #[(0, .int .i64 2), (2, .agg #[.int .i64 q1, .int .i64 q2, .bool x, .bool y])]) rfl (run_cellN q1 q2 x y _) ?_) | (with_reducible refine wpl_id ?_; refine wpl_store rfl _ _ rfl _ rfl rfl (by ((repeat' (first | with_reducible (first | exact Hid.out (by assumption) | apply Box.set | exact Box.new _ _ | apply Box.other | apply Box.alloc | apply Box.drew | apply Box.drewN) | omega)); done)) rfl ?_))
  refine bodyPost_ret (Box.ret rfl (HX6.out.set _) rfl) rfl ⟨_, _, _, rfl, kv_nil _ _ _ _, ?_⟩
  exact below_set HB6.out (by omega) _
 | false =>
  have hh : H = lostH := by rw [HH.out]; rfl
  subst hh
  go_wp2_with (first | (go_at_call 60; refine (HL.out _).mono ?_; rintro e w7 ⟨rfl, hb7⟩; have HX7 := hide (HX6.out.below hb7); have HB7 := hide (HB6.out.trans (hb7.mono HB6.out.size)); clear hb7 HX6 HB6) | (with_reducible refine wpl_id ?_; refine wpl_store rfl _ _ rfl _ rfl rfl (by ((repeat' (first | with_reducible (first | exact Hid.out (by assumption) | apply Box.set | exact Box.new _ _ | apply Box.other | apply Box.alloc | apply Box.drew | apply Box.drewN) | omega)); done)) rfl ?_))
  refine bodyPost_ret (Box.ret rfl (HX7.out.set _) rfl) rfl ⟨_, _, _, rfl, kv_nil _ _ _ _, ?_⟩
  exact below_set HB7.out (by omega) _
theorem rem_spanG (D : Do) (f1 f2 : Nat) (l1 l2 : Array Value) (E : World → Prop) (G : DoOk D f1 f2 l1 l2 E) (Dm : Nat → Prop) (h : Hd) (k : Fo) (b o : Nat) (w : World) (hD : ∀ c, Dm c → c < w.heap.size) (hr : Row w Dm (.cons h k .nil) b o) (he : E w) (h3 : h.kind = 3) :
  Calls Tryz.prog 32 #[.pointer (some ⟨b, o, none⟩), .agg #[.func (.func f1) #[] l1, .func (.func f2) #[] l2]] w fun e w' => ∃ a n cap, e = .returned (.agg (hdC (remH (D) h) (.slice a n cap)).toArray) ∧ Kv w' (New w w') (.slice a n cap) (remK (D) h k) ∧ Below w.heap.size w w' := by
 have HC : Hid (∀ W : World, Below w.heap.size w W → Calls Tryz.prog f2 (#[.agg #[.int .i64 h.row, .int .i64 h.col, .bool h.fr, .bool h.fc], .agg #[.int .i64 h.row2, .int .i64 h.col2, .bool h.fr2, .bool h.fc2]] ++ l2) W fun e w' => e = .returned (.tuple #[.agg #[.int .i64 (D.s h).1, .int .i64 (D.s h).2.1, .bool h.fr, .bool h.fc], .agg #[.int .i64 (D.s h).2.2.1, .int .i64 (D.s h).2.2.2.1, .bool h.fr2, .bool h.fc2], .bool (D.s h).2.2.2.2]) ∧ Below W.heap.size W w') := fun W hW => dospanG D f1 f2 l1 l2 E G h W (G.below he hW)
 have HL : Hid (∀ W : World, Calls Tryz.prog 60 #[] W fun e w' => e = .returned (.agg (hdC lostH (.slice none 0 0)).toArray) ∧ Below W.heap.size W w') := lost_ans
 obtain ⟨hb, ⟨v, hc, _⟩, _⟩ := row_cons.1 hr
 replace hb := hD b hb
 have hH : remH (D) h = if ((D).s h).2.2.2.2 then rangeN ((D).s h).1 ((D).s h).2.1 h.fr h.fc ((D).s h).2.2.1 ((D).s h).2.2.2.1 h.fr2 h.fc2 else lostH := by unfold remH; rw [if_neg (by omega), if_pos h3]
 have hK : remK (D) h k = .nil := by unfold remK leafB; rw [h3]; rfl
 rw [hH, hK]
 have c0 : w.cell? ⟨b, o, none⟩ = some (.int .i64 3) := by have := hc 0 (by omega); rw [show (hdC h v)[0]? = some (.int .i64 h.kind) from rfl, h3] at this; exact this
 have c6 : w.cell? ⟨b, o + 6, none⟩ = some (.int .i64 h.row) := hc 6 (by omega)
 have c7 : w.cell? ⟨b, o + 7, none⟩ = some (.int .i64 h.col) := hc 7 (by omega)
 have c8 : w.cell? ⟨b, o + 8, none⟩ = some (.bool h.fr) := hc 8 (by omega)
 have c9 : w.cell? ⟨b, o + 9, none⟩ = some (.bool h.fc) := hc 9 (by omega)
 have d6 : w.cell? ⟨b, o + 10, none⟩ = some (.int .i64 h.row2) := hc 10 (by omega)
 have d7 : w.cell? ⟨b, o + 11, none⟩ = some (.int .i64 h.col2) := hc 11 (by omega)
 have d8 : w.cell? ⟨b, o + 12, none⟩ = some (.bool h.fr2) := hc 12 (by omega)
 have d9 : w.cell? ⟨b, o + 13, none⟩ = some (.bool h.fc2) := hc 13 (by omega)
 have hb1 : b < w.heap.size + 1 := by omega
 generalize (D).s h = q at *
 obtain ⟨q1, q2, q4, q5, q3⟩ := q
 dsimp only at HC ⊢
 generalize h.row = r at *
 generalize h.col = c at *
 generalize h.fr = x at *
 generalize h.fc = y at *
 generalize h.row2 = r2 at *
 generalize h.col2 = c2 at *
 generalize h.fr2 = x2 at *
 generalize h.fc2 = y2 at *
 obtain ⟨H, hHe⟩ : ∃ H, H = if q3 = true then rangeN q1 q2 x y q4 q5 x2 y2 else lostH := ⟨_, rfl⟩
 rw [← hHe]
 have HH := hide hHe
 clear hHe
 have HX : Hid (Box ((w.alloc (.cells #[.func (.func f1) #[] l1, .func (.func f2) #[] l2] 78)).alloc (.cells (hdC zh (.slice none 0 0)).toArray 33)) (w.heap.size + 1) (hdC zh (.slice none 0 0))) := by
  have := Box.new (w.alloc (.cells #[.func (.func f1) #[] l1, .func (.func f2) #[] l2] 78)) (hdC zh (.slice none 0 0))
  rw [World.size_alloc] at this
  exact this
 have HB := hide (((Below.refl _ w).alloc (Nat.le_refl _) (.cells #[.func (.func f1) #[] l1, .func (.func f2) #[] l2] 78)).alloc (by simp) (.cells (hdC zh (.slice none 0 0)).toArray 33))
 clear hH hK hc hr hD h3 he
 obtain ⟨W0, hW0⟩ : ∃ W0 : World, W0 = ((w.alloc (.cells #[.func (.func f1) #[] l1, .func (.func f2) #[] l2] 78)).alloc (.cells (hdC zh (.slice none 0 0)).toArray 33)) := ⟨_, rfl⟩
 have HS : Hid (∀ W : World, Below W0.heap.size W0 W → W.cell? ⟨w.heap.size, 1, none⟩ = some (.func (.func f2) #[] l2) ∧ W.cell? ⟨b, o + 6, none⟩ = some (.int .i64 r) ∧ W.cell? ⟨b, o + 6 + 1, none⟩ = some (.int .i64 c) ∧ W.cell? ⟨b, o + 6 + 2, none⟩ = some (.bool x) ∧ W.cell? ⟨b, o + 6 + 3, none⟩ = some (.bool y) ∧ W.cell? ⟨b, o + 10, none⟩ = some (.int .i64 r2) ∧ W.cell? ⟨b, o + 10 + 1, none⟩ = some (.int .i64 c2) ∧ W.cell? ⟨b, o + 10 + 2, none⟩ = some (.bool x2) ∧ W.cell? ⟨b, o + 10 + 3, none⟩ = some (.bool y2)) := fun W hW => by
  have hB0 : Below w.heap.size w W0 := by rw [hW0]; exact HB.out
  have hw := hB0.trans (hW.mono hB0.size)
  have hd : W0.cell? ⟨w.heap.size, 1, none⟩ = some (.func (.func f2) #[] l2) := by rw [hW0]; simp [go_sem]
  have hs : w.heap.size < W0.heap.size := by rw [hW0]; simp; omega
  exact ⟨(hW.cell (p := ⟨w.heap.size, 1, none⟩) hs).trans hd, (hw.cell (p := ⟨b, o + 6, none⟩) hb).trans c6, (hw.cell (p := ⟨b, o + 6 + 1, none⟩) hb).trans c7, (hw.cell (p := ⟨b, o + 6 + 2, none⟩) hb).trans c8, (hw.cell (p := ⟨b, o + 6 + 3, none⟩) hb).trans c9, (hw.cell (p := ⟨b, o + 10, none⟩) hb).trans d6, (hw.cell (p := ⟨b, o + 10 + 1, none⟩) hb).trans d7, (hw.cell (p := ⟨b, o + 10 + 2, none⟩) hb).trans d8, (hw.cell (p := ⟨b, o + 10 + 3, none⟩) hb).trans d9⟩
 go_enter Tryz.func32, Tryz.ntmps32
 go_wp2_with fail
 refine wp_at (W0 := W0) hW0 ?_
 have HX0 : Hid (Box W0 (w.heap.size + 1) (hdC zh (.slice none 0 0))) := by rw [hW0]; exact HX.out
 have HB0 : Hid (Below w.heap.size w W0) := by rw [hW0]; exact HB.out
 have hz : w.heap.size + 1 < W0.heap.size := HX0.out.lt
 clear hW0 HX HB c0 c6 c7 c8 c9 d6 d7 d8 d9
 apply wp_cutT2 (F := fun A B w' => CelAt w' A q1 q2 x y ∧ CelAt w' B q4 q5 x2 y2 ∧ Box w' (w.heap.size + 1) (hdC zh (.slice none 0 0)) ∧ Below w.heap.size w w')
 case hr =>
  refine wp_region_held_drew (S := fun W => W.cell? ⟨w.heap.size, 1, none⟩ = some (.func (.func f2) #[] l2) ∧ W.cell? ⟨b, o + 6, none⟩ = some (.int .i64 r) ∧ W.cell? ⟨b, o + 6 + 1, none⟩ = some (.int .i64 c) ∧ W.cell? ⟨b, o + 6 + 2, none⟩ = some (.bool x) ∧ W.cell? ⟨b, o + 6 + 3, none⟩ = some (.bool y) ∧ W.cell? ⟨b, o + 10, none⟩ = some (.int .i64 r2) ∧ W.cell? ⟨b, o + 10 + 1, none⟩ = some (.int .i64 c2) ∧ W.cell? ⟨b, o + 10 + 2, none⟩ = some (.bool x2) ∧ W.cell? ⟨b, o + 10 + 3, none⟩ = some (.bool y2)) (by kernel_rfl) (HS.out _ (below_drew0 W0)) (fun hHeld => ?_)
  have HXWd : Hid (Box W0.drew (w.heap.size + 1) (hdC zh (.slice none 0 0))) := HX0.out
  have HBWd : Hid (Below W0.heap.size W0 W0.drew) := below_drew0 W0
  generalize W0.drew = Wd at *
  refine takeF 0 (some 33) ?_; refine takeF 1 (some 34) ?_; refine takeF 2 (some 35) ?_; refine takeF 3 (some 36) ?_; refine takeF 4 (some 37) ?_; refine takeF 5 (some 38) ?_; refine takeF 6 (some 39) ?_; refine takeF 7 (some 40) ?_; refine takeF 8 (some 41) ?_; refine takeF 9 (some 42) ?_
  refine wpAnyH_ready (rs := [10, 15, 16]) (by kernel_rfl) (by simp) ?_
  refine (AllReadyH.cons (o := _) rfl (fun K hK => ?_) (AllReadyH.cons (o := _) rfl (fun K hK => ?_) (AllReadyH.cons (o := _) rfl (fun K hK => ?_) AllReadyH.nil)))
  ·
   go_simp
   (rw [G.r2, Oper.upon_enter]; refine (HC.out _ (HB0.out.trans (HBWd.out.mono HB0.out.size))).mono ?_; rintro e Y1 ⟨rfl, hb2⟩; have HBY1 := hide (HBWd.out.trans (hb2.mono HBWd.out.size)); have HXY1 := hide (HXWd.out.below hb2); clear hb2)
   refine hK.out _ _ (HS.out _ HBY1.out) (fun hHeld => ?_)
   clear hK K
   try simp only [Act.put, pA, pB, pC]
   refine takeF 11 (some 32) ?_; refine takeF 12 (some 44) ?_; refine takeF 13 (some 45) ?_; refine takeF 14 (some 46) ?_
   refine wpAnyH_ready (rs := [15, 16]) (by kernel_rfl) (by simp) ?_
   refine (AllReadyH.cons (o := _) rfl (fun K hK => ?_) (AllReadyH.cons (o := _) rfl (fun K hK => ?_) AllReadyH.nil))
   ·
    go_simp
    refine hK.out _ _ (HS.out _ (HBY1.out.alloc HBY1.out.size _)) (fun hHeld => ?_)
    clear hK K
    try simp only [Act.put, pA, pB, pC]
    obtain ⟨Y2, hY2⟩ : ∃ Y2 : World, Y2 = Y1.alloc (.cells #[.int .i64 0, .int .i64 0, .bool false, .bool false] 30) := ⟨_, rfl⟩
    obtain ⟨A, hA⟩ : ∃ A : Nat, A = Y1.heap.size := ⟨_, rfl⟩
    rw [← hY2, ← hA]
    have HBY2 : Hid (Below W0.heap.size W0 Y2) := by rw [hY2]; exact HBY1.out.alloc HBY1.out.size _
    have HXY2 : Hid (Box Y2 (w.heap.size + 1) (hdC zh (.slice none 0 0))) := by rw [hY2]; exact HXY1.out.alloc _
    have HNAY2 : Hid (CelAt Y2 A 0 0 false false) := by rw [hY2, hA]; exact CelAt.new Y1 0 0 false false _
    have geA : W0.heap.size ≤ A := by rw [hA]; exact HBY1.out.size
    clear hY2 hA
    refine wpAnyH_ready (rs := [16]) (by kernel_rfl) (by simp) ?_
    refine (AllReadyH.cons (o := _) rfl (fun K hK => ?_) AllReadyH.nil)
    ·
     go_simp
     refine hK.out _ _ (HS.out _ (HBY2.out.alloc HBY2.out.size _)) (fun hHeld => ?_)
     clear hK K
     try simp only [Act.put, pA, pB, pC]
     obtain ⟨Y3, hY3⟩ : ∃ Y3 : World, Y3 = Y2.alloc (.cells #[.int .i64 0, .int .i64 0, .bool false, .bool false] 30) := ⟨_, rfl⟩
     obtain ⟨B, hB⟩ : ∃ B : Nat, B = Y2.heap.size := ⟨_, rfl⟩
     rw [← hY3, ← hB]
     have HBY3 : Hid (Below W0.heap.size W0 Y3) := by rw [hY3]; exact HBY2.out.alloc HBY2.out.size _
     have HXY3 : Hid (Box Y3 (w.heap.size + 1) (hdC zh (.slice none 0 0))) := by rw [hY3]; exact HXY2.out.alloc _
     have HNBY3 : Hid (CelAt Y3 B 0 0 false false) := by rw [hY3, hB]; exact CelAt.new Y2 0 0 false false _
     have geB : W0.heap.size ≤ B := by rw [hB]; exact HBY2.out.size
     have HNAY3 : Hid (CelAt Y3 A 0 0 false false) := by rw [hY3]; exact HNAY2.out.alloc _
     have neAB : A ≠ B := by have := HNAY2.out.1; omega
     clear hY3 hB
     have hAB : A ≠ B := neAB
     have gw : w.heap.size + 1 ≠ A := by omega
     have gv : w.heap.size + 1 ≠ B := by omega
     obtain ⟨p0, ⟨p1, p2, p3, p4⟩, p5, p6, p7, p8⟩ := HNAY3.out
     refine wpAnyH_ready (rs := [17]) (by kernel_rfl) (by simp) ?_
     refine AllReadyH.cons (o := _) rfl (fun K hK => ?_) AllReadyH.nil
     go_simp
     refine hK.out _ _ (HS.out _ ((((HBY3.out.setCell geA _).setCell geA _).setCell geA _).setCell geA _)) (fun hHeld => ?_)
     clear hK K
     try simp only [Act.put, pA, pB, pC]
     obtain ⟨Z1, hZ1⟩ : ∃ Z1 : World, Z1 = ((((Y3.setCell ⟨A, 0, none⟩ (.int .i64 q1)).setCell ⟨A, 1, none⟩ (.int .i64 q2)).setCell ⟨A, 2, none⟩ (.bool x)).setCell ⟨A, 3, none⟩ (.bool y)) := ⟨_, rfl⟩
     rw [← hZ1]
     have HBZ1 : Hid (Below W0.heap.size W0 Z1) := by rw [hZ1]; exact (((HBY3.out.setCell geA _).setCell geA _).setCell geA _).setCell geA _
     have HXZ1 : Hid (Box Z1 (w.heap.size + 1) (hdC zh (.slice none 0 0))) := by rw [hZ1]; exact (((HXY3.out.cellset gw _ _).cellset gw _ _).cellset gw _ _).cellset gw _ _
     have HNAZ1 : Hid (CelAt Z1 A q1 q2 x y) := by rw [hZ1]; exact HNAY3.out.put q1 q2 x y
     have HNBZ1 := hide (show CelAt Z1 B _ _ _ _ from (by rw [hZ1]; exact (((HNBY3.out.set hAB.symm _ _).set hAB.symm _ _).set hAB.symm _ _).set hAB.symm _ _))
     clear hZ1 p0 p1 p2 p3 p4 p5 p6 p7 p8
     obtain ⟨p0, ⟨p1, p2, p3, p4⟩, p5, p6, p7, p8⟩ := HNBZ1.out
     refine wpAnyH_ready (rs := [18]) (by kernel_rfl) (by simp) ?_
     refine AllReadyH.cons (o := _) rfl (fun K hK => ?_) AllReadyH.nil
     go_simp
     refine hK.out _ _ (HS.out _ ((((HBZ1.out.setCell geB _).setCell geB _).setCell geB _).setCell geB _)) (fun hHeld => ?_)
     clear hK K
     try simp only [Act.put, pA, pB, pC]
     obtain ⟨Z2, hZ2⟩ : ∃ Z2 : World, Z2 = ((((Z1.setCell ⟨B, 0, none⟩ (.int .i64 q4)).setCell ⟨B, 1, none⟩ (.int .i64 q5)).setCell ⟨B, 2, none⟩ (.bool x2)).setCell ⟨B, 3, none⟩ (.bool y2)) := ⟨_, rfl⟩
     rw [← hZ2]
     have HBZ2 : Hid (Below W0.heap.size W0 Z2) := by rw [hZ2]; exact (((HBZ1.out.setCell geB _).setCell geB _).setCell geB _).setCell geB _
     have HXZ2 : Hid (Box Z2 (w.heap.size + 1) (hdC zh (.slice none 0 0))) := by rw [hZ2]; exact (((HXZ1.out.cellset gv _ _).cellset gv _ _).cellset gv _ _).cellset gv _ _
     have HNBZ2 : Hid (CelAt Z2 B q4 q5 x2 y2) := by rw [hZ2]; exact HNBZ1.out.put q4 q5 x2 y2
     have HNAZ2 := hide (show CelAt Z2 A _ _ _ _ from (by rw [hZ2]; exact (((HNAZ1.out.set hAB _ _).set hAB _ _).set hAB _ _).set hAB _ _))
     clear hZ2 p0 p1 p2 p3 p4 p5 p6 p7 p8
     have hHeld := HS.out _ HBZ2.out
     refine takeF 19 (some 9) ?_
     refine wpAnyH_done (by kernel_rfl) ?_ _
     exact ⟨A, B, rfl, HNAZ2.out, HNBZ2.out, HXZ2.out, HB0.out.trans (HBZ2.out.mono HB0.out.size)⟩
   ·
    go_simp
    refine hK.out _ _ (HS.out _ (HBY1.out.alloc HBY1.out.size _)) (fun hHeld => ?_)
    clear hK K
    try simp only [Act.put, pA, pB, pC]
    obtain ⟨Y4, hY4⟩ : ∃ Y4 : World, Y4 = Y1.alloc (.cells #[.int .i64 0, .int .i64 0, .bool false, .bool false] 30) := ⟨_, rfl⟩
    obtain ⟨B, hB⟩ : ∃ B : Nat, B = Y1.heap.size := ⟨_, rfl⟩
    rw [← hY4, ← hB]
    have HBY4 : Hid (Below W0.heap.size W0 Y4) := by rw [hY4]; exact HBY1.out.alloc HBY1.out.size _
    have HXY4 : Hid (Box Y4 (w.heap.size + 1) (hdC zh (.slice none 0 0))) := by rw [hY4]; exact HXY1.out.alloc _
    have HNBY4 : Hid (CelAt Y4 B 0 0 false false) := by rw [hY4, hB]; exact CelAt.new Y1 0 0 false false _
    have geB : W0.heap.size ≤ B := by rw [hB]; exact HBY1.out.size
    clear hY4 hB
    refine wpAnyH_ready (rs := [15]) (by kernel_rfl) (by simp) ?_
    refine (AllReadyH.cons (o := _) rfl (fun K hK => ?_) AllReadyH.nil)
    ·
     go_simp
     refine hK.out _ _ (HS.out _ (HBY4.out.alloc HBY4.out.size _)) (fun hHeld => ?_)
     clear hK K
     try simp only [Act.put, pA, pB, pC]
     obtain ⟨Y5, hY5⟩ : ∃ Y5 : World, Y5 = Y4.alloc (.cells #[.int .i64 0, .int .i64 0, .bool false, .bool false] 30) := ⟨_, rfl⟩
     obtain ⟨A, hA⟩ : ∃ A : Nat, A = Y4.heap.size := ⟨_, rfl⟩
     rw [← hY5, ← hA]
     have HBY5 : Hid (Below W0.heap.size W0 Y5) := by rw [hY5]; exact HBY4.out.alloc HBY4.out.size _
     have HXY5 : Hid (Box Y5 (w.heap.size + 1) (hdC zh (.slice none 0 0))) := by rw [hY5]; exact HXY4.out.alloc _
     have HNAY5 : Hid (CelAt Y5 A 0 0 false false) := by rw [hY5, hA]; exact CelAt.new Y4 0 0 false false _
     have geA : W0.heap.size ≤ A := by rw [hA]; exact HBY4.out.size
     have HNBY5 : Hid (CelAt Y5 B 0 0 false false) := by rw [hY5]; exact HNBY4.out.alloc _
     have neBA : B ≠ A := by have := HNBY4.out.1; omega
     clear hY5 hA
     have hAB : A ≠ B := neBA.symm
     have gw : w.heap.size + 1 ≠ A := by omega
     have gv : w.heap.size + 1 ≠ B := by omega
     obtain ⟨p0, ⟨p1, p2, p3, p4⟩, p5, p6, p7, p8⟩ := HNAY5.out
     refine wpAnyH_ready (rs := [17]) (by kernel_rfl) (by simp) ?_
     refine AllReadyH.cons (o := _) rfl (fun K hK => ?_) AllReadyH.nil
     go_simp
     refine hK.out _ _ (HS.out _ ((((HBY5.out.setCell geA _).setCell geA _).setCell geA _).setCell geA _)) (fun hHeld => ?_)
     clear hK K
     try simp only [Act.put, pA, pB, pC]
     obtain ⟨Z1, hZ1⟩ : ∃ Z1 : World, Z1 = ((((Y5.setCell ⟨A, 0, none⟩ (.int .i64 q1)).setCell ⟨A, 1, none⟩ (.int .i64 q2)).setCell ⟨A, 2, none⟩ (.bool x)).setCell ⟨A, 3, none⟩ (.bool y)) := ⟨_, rfl⟩
     rw [← hZ1]
     have HBZ1 : Hid (Below W0.heap.size W0 Z1) := by rw [hZ1]; exact (((HBY5.out.setCell geA _).setCell geA _).setCell geA _).setCell geA _
     have HXZ1 : Hid (Box Z1 (w.heap.size + 1) (hdC zh (.slice none 0 0))) := by rw [hZ1]; exact (((HXY5.out.cellset gw _ _).cellset gw _ _).cellset gw _ _).cellset gw _ _
     have HNAZ1 : Hid (CelAt Z1 A q1 q2 x y) := by rw [hZ1]; exact HNAY5.out.put q1 q2 x y
     have HNBZ1 := hide (show CelAt Z1 B _ _ _ _ from (by rw [hZ1]; exact (((HNBY5.out.set hAB.symm _ _).set hAB.symm _ _).set hAB.symm _ _).set hAB.symm _ _))
     clear hZ1 p0 p1 p2 p3 p4 p5 p6 p7 p8
     obtain ⟨p0, ⟨p1, p2, p3, p4⟩, p5, p6, p7, p8⟩ := HNBZ1.out
     refine wpAnyH_ready (rs := [18]) (by kernel_rfl) (by simp) ?_
     refine AllReadyH.cons (o := _) rfl (fun K hK => ?_) AllReadyH.nil
     go_simp
     refine hK.out _ _ (HS.out _ ((((HBZ1.out.setCell geB _).setCell geB _).setCell geB _).setCell geB _)) (fun hHeld => ?_)
     clear hK K
     try simp only [Act.put, pA, pB, pC]
     obtain ⟨Z2, hZ2⟩ : ∃ Z2 : World, Z2 = ((((Z1.setCell ⟨B, 0, none⟩ (.int .i64 q4)).setCell ⟨B, 1, none⟩ (.int .i64 q5)).setCell ⟨B, 2, none⟩ (.bool x2)).setCell ⟨B, 3, none⟩ (.bool y2)) := ⟨_, rfl⟩
     rw [← hZ2]
     have HBZ2 : Hid (Below W0.heap.size W0 Z2) := by rw [hZ2]; exact (((HBZ1.out.setCell geB _).setCell geB _).setCell geB _).setCell geB _
     have HXZ2 : Hid (Box Z2 (w.heap.size + 1) (hdC zh (.slice none 0 0))) := by rw [hZ2]; exact (((HXZ1.out.cellset gv _ _).cellset gv _ _).cellset gv _ _).cellset gv _ _
     have HNBZ2 : Hid (CelAt Z2 B q4 q5 x2 y2) := by rw [hZ2]; exact HNBZ1.out.put q4 q5 x2 y2
     have HNAZ2 := hide (show CelAt Z2 A _ _ _ _ from (by rw [hZ2]; exact (((HNAZ1.out.set hAB _ _).set hAB _ _).set hAB _ _).set hAB _ _))
     clear hZ2 p0 p1 p2 p3 p4 p5 p6 p7 p8
     have hHeld := HS.out _ HBZ2.out
     refine takeF 19 (some 9) ?_
     refine wpAnyH_done (by kernel_rfl) ?_ _
     exact ⟨A, B, rfl, HNAZ2.out, HNBZ2.out, HXZ2.out, HB0.out.trans (HBZ2.out.mono HB0.out.size)⟩
  ·
   go_simp
   refine hK.out _ _ (HS.out _ (HBWd.out.alloc HBWd.out.size _)) (fun hHeld => ?_)
   clear hK K
   try simp only [Act.put, pA, pB, pC]
   obtain ⟨Y6, hY6⟩ : ∃ Y6 : World, Y6 = Wd.alloc (.cells #[.int .i64 0, .int .i64 0, .bool false, .bool false] 30) := ⟨_, rfl⟩
   obtain ⟨A, hA⟩ : ∃ A : Nat, A = Wd.heap.size := ⟨_, rfl⟩
   rw [← hY6, ← hA]
   have HBY6 : Hid (Below W0.heap.size W0 Y6) := by rw [hY6]; exact HBWd.out.alloc HBWd.out.size _
   have HXY6 : Hid (Box Y6 (w.heap.size + 1) (hdC zh (.slice none 0 0))) := by rw [hY6]; exact HXWd.out.alloc _
   have HNAY6 : Hid (CelAt Y6 A 0 0 false false) := by rw [hY6, hA]; exact CelAt.new Wd 0 0 false false _
   have geA : W0.heap.size ≤ A := by rw [hA]; exact HBWd.out.size
   clear hY6 hA
   refine wpAnyH_ready (rs := [10, 16]) (by kernel_rfl) (by simp) ?_
   refine (AllReadyH.cons (o := _) rfl (fun K hK => ?_) (AllReadyH.cons (o := _) rfl (fun K hK => ?_) AllReadyH.nil))
   ·
    go_simp
    (rw [G.r2, Oper.upon_enter]; refine (HC.out _ (HB0.out.trans (HBY6.out.mono HB0.out.size))).mono ?_; rintro e Y7 ⟨rfl, hb2⟩; have HBY7 := hide (HBY6.out.trans (hb2.mono HBY6.out.size)); have HXY7 := hide (HXY6.out.below hb2); have HNAY7 := hide (HNAY6.out.below hb2); clear hb2)
    refine hK.out _ _ (HS.out _ HBY7.out) (fun hHeld => ?_)
    clear hK K
    try simp only [Act.put, pA, pB, pC]
    refine takeF 11 (some 32) ?_; refine takeF 12 (some 44) ?_; refine takeF 13 (some 45) ?_; refine takeF 14 (some 46) ?_
    refine wpAnyH_ready (rs := [16]) (by kernel_rfl) (by simp) ?_
    refine (AllReadyH.cons (o := _) rfl (fun K hK => ?_) AllReadyH.nil)
    ·
     go_simp
     refine hK.out _ _ (HS.out _ (HBY7.out.alloc HBY7.out.size _)) (fun hHeld => ?_)
     clear hK K
     try simp only [Act.put, pA, pB, pC]
     obtain ⟨Y8, hY8⟩ : ∃ Y8 : World, Y8 = Y7.alloc (.cells #[.int .i64 0, .int .i64 0, .bool false, .bool false] 30) := ⟨_, rfl⟩
     obtain ⟨B, hB⟩ : ∃ B : Nat, B = Y7.heap.size := ⟨_, rfl⟩
     rw [← hY8, ← hB]
     have HBY8 : Hid (Below W0.heap.size W0 Y8) := by rw [hY8]; exact HBY7.out.alloc HBY7.out.size _
     have HXY8 : Hid (Box Y8 (w.heap.size + 1) (hdC zh (.slice none 0 0))) := by rw [hY8]; exact HXY7.out.alloc _
     have HNBY8 : Hid (CelAt Y8 B 0 0 false false) := by rw [hY8, hB]; exact CelAt.new Y7 0 0 false false _
     have geB : W0.heap.size ≤ B := by rw [hB]; exact HBY7.out.size
     have HNAY8 : Hid (CelAt Y8 A 0 0 false false) := by rw [hY8]; exact HNAY7.out.alloc _
     have neAB : A ≠ B := by have := HNAY7.out.1; omega
     clear hY8 hB
     have hAB : A ≠ B := neAB
     have gw : w.heap.size + 1 ≠ A := by omega
     have gv : w.heap.size + 1 ≠ B := by omega
     obtain ⟨p0, ⟨p1, p2, p3, p4⟩, p5, p6, p7, p8⟩ := HNAY8.out
     refine wpAnyH_ready (rs := [17]) (by kernel_rfl) (by simp) ?_
     refine AllReadyH.cons (o := _) rfl (fun K hK => ?_) AllReadyH.nil
     go_simp
     refine hK.out _ _ (HS.out _ ((((HBY8.out.setCell geA _).setCell geA _).setCell geA _).setCell geA _)) (fun hHeld => ?_)
     clear hK K
     try simp only [Act.put, pA, pB, pC]
     obtain ⟨Z1, hZ1⟩ : ∃ Z1 : World, Z1 = ((((Y8.setCell ⟨A, 0, none⟩ (.int .i64 q1)).setCell ⟨A, 1, none⟩ (.int .i64 q2)).setCell ⟨A, 2, none⟩ (.bool x)).setCell ⟨A, 3, none⟩ (.bool y)) := ⟨_, rfl⟩
     rw [← hZ1]
     have HBZ1 : Hid (Below W0.heap.size W0 Z1) := by rw [hZ1]; exact (((HBY8.out.setCell geA _).setCell geA _).setCell geA _).setCell geA _
     have HXZ1 : Hid (Box Z1 (w.heap.size + 1) (hdC zh (.slice none 0 0))) := by rw [hZ1]; exact (((HXY8.out.cellset gw _ _).cellset gw _ _).cellset gw _ _).cellset gw _ _
     have HNAZ1 : Hid (CelAt Z1 A q1 q2 x y) := by rw [hZ1]; exact HNAY8.out.put q1 q2 x y
     have HNBZ1 := hide (show CelAt Z1 B _ _ _ _ from (by rw [hZ1]; exact (((HNBY8.out.set hAB.symm _ _).set hAB.symm _ _).set hAB.symm _ _).set hAB.symm _ _))
     clear hZ1 p0 p1 p2 p3 p4 p5 p6 p7 p8
     obtain ⟨p0, ⟨p1, p2, p3, p4⟩, p5, p6, p7, p8⟩ := HNBZ1.out
     refine wpAnyH_ready (rs := [18]) (by kernel_rfl) (by simp) ?_
     refine AllReadyH.cons (o := _) rfl (fun K hK => ?_) AllReadyH.nil
     go_simp
     refine hK.out _ _ (HS.out _ ((((HBZ1.out.setCell geB _).setCell geB _).setCell geB _).setCell geB _)) (fun hHeld => ?_)
     clear hK K
     try simp only [Act.put, pA, pB, pC]
     obtain ⟨Z2, hZ2⟩ : ∃ Z2 : World, Z2 = ((((Z1.setCell ⟨B, 0, none⟩ (.int .i64 q4)).setCell ⟨B, 1, none⟩ (.int .i64 q5)).setCell ⟨B, 2, none⟩ (.bool x2)).setCell ⟨B, 3, none⟩ (.bool y2)) := ⟨_, rfl⟩
     rw [← hZ2]
     have HBZ2 : Hid (Below W0.heap.size W0 Z2) := by rw [hZ2]; exact (((HBZ1.out.setCell geB _).setCell geB _).setCell geB _).setCell geB _
     have HXZ2 : Hid (Box Z2 (w.heap.size + 1) (hdC zh (.slice none 0 0))) := by rw [hZ2]; exact (((HXZ1.out.cellset gv _ _).cellset gv _ _).cellset gv _ _).cellset gv _ _
     have HNBZ2 : Hid (CelAt Z2 B q4 q5 x2 y2) := by rw [hZ2]; exact HNBZ1.out.put q4 q5 x2 y2
     have HNAZ2 := hide (show CelAt Z2 A _ _ _ _ from (by rw [hZ2]; exact (((HNAZ1.out.set hAB _ _).set hAB _ _).set hAB _ _).set hAB _ _))
     clear hZ2 p0 p1 p2 p3 p4 p5 p6 p7 p8
     have hHeld := HS.out _ HBZ2.out
     refine takeF 19 (some 9) ?_
     refine wpAnyH_done (by kernel_rfl) ?_ _
     exact ⟨A, B, rfl, HNAZ2.out, HNBZ2.out, HXZ2.out, HB0.out.trans (HBZ2.out.mono HB0.out.size)⟩
   ·
    go_simp
    refine hK.out _ _ (HS.out _ (HBY6.out.alloc HBY6.out.size _)) (fun hHeld => ?_)
    clear hK K
    try simp only [Act.put, pA, pB, pC]
    obtain ⟨Y9, hY9⟩ : ∃ Y9 : World, Y9 = Y6.alloc (.cells #[.int .i64 0, .int .i64 0, .bool false, .bool false] 30) := ⟨_, rfl⟩
    obtain ⟨B, hB⟩ : ∃ B : Nat, B = Y6.heap.size := ⟨_, rfl⟩
    rw [← hY9, ← hB]
    have HBY9 : Hid (Below W0.heap.size W0 Y9) := by rw [hY9]; exact HBY6.out.alloc HBY6.out.size _
    have HXY9 : Hid (Box Y9 (w.heap.size + 1) (hdC zh (.slice none 0 0))) := by rw [hY9]; exact HXY6.out.alloc _
    have HNBY9 : Hid (CelAt Y9 B 0 0 false false) := by rw [hY9, hB]; exact CelAt.new Y6 0 0 false false _
    have geB : W0.heap.size ≤ B := by rw [hB]; exact HBY6.out.size
    have HNAY9 : Hid (CelAt Y9 A 0 0 false false) := by rw [hY9]; exact HNAY6.out.alloc _
    have neAB : A ≠ B := by have := HNAY6.out.1; omega
    clear hY9 hB
    refine wpAnyH_ready (rs := [10]) (by kernel_rfl) (by simp) ?_
    refine (AllReadyH.cons (o := _) rfl (fun K hK => ?_) AllReadyH.nil)
    ·
     go_simp
     (rw [G.r2, Oper.upon_enter]; refine (HC.out _ (HB0.out.trans (HBY9.out.mono HB0.out.size))).mono ?_; rintro e Y10 ⟨rfl, hb2⟩; have HBY10 := hide (HBY9.out.trans (hb2.mono HBY9.out.size)); have HXY10 := hide (HXY9.out.below hb2); have HNAY10 := hide (HNAY9.out.below hb2); have HNBY10 := hide (HNBY9.out.below hb2); clear hb2)
     refine hK.out _ _ (HS.out _ HBY10.out) (fun hHeld => ?_)
     clear hK K
     try simp only [Act.put, pA, pB, pC]
     refine takeF 11 (some 32) ?_; refine takeF 12 (some 44) ?_; refine takeF 13 (some 45) ?_; refine takeF 14 (some 46) ?_
     have hAB : A ≠ B := neAB
     have gw : w.heap.size + 1 ≠ A := by omega
     have gv : w.heap.size + 1 ≠ B := by omega
     obtain ⟨p0, ⟨p1, p2, p3, p4⟩, p5, p6, p7, p8⟩ := HNAY10.out
     refine wpAnyH_ready (rs := [17]) (by kernel_rfl) (by simp) ?_
     refine AllReadyH.cons (o := _) rfl (fun K hK => ?_) AllReadyH.nil
     go_simp
     refine hK.out _ _ (HS.out _ ((((HBY10.out.setCell geA _).setCell geA _).setCell geA _).setCell geA _)) (fun hHeld => ?_)
     clear hK K
     try simp only [Act.put, pA, pB, pC]
     obtain ⟨Z1, hZ1⟩ : ∃ Z1 : World, Z1 = ((((Y10.setCell ⟨A, 0, none⟩ (.int .i64 q1)).setCell ⟨A, 1, none⟩ (.int .i64 q2)).setCell ⟨A, 2, none⟩ (.bool x)).setCell ⟨A, 3, none⟩ (.bool y)) := ⟨_, rfl⟩
     rw [← hZ1]
     have HBZ1 : Hid (Below W0.heap.size W0 Z1) := by rw [hZ1]; exact (((HBY10.out.setCell geA _).setCell geA _).setCell geA _).setCell geA _
     have HXZ1 : Hid (Box Z1 (w.heap.size + 1) (hdC zh (.slice none 0 0))) := by rw [hZ1]; exact (((HXY10.out.cellset gw _ _).cellset gw _ _).cellset gw _ _).cellset gw _ _
     have HNAZ1 : Hid (CelAt Z1 A q1 q2 x y) := by rw [hZ1]; exact HNAY10.out.put q1 q2 x y
     have HNBZ1 := hide (show CelAt Z1 B _ _ _ _ from (by rw [hZ1]; exact (((HNBY10.out.set hAB.symm _ _).set hAB.symm _ _).set hAB.symm _ _).set hAB.symm _ _))
     clear hZ1 p0 p1 p2 p3 p4 p5 p6 p7 p8
     obtain ⟨p0, ⟨p1, p2, p3, p4⟩, p5, p6, p7, p8⟩ := HNBZ1.out
     refine wpAnyH_ready (rs := [18]) (by kernel_rfl) (by simp) ?_
     refine AllReadyH.cons (o := _) rfl (fun K hK => ?_) AllReadyH.nil
     go_simp
     refine hK.out _ _ (HS.out _ ((((HBZ1.out.setCell geB _).setCell geB _).setCell geB _).setCell geB _)) (fun hHeld => ?_)
     clear hK K
     try simp only [Act.put, pA, pB, pC]
     obtain ⟨Z2, hZ2⟩ : ∃ Z2 : World, Z2 = ((((Z1.setCell ⟨B, 0, none⟩ (.int .i64 q4)).setCell ⟨B, 1, none⟩ (.int .i64 q5)).setCell ⟨B, 2, none⟩ (.bool x2)).setCell ⟨B, 3, none⟩ (.bool y2)) := ⟨_, rfl⟩
     rw [← hZ2]
     have HBZ2 : Hid (Below W0.heap.size W0 Z2) := by rw [hZ2]; exact (((HBZ1.out.setCell geB _).setCell geB _).setCell geB _).setCell geB _
     have HXZ2 : Hid (Box Z2 (w.heap.size + 1) (hdC zh (.slice none 0 0))) := by rw [hZ2]; exact (((HXZ1.out.cellset gv _ _).cellset gv _ _).cellset gv _ _).cellset gv _ _
     have HNBZ2 : Hid (CelAt Z2 B q4 q5 x2 y2) := by rw [hZ2]; exact HNBZ1.out.put q4 q5 x2 y2
     have HNAZ2 := hide (show CelAt Z2 A _ _ _ _ from (by rw [hZ2]; exact (((HNAZ1.out.set hAB _ _).set hAB _ _).set hAB _ _).set hAB _ _))
     clear hZ2 p0 p1 p2 p3 p4 p5 p6 p7 p8
     have hHeld := HS.out _ HBZ2.out
     refine takeF 19 (some 9) ?_
     refine wpAnyH_done (by kernel_rfl) ?_ _
     exact ⟨A, B, rfl, HNAZ2.out, HNBZ2.out, HXZ2.out, HB0.out.trans (HBZ2.out.mono HB0.out.size)⟩
  ·
   go_simp
   refine hK.out _ _ (HS.out _ (HBWd.out.alloc HBWd.out.size _)) (fun hHeld => ?_)
   clear hK K
   try simp only [Act.put, pA, pB, pC]
   obtain ⟨Y11, hY11⟩ : ∃ Y11 : World, Y11 = Wd.alloc (.cells #[.int .i64 0, .int .i64 0, .bool false, .bool false] 30) := ⟨_, rfl⟩
   obtain ⟨B, hB⟩ : ∃ B : Nat, B = Wd.heap.size := ⟨_, rfl⟩
   rw [← hY11, ← hB]
   have HBY11 : Hid (Below W0.heap.size W0 Y11) := by rw [hY11]; exact HBWd.out.alloc HBWd.out.size _
   have HXY11 : Hid (Box Y11 (w.heap.size + 1) (hdC zh (.slice none 0 0))) := by rw [hY11]; exact HXWd.out.alloc _
   have HNBY11 : Hid (CelAt Y11 B 0 0 false false) := by rw [hY11, hB]; exact CelAt.new Wd 0 0 false false _
   have geB : W0.heap.size ≤ B := by rw [hB]; exact HBWd.out.size
   clear hY11 hB
   refine wpAnyH_ready (rs := [10, 15]) (by kernel_rfl) (by simp) ?_
   refine (AllReadyH.cons (o := _) rfl (fun K hK => ?_) (AllReadyH.cons (o := _) rfl (fun K hK => ?_) AllReadyH.nil))
   ·
    go_simp
    (rw [G.r2, Oper.upon_enter]; refine (HC.out _ (HB0.out.trans (HBY11.out.mono HB0.out.size))).mono ?_; rintro e Y12 ⟨rfl, hb2⟩; have HBY12 := hide (HBY11.out.trans (hb2.mono HBY11.out.size)); have HXY12 := hide (HXY11.out.below hb2); have HNBY12 := hide (HNBY11.out.below hb2); clear hb2)
    refine hK.out _ _ (HS.out _ HBY12.out) (fun hHeld => ?_)
    clear hK K
    try simp only [Act.put, pA, pB, pC]
    refine takeF 11 (some 32) ?_; refine takeF 12 (some 44) ?_; refine takeF 13 (some 45) ?_; refine takeF 14 (some 46) ?_
    refine wpAnyH_ready (rs := [15]) (by kernel_rfl) (by simp) ?_
    refine (AllReadyH.cons (o := _) rfl (fun K hK => ?_) AllReadyH.nil)
    ·
     go_simp
     refine hK.out _ _ (HS.out _ (HBY12.out.alloc HBY12.out.size _)) (fun hHeld => ?_)
     clear hK K
     try simp only [Act.put, pA, pB, pC]
     obtain ⟨Y13, hY13⟩ : ∃ Y13 : World, Y13 = Y12.alloc (.cells #[.int .i64 0, .int .i64 0, .bool false, .bool false] 30) := ⟨_, rfl⟩
     obtain ⟨A, hA⟩ : ∃ A : Nat, A = Y12.heap.size := ⟨_, rfl⟩
     rw [← hY13, ← hA]
     have HBY13 : Hid (Below W0.heap.size W0 Y13) := by rw [hY13]; exact HBY12.out.alloc HBY12.out.size _
     have HXY13 : Hid (Box Y13 (w.heap.size + 1) (hdC zh (.slice none 0 0))) := by rw [hY13]; exact HXY12.out.alloc _
     have HNAY13 : Hid (CelAt Y13 A 0 0 false false) := by rw [hY13, hA]; exact CelAt.new Y12 0 0 false false _
     have geA : W0.heap.size ≤ A := by rw [hA]; exact HBY12.out.size
     have HNBY13 : Hid (CelAt Y13 B 0 0 false false) := by rw [hY13]; exact HNBY12.out.alloc _
     have neBA : B ≠ A := by have := HNBY12.out.1; omega
     clear hY13 hA
     have hAB : A ≠ B := neBA.symm
     have gw : w.heap.size + 1 ≠ A := by omega
     have gv : w.heap.size + 1 ≠ B := by omega
     obtain ⟨p0, ⟨p1, p2, p3, p4⟩, p5, p6, p7, p8⟩ := HNAY13.out
     refine wpAnyH_ready (rs := [17]) (by kernel_rfl) (by simp) ?_
     refine AllReadyH.cons (o := _) rfl (fun K hK => ?_) AllReadyH.nil
     go_simp
     refine hK.out _ _ (HS.out _ ((((HBY13.out.setCell geA _).setCell geA _).setCell geA _).setCell geA _)) (fun hHeld => ?_)
     clear hK K
     try simp only [Act.put, pA, pB, pC]
     obtain ⟨Z1, hZ1⟩ : ∃ Z1 : World, Z1 = ((((Y13.setCell ⟨A, 0, none⟩ (.int .i64 q1)).setCell ⟨A, 1, none⟩ (.int .i64 q2)).setCell ⟨A, 2, none⟩ (.bool x)).setCell ⟨A, 3, none⟩ (.bool y)) := ⟨_, rfl⟩
     rw [← hZ1]
     have HBZ1 : Hid (Below W0.heap.size W0 Z1) := by rw [hZ1]; exact (((HBY13.out.setCell geA _).setCell geA _).setCell geA _).setCell geA _
     have HXZ1 : Hid (Box Z1 (w.heap.size + 1) (hdC zh (.slice none 0 0))) := by rw [hZ1]; exact (((HXY13.out.cellset gw _ _).cellset gw _ _).cellset gw _ _).cellset gw _ _
     have HNAZ1 : Hid (CelAt Z1 A q1 q2 x y) := by rw [hZ1]; exact HNAY13.out.put q1 q2 x y
     have HNBZ1 := hide (show CelAt Z1 B _ _ _ _ from (by rw [hZ1]; exact (((HNBY13.out.set hAB.symm _ _).set hAB.symm _ _).set hAB.symm _ _).set hAB.symm _ _))
     clear hZ1 p0 p1 p2 p3 p4 p5 p6 p7 p8
     obtain ⟨p0, ⟨p1, p2, p3, p4⟩, p5, p6, p7, p8⟩ := HNBZ1.out
     refine wpAnyH_ready (rs := [18]) (by kernel_rfl) (by simp) ?_
     refine AllReadyH.cons (o := _) rfl (fun K hK => ?_) AllReadyH.nil
     go_simp
     refine hK.out _ _ (HS.out _ ((((HBZ1.out.setCell geB _).setCell geB _).setCell geB _).setCell geB _)) (fun hHeld => ?_)
     clear hK K
     try simp only [Act.put, pA, pB, pC]
     obtain ⟨Z2, hZ2⟩ : ∃ Z2 : World, Z2 = ((((Z1.setCell ⟨B, 0, none⟩ (.int .i64 q4)).setCell ⟨B, 1, none⟩ (.int .i64 q5)).setCell ⟨B, 2, none⟩ (.bool x2)).setCell ⟨B, 3, none⟩ (.bool y2)) := ⟨_, rfl⟩
     rw [← hZ2]
     have HBZ2 : Hid (Below W0.heap.size W0 Z2) := by rw [hZ2]; exact (((HBZ1.out.setCell geB _).setCell geB _).setCell geB _).setCell geB _
     have HXZ2 : Hid (Box Z2 (w.heap.size + 1) (hdC zh (.slice none 0 0))) := by rw [hZ2]; exact (((HXZ1.out.cellset gv _ _).cellset gv _ _).cellset gv _ _).cellset gv _ _
     have HNBZ2 : Hid (CelAt Z2 B q4 q5 x2 y2) := by rw [hZ2]; exact HNBZ1.out.put q4 q5 x2 y2
     have HNAZ2 := hide (show CelAt Z2 A _ _ _ _ from (by rw [hZ2]; exact (((HNAZ1.out.set hAB _ _).set hAB _ _).set hAB _ _).set hAB _ _))
     clear hZ2 p0 p1 p2 p3 p4 p5 p6 p7 p8
     have hHeld := HS.out _ HBZ2.out
     refine takeF 19 (some 9) ?_
     refine wpAnyH_done (by kernel_rfl) ?_ _
     exact ⟨A, B, rfl, HNAZ2.out, HNBZ2.out, HXZ2.out, HB0.out.trans (HBZ2.out.mono HB0.out.size)⟩
   ·
    go_simp
    refine hK.out _ _ (HS.out _ (HBY11.out.alloc HBY11.out.size _)) (fun hHeld => ?_)
    clear hK K
    try simp only [Act.put, pA, pB, pC]
    obtain ⟨Y14, hY14⟩ : ∃ Y14 : World, Y14 = Y11.alloc (.cells #[.int .i64 0, .int .i64 0, .bool false, .bool false] 30) := ⟨_, rfl⟩
    obtain ⟨A, hA⟩ : ∃ A : Nat, A = Y11.heap.size := ⟨_, rfl⟩
    rw [← hY14, ← hA]
    have HBY14 : Hid (Below W0.heap.size W0 Y14) := by rw [hY14]; exact HBY11.out.alloc HBY11.out.size _
    have HXY14 : Hid (Box Y14 (w.heap.size + 1) (hdC zh (.slice none 0 0))) := by rw [hY14]; exact HXY11.out.alloc _
    have HNAY14 : Hid (CelAt Y14 A 0 0 false false) := by rw [hY14, hA]; exact CelAt.new Y11 0 0 false false _
    have geA : W0.heap.size ≤ A := by rw [hA]; exact HBY11.out.size
    have HNBY14 : Hid (CelAt Y14 B 0 0 false false) := by rw [hY14]; exact HNBY11.out.alloc _
    have neBA : B ≠ A := by have := HNBY11.out.1; omega
    clear hY14 hA
    refine wpAnyH_ready (rs := [10]) (by kernel_rfl) (by simp) ?_
    refine (AllReadyH.cons (o := _) rfl (fun K hK => ?_) AllReadyH.nil)
    ·
     go_simp
     (rw [G.r2, Oper.upon_enter]; refine (HC.out _ (HB0.out.trans (HBY14.out.mono HB0.out.size))).mono ?_; rintro e Y15 ⟨rfl, hb2⟩; have HBY15 := hide (HBY14.out.trans (hb2.mono HBY14.out.size)); have HXY15 := hide (HXY14.out.below hb2); have HNBY15 := hide (HNBY14.out.below hb2); have HNAY15 := hide (HNAY14.out.below hb2); clear hb2)
     refine hK.out _ _ (HS.out _ HBY15.out) (fun hHeld => ?_)
     clear hK K
     try simp only [Act.put, pA, pB, pC]
     refine takeF 11 (some 32) ?_; refine takeF 12 (some 44) ?_; refine takeF 13 (some 45) ?_; refine takeF 14 (some 46) ?_
     have hAB : A ≠ B := neBA.symm
     have gw : w.heap.size + 1 ≠ A := by omega
     have gv : w.heap.size + 1 ≠ B := by omega
     obtain ⟨p0, ⟨p1, p2, p3, p4⟩, p5, p6, p7, p8⟩ := HNAY15.out
     refine wpAnyH_ready (rs := [17]) (by kernel_rfl) (by simp) ?_
     refine AllReadyH.cons (o := _) rfl (fun K hK => ?_) AllReadyH.nil
     go_simp
     refine hK.out _ _ (HS.out _ ((((HBY15.out.setCell geA _).setCell geA _).setCell geA _).setCell geA _)) (fun hHeld => ?_)
     clear hK K
     try simp only [Act.put, pA, pB, pC]
     obtain ⟨Z1, hZ1⟩ : ∃ Z1 : World, Z1 = ((((Y15.setCell ⟨A, 0, none⟩ (.int .i64 q1)).setCell ⟨A, 1, none⟩ (.int .i64 q2)).setCell ⟨A, 2, none⟩ (.bool x)).setCell ⟨A, 3, none⟩ (.bool y)) := ⟨_, rfl⟩
     rw [← hZ1]
     have HBZ1 : Hid (Below W0.heap.size W0 Z1) := by rw [hZ1]; exact (((HBY15.out.setCell geA _).setCell geA _).setCell geA _).setCell geA _
     have HXZ1 : Hid (Box Z1 (w.heap.size + 1) (hdC zh (.slice none 0 0))) := by rw [hZ1]; exact (((HXY15.out.cellset gw _ _).cellset gw _ _).cellset gw _ _).cellset gw _ _
     have HNAZ1 : Hid (CelAt Z1 A q1 q2 x y) := by rw [hZ1]; exact HNAY15.out.put q1 q2 x y
     have HNBZ1 := hide (show CelAt Z1 B _ _ _ _ from (by rw [hZ1]; exact (((HNBY15.out.set hAB.symm _ _).set hAB.symm _ _).set hAB.symm _ _).set hAB.symm _ _))
     clear hZ1 p0 p1 p2 p3 p4 p5 p6 p7 p8
     obtain ⟨p0, ⟨p1, p2, p3, p4⟩, p5, p6, p7, p8⟩ := HNBZ1.out
     refine wpAnyH_ready (rs := [18]) (by kernel_rfl) (by simp) ?_
     refine AllReadyH.cons (o := _) rfl (fun K hK => ?_) AllReadyH.nil
     go_simp
     refine hK.out _ _ (HS.out _ ((((HBZ1.out.setCell geB _).setCell geB _).setCell geB _).setCell geB _)) (fun hHeld => ?_)
     clear hK K
     try simp only [Act.put, pA, pB, pC]
     obtain ⟨Z2, hZ2⟩ : ∃ Z2 : World, Z2 = ((((Z1.setCell ⟨B, 0, none⟩ (.int .i64 q4)).setCell ⟨B, 1, none⟩ (.int .i64 q5)).setCell ⟨B, 2, none⟩ (.bool x2)).setCell ⟨B, 3, none⟩ (.bool y2)) := ⟨_, rfl⟩
     rw [← hZ2]
     have HBZ2 : Hid (Below W0.heap.size W0 Z2) := by rw [hZ2]; exact (((HBZ1.out.setCell geB _).setCell geB _).setCell geB _).setCell geB _
     have HXZ2 : Hid (Box Z2 (w.heap.size + 1) (hdC zh (.slice none 0 0))) := by rw [hZ2]; exact (((HXZ1.out.cellset gv _ _).cellset gv _ _).cellset gv _ _).cellset gv _ _
     have HNBZ2 : Hid (CelAt Z2 B q4 q5 x2 y2) := by rw [hZ2]; exact HNBZ1.out.put q4 q5 x2 y2
     have HNAZ2 := hide (show CelAt Z2 A _ _ _ _ from (by rw [hZ2]; exact (((HNAZ1.out.set hAB _ _).set hAB _ _).set hAB _ _).set hAB _ _))
     clear hZ2 p0 p1 p2 p3 p4 p5 p6 p7 p8
     have hHeld := HS.out _ HBZ2.out
     refine takeF 19 (some 9) ?_
     refine wpAnyH_done (by kernel_rfl) ?_ _
     exact ⟨A, B, rfl, HNAZ2.out, HNBZ2.out, HXZ2.out, HB0.out.trans (HBZ2.out.mono HB0.out.size)⟩

 intro A B w6 ⟨hC6, hD6, hX6, hB6⟩
 obtain ⟨p0, ⟨p1, p2, p3, p4⟩, _⟩ := hC6
 obtain ⟨s0, ⟨s1, s2, s3, s4⟩, _⟩ := hD6
 have HX6 := hide hX6
 have HB6 := hide hB6
 clear hX6 hB6 HX0 HB0 HS HC
 cases q3 with
 | true =>
  have hh : H = rangeN q1 q2 x y q4 q5 x2 y2 := by rw [HH.out]; rfl
  subst hh
  go_wp2_with (first | (with_reducible refine wpl_id ?_; refine wpl_buildN rfl 33 _ rfl (qs := #[(0, .int .i64 3), (2, .agg #[.int .i64 q1, .int .i64 q2, .bool x, .bool y]), (3, .agg #[.int .i64 q4, .int .i64 q5, .bool x2, .bool y2])]) rfl (run_rangeN q1 q2 x y q4 q5 x2 y2 _) ?_) | (with_reducible refine wpl_id ?_; refine wpl_store rfl _ _ rfl _ rfl rfl (by ((repeat' (first | with_reducible (first | exact Hid.out (by assumption) | apply Box.set | exact Box.new _ _ | apply Box.other | apply Box.alloc | apply Box.drew | apply Box.drewN) | omega)); done)) rfl ?_))
  refine bodyPost_ret (Box.ret rfl (HX6.out.set _) rfl) rfl ⟨_, _, _, rfl, kv_nil _ _ _ _, ?_⟩
  exact below_set HB6.out (by omega) _
 | false =>
  have hh : H = lostH := by rw [HH.out]; rfl
  subst hh
  go_wp2_with (first | (go_at_call 60; refine (HL.out _).mono ?_; rintro e w7 ⟨rfl, hb7⟩; have HX7 := hide (HX6.out.below hb7); have HB7 := hide (HB6.out.trans (hb7.mono HB6.out.size)); clear hb7 HX6 HB6) | (with_reducible refine wpl_id ?_; refine wpl_store rfl _ _ rfl _ rfl rfl (by ((repeat' (first | with_reducible (first | exact Hid.out (by assumption) | apply Box.set | exact Box.new _ _ | apply Box.other | apply Box.alloc | apply Box.drew | apply Box.drewN) | omega)); done)) rfl ?_))
  refine bodyPost_ret (Box.ret rfl (HX7.out.set _) rfl) rfl ⟨_, _, _, rfl, kv_nil _ _ _ _, ?_⟩
  exact below_set HB7.out (by omega) _
end Go.Proofs.YtfpmmckpobpokaaGreat
