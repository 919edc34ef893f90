/-
  The contract of the answer's through at any right node (made by throughgen.py).
-/
import Derived.Test.YtfpmmckpobpokaaGreatMRwN1
import Derived.Test.YtfpmmckpobpokaaGreatMRwB2
set_option maxRecDepth 100000
set_option maxHeartbeats 4000000
namespace Go.Proofs.YtfpmmckpobpokaaGreat
open Go.RowKit
structure ThAt (w : World) (h : Hd) (v : Value) (ek ea en : Int) (W : World) : Prop where
 node : Box W w.heap.size (hdC h v)
 res : Box W (w.heap.size + 2) (hdC zh (.slice none 0 0))
 ed : Pla.At3 W (w.heap.size + 1) ek ea en
 below : Below w.heap.size w W
 size : W.heap.size = w.heap.size + 3
theorem th_first (w : World) (h : Hd) (a : Option Addr) (n cap : Nat) (ek ea en : Int) : ThAt w h (.slice a n cap) ek ea en (((w.alloc (.cells (hdC h (.slice a n cap)).toArray 33)).alloc (.cells #[.int .i64 ek, .int .i64 ea, .int .i64 en] 36)).alloc (.cells #[.int .i64 0, .int .i64 0, .int .i64 0, .string ⟨#[]⟩, .bool false, .int .i64 0, .int .i64 0, .int .i64 0, .bool false, .bool false, .int .i64 0, .int .i64 0, .bool false, .bool false, .string ⟨#[]⟩, .slice none 0 0] 33)) := by
 refine ⟨((Box.new w (hdC h (.slice a n cap))).alloc (.cells #[.int .i64 ek, .int .i64 ea, .int .i64 en] 36)).alloc (.cells #[.int .i64 0, .int .i64 0, .int .i64 0, .string ⟨#[]⟩, .bool false, .int .i64 0, .int .i64 0, .int .i64 0, .bool false, .bool false, .int .i64 0, .int .i64 0, .bool false, .bool false, .string ⟨#[]⟩, .slice none 0 0] 33), ?_, ?_, (((Below.refl _ w).alloc (Nat.le_refl _) _).alloc (by simp) _).alloc (by simp; omega) _, by simp⟩
 ·
  have := Box.new ((w.alloc (.cells (hdC h (.slice a n cap)).toArray 33)).alloc (.cells #[.int .i64 ek, .int .i64 ea, .int .i64 en] 36)) (hdC zh (.slice none 0 0))
  rw [World.size_alloc, World.size_alloc] at this
  exact this
 ·
  have := (Pla.At3.new (w.alloc (.cells (hdC h (.slice a n cap)).toArray 33)) ek ea en 36).alloc (.cells #[.int .i64 0, .int .i64 0, .int .i64 0, .string ⟨#[]⟩, .bool false, .int .i64 0, .int .i64 0, .int .i64 0, .bool false, .bool false, .int .i64 0, .int .i64 0, .bool false, .bool false, .string ⟨#[]⟩, .slice none 0 0] 33)
  simpa using this
def ThroughC (ek ea en : Int) (h : Hd) (k : Fo) : Prop :=
 ∀ (D : Nat → Prop) (v : Value) (w : World), aloneB h k.len = true → allB k = true → k.many + 1 ≤ 4096 → (∀ c, D c → c < w.heap.size) → Kv w D v k →
  Calls Tryz.prog 35 #[.agg (hdC h v).toArray, .agg #[.int .i64 ek, .int .i64 ea, .int .i64 en]] w fun e w' => ∃ a n cap, e = .returned (.agg (hdC (remH (moveD ek ea en) h) (.slice a n cap)).toArray) ∧ Kv w' (New w w') (.slice a n cap) (remK (moveD ek ea en) h k) ∧ Below w.heap.size w w'
def ThroughA (ek ea en : Int) : Fo → Prop
 | .nil => True
 | .cons h k r => ThroughC ek ea en h k ∧ ThroughA ek ea en r
theorem wp_append_own {o : Oper} {a : Act} {w : World} {K : Act → World → Prop} {Q : Exit → Act → World → Prop} (s x : Operand) (t : TypeId) (ho : o.op = .call { callee := .builtin .append, args := #[s, x], argTypes := #[t, t] }) {v v' : Value} (hs : a.eval s = v) (hx : a.eval x = v')
  (hr : ∃ v2 w2, (Builtin.append_ #[t, t] o.type #[v, v']).run Tryz.prog w = .ok v2 w2 ∧ K (a.put o.dst v2) w2) : o.wp Tryz.prog a w K Q := by
 obtain ⟨v2, w2, hr, hk⟩ := hr
 unfold Oper.wp execOp
 simp only [ho, resolve, invoke, builtin, Sem.run_bind, Sem.run_pure, Result.andThen_ok, List.map_toArray, List.map_cons, List.map_nil, hs, hx, hr]
 exact hk
theorem through_leaf (h : Hd) (a : Option Addr) (n cap : Nat) (ek ea en : Int) (w : World) (hk : h.kind = 2 ∨ h.kind = 3) (H : Hd) (a' : Option Addr) (n' cap' : Nat) (hm : ∀ W : World, Calls Tryz.prog 67 #[.agg (hdC h (.slice a n cap)).toArray, .agg #[.int .i64 ek, .int .i64 ea, .int .i64 en]] W fun e w' => e = .returned (.agg (hdC H (.slice a' n' cap')).toArray) ∧ Below W.heap.size W w') :
  Calls Tryz.prog 35 #[.agg (hdC h (.slice a n cap)).toArray, .agg #[.int .i64 ek, .int .i64 ea, .int .i64 en]] w fun e w' => e = .returned (.agg (hdC H (.slice a' n' cap')).toArray) ∧ Below w.heap.size w w' := by
 have HM := hide hm
 have HS := hide (th_first w h a n cap ek ea en)
 have p0 := HS.out.node.cell 0 (.int .i64 h.kind) rfl
 have ⟨y0, y1, y2, y3⟩ := HS.out.ed
 have HX := hide HS.out.node
 clear hm
 rcases hk with hk | hk
 all_goals
  rw [hk] at p0
  clear hk
  go_enter Tryz.func35, Tryz.ntmps35
  go_wp2_with (first | (with_reducible refine wpl_id ?_; refine wpl_load rfl _ rfl _ rfl (by ((repeat' (first | with_reducible (first | exact Hid.out (by assumption) | apply Box.set | exact Box.new _ _ | apply Box.other | apply Box.alloc | apply Box.drew | apply Box.drewN) | omega)); done)) ?_) | (go_at_call 67; refine (HM.out _).mono ?_; rintro e w1 ⟨rfl, hb1⟩; have HZ1 := hide (HS.out.res.below hb1); have HB1 := hide (HS.out.below.trans (hb1.mono HS.out.below.size)); clear hb1 y0 y1 y2 y3) | (with_reducible refine wpl_id ?_; refine wpl_store rfl _ _ rfl _ rfl rfl (by ((repeat' (first | with_reducible (first | exact Hid.out (by assumption) | apply Box.set | exact Box.new _ _ | apply Box.other | apply Box.alloc | apply Box.drew | apply Box.drewN) | omega)); done)) rfl ?_))
  exact bodyPost_ret (Box.ret rfl (HZ1.out.set _) rfl) rfl ⟨rfl, below_set HB1.out (by omega) _⟩
theorem through_more (ek ea en : Int) (h : Hd) (k : Fo) (hA : ThroughA ek ea en k) (h2 : (h.kind == 2) = false) (h3 : (h.kind == 3) = false) (D : Nat → Prop) (a : Option Addr) (n cap : Nat) (w : World) (hr : allB k = true) (hm : k.many + 1 ≤ 4096) (hD : ∀ c, D c → c < w.heap.size) (hkv : Kv w D (.slice a n cap) k) :
  Calls Tryz.prog 35 #[.agg (hdC h (.slice a n cap)).toArray, .agg #[.int .i64 ek, .int .i64 ea, .int .i64 en]] w fun e w' => ∃ a n cap, e = .returned (.agg (hdC h (.slice a n cap)).toArray) ∧ Kv w' (New w w') (.slice a n cap) (remF (moveD ek ea en) k) ∧ Below w.heap.size w w' := by
 obtain ⟨i0, hinf, hz0, hz1, hz2⟩ := info_parts infoNode3
 obtain ⟨_, _, _, e0, hn, hkv⟩ := hkv
 cases e0
 subst hn
 have HKR := hide (rkids_any h (.slice a k.len cap))
 have HKv := hide hkv
 have HA := hide hA
 have hlm := len_many k
 have HRt := hide hr
 have HS := hide (th_first w h a k.len cap ek ea en)
 have k0 := HS.out.node.cell 0 (.int .i64 h.kind) rfl
 have k15 := HS.out.node.cell 15 (.slice a k.len cap) rfl
 clear hkv hA hr
 generalize hkk : h.kind = kk at h2 h3 k0
 clear hkk
 obtain ⟨B, hBe⟩ : ∃ B : World, B = (((w.alloc (.cells (hdC h (.slice a k.len cap)).toArray 33)).alloc (.cells #[.int .i64 ek, .int .i64 ea, .int .i64 en] 36)).alloc (.cells #[.int .i64 0, .int .i64 0, .int .i64 0, .string ⟨#[]⟩, .bool false, .int .i64 0, .int .i64 0, .int .i64 0, .bool false, .bool false, .int .i64 0, .int .i64 0, .bool false, .bool false, .string ⟨#[]⟩, .slice none 0 0] 33)) := ⟨_, rfl⟩
 have HBe := hide hBe
 rw [← hBe] at HS
 clear hBe
 go_enter Tryz.func35, Tryz.ntmps35
 go_wp2
 have hge : w.heap.size + 3 ≤ B.heap.size := by have := HS.out.size; omega
 have hge2 : w.heap.size + 1 < B.heap.size := by omega
 clear h2 h3 k0
 go_loopw [5, 6] (fun uv ui wr => ∃ (i : Nat) (u : Value) (L : List (Hd × Value)) (G F : Fo), uv = u ∧ ui = .int .i64 (i : Int) ∧ L.length = i ∧ i + F.len = k.len ∧ RowAt B u L G wr ∧ joinF G (remF (moveD ek ea en) F) = remF (moveD ek ea en) k ∧ (F = .nil ∨ ∃ b' o', a = some ⟨b', o', none⟩ ∧ k.len ≤ cap ∧ cap ≤ maxLen ∧ Row w D F b' (o' + i * 16)) ∧ ThroughA ek ea en F ∧ allB F = true ∧ F.many ≤ k.many ∧ wr.cell? ⟨w.heap.size, 15, none⟩ = some (.slice a k.len cap)) (fun _ ui _ => k.len - (intOf ui).toNat)
 case atStart =>
  refine ⟨0, .slice none 0 0, [], .nil, k, rfl, rfl, rfl, by omega, HBe.out ▸ RowAt.first B, rfl, ?_, HA.out, HRt.out, Nat.le_refl _, k15⟩
  rcases HKv.out with e | ⟨b', o', e1, e2, e3, e4⟩
  ·
   exact .inl e
  ·
   exact .inr ⟨b', o', e1, e2, e3, by simpa using e4⟩
 case round =>
  clear k15
  obtain ⟨i, u, L, G, F, rfl, rfl, hLi, hl, hRw, hj, hF, hAF, haF, hmF, c15⟩ := hrel
  have HR := hide hRw
  have hsz := hRw.below.size
  have hown := hRw.own
  have HJ := hide hj
  clear hRw hj
  match F, hl, hF, hAF, haF, hmF, HJ with
  | .nil, hl, _, _, _, _, HJ =>
   have hli : ¬ (i : Int) < (k.len : Int) := by simp [Fo.len] at hl; omega
   obtain ⟨a9, n9, c9, rfl, hkv9⟩ := HR.out.kv
   have HKV := hide hkv9
   have HX1 := hide (HS.out.node.below HR.out.below)
   have HZ1 := hide (HS.out.res.below HR.out.below)
   have HBz := hide (HS.out.below.trans (HR.out.below.mono HS.out.below.size))
   clear hkv9 hown hlm hm hmF
   go_wp2_with (first | (with_reducible refine wpl_id ?_; refine wpl_load rfl _ rfl _ rfl (by ((repeat' (first | with_reducible (first | exact Hid.out (by assumption) | apply Box.set | exact Box.new _ _ | apply Box.other | apply Box.alloc | apply Box.drew | apply Box.drewN) | omega)); done)) ?_) | (go_at_call 68; refine (HKR.out _ _ _ _ _ _ rfl _).mono ?_; rintro e w5 ⟨rfl, hb5⟩; have HZ5 := hide (HZ1.out.below hb5); have HB5 := hide (HBz.out.trans (hb5.mono HBz.out.size)); have HK5 := hide hb5; clear hb5 HZ1 HX1) | (with_reducible refine wpl_id ?_; refine wpl_store rfl _ _ rfl _ rfl rfl (by ((repeat' (first | with_reducible (first | exact Hid.out (by assumption) | apply Box.set | exact Box.new _ _ | apply Box.other | apply Box.alloc | apply Box.drew | apply Box.drewN) | omega)); done)) rfl ?_))
   refine bodyPost_ret (Box.ret rfl (HZ5.out.set _) rfl) rfl ⟨a9, n9, c9, rfl, ?_, below_set HB5.out (by omega) _⟩
   have hG : G = remF (moveD ek ea en) k := by have := HJ.out; rwa [show remF (moveD ek ea en) .nil = .nil from rfl, join_nil] at this
   rw [← hG]
   refine kv_to HKV.out (fun c hc => ?_)
   have q1 : B.heap.size ≤ c := hc.1
   have q2 : c < wr.heap.size := hc.2
   have q3 := HK5.out.size
   refine ⟨⟨by omega, by rw [setRow_size]; omega⟩, ?_⟩
   rw [setRow_heap _ _ _ _ (by omega), HK5.out.block c q2]
  | .cons h1 k1 r1, hl, hF, hAF, haF, hmF, HJ =>
   have hli : (i : Int) < (k.len : Int) := by simp [Fo.len] at hl; omega
   have hl2 : i + 1 + r1.len = k.len := by simp [Fo.len] at hl; omega
   have hm1 : k1.many + 1 ≤ 4096 ∧ r1.many ≤ k.many := by simp only [Fo.many] at hmF; omega
   simp only [allB, Bool.and_eq_true] at haF
   obtain ⟨⟨al1, al2⟩, al3⟩ := haF
   obtain ⟨b1, o1, rfl, hcap1, hcap2, hrw⟩ : ∃ b' o', a = some ⟨b', o', none⟩ ∧ k.len ≤ cap ∧ cap ≤ maxLen ∧ Row w D (.cons h1 k1 r1) b' (o' + i * 16) := by
    rcases hF with e | e
    ·
     cases e
    ·
     exact e
   obtain ⟨d1, ⟨v1, x1, y1⟩, z1⟩ := row_cons.1 hrw
   have hBw : Below w.heap.size w wr := HS.out.below.trans (HR.out.below.mono HS.out.below.size)
   have HR1 : Hid (Row w D r1 b1 (o1 + (i + 1) * 16)) := by rw [show o1 + (i + 1) * 16 = o1 + i * 16 + 16 by omega]; exact z1
   have HXc : Hid (∀ j, j < 16 → wr.cell? ⟨b1, o1 + i * 16 + j, none⟩ = (hdC h1 v1)[j]?) := fun j hj => by rw [hBw.cell (p := ⟨b1, o1 + i * 16 + j, none⟩) (hD b1 d1)]; exact x1 j hj
   obtain ⟨hA1, hA2⟩ := hAF
   have HA2 := hide hA2
   have HAl := hide al3
   have HCl : Hid (∀ W : World, Below w.heap.size w W → Calls Tryz.prog 35 #[.agg (hdC h1 v1).toArray, .agg #[.int .i64 ek, .int .i64 ea, .int .i64 en]] W fun e w' => ∃ a n cap, e = .returned (.agg (hdC (remH (moveD ek ea en) h1) (.slice a n cap)).toArray) ∧ Kv w' (New W w') (.slice a n cap) (remK (moveD ek ea en) h1 k1) ∧ Below W.heap.size W w') := fun W hW =>
    hA1 D v1 W al1 al2 hm1.1 (fun c hc => Nat.lt_of_lt_of_le (hD c hc) hW.size) (kv_to y1 (fun b hb => ⟨hb, hW.block b (hD b hb)⟩))
   have HJ2 : Hid (joinF (G.snoc (remH (moveD ek ea en) h1) (remK (moveD ek ea en) h1 k1)) (remF (moveD ek ea en) r1) = remF (moveD ek ea en) k) := hide ((join_snoc G _ _ _).trans HJ.out)
   generalize remH (moveD ek ea en) h1 = H1' at *
   generalize remK (moveD ek ea en) h1 k1 = K1' at *
   have HM1 := hide hcap2
   have HM2 := hide hm1.2
   unfold maxLen at hcap2
   have hbw := hD b1 d1
   have HBd : Hid (Below w.heap.size w wr.drew) := hBw.drew
   clear hrw d1 x1 y1 z1 hA1 hA2 hF hl hmF hm1 hBw al1 al2 al3 HJ
   have hbB : b1 < B.heap.size := Nat.lt_of_lt_of_le hbw (by omega)
   have HX2 : Hid (∀ W, Below B.heap.size B W → ∀ j, j < 16 → W.cell? ⟨b1, o1 + i * 16 + j, none⟩ = (hdC h1 v1)[j]?) := fun W hW j hj => ((hW.cell (p := ⟨b1, o1 + i * 16 + j, none⟩) hbB).trans (HR.out.below.cell (p := ⟨b1, o1 + i * 16 + j, none⟩) hbB).symm).trans (HXc.out j hj)
   have HS2 : Hid (∀ W, Below B.heap.size B W → Below B.heap.size B W ∧ W.cell? ⟨w.heap.size, 15, none⟩ = some (.slice (some ⟨b1, o1, none⟩) k.len cap) ∧ W.cell? ⟨w.heap.size + 1, 0, none⟩ = some (.int .i64 ek) ∧ W.cell? ⟨w.heap.size + 1, 1, none⟩ = some (.int .i64 ea) ∧ W.cell? ⟨w.heap.size + 1, 2, none⟩ = some (.int .i64 en)) := fun W hW => ⟨hW, (HS.out.node.below hW).cell 15 _ rfl, (HS.out.ed.below hW).2⟩
   have hB0 := HR.out.below
   go_wp2
   refine wp_region_held_drew (S := fun W => Below B.heap.size B W ∧ W.cell? ⟨w.heap.size, 15, none⟩ = some (.slice (some ⟨b1, o1, none⟩) k.len cap) ∧ W.cell? ⟨w.heap.size + 1, 0, none⟩ = some (.int .i64 ek) ∧ W.cell? ⟨w.heap.size + 1, 1, none⟩ = some (.int .i64 ea) ∧ W.cell? ⟨w.heap.size + 1, 2, none⟩ = some (.int .i64 en)) (by kernel_rfl) (HS2.out _ hB0.drew) (fun hHeld => ?_)
   refine takeF 0 (some 25) ?_; refine takeF 1 (some 26) ?_; refine takeF 2 (some 27) ?_; refine takeF 3 (some 28) ?_; refine takeF 4 (some 29) ?_
   (refine takeE (i := 5) (some 30) rfl rfl (by kernel_rfl) (v := .agg (hdC h1 v1).toArray) rfl (fun W hSW => exec_loadAt _ rfl b1 (o1 + i * 16) rfl (HX2.out W hSW.1)) (by assumption) ?_; try simp only [Act.put, pA, pB, pC])
   refine takeF 6 (some 31) ?_
   refine wpAnyH_ready (rs := [7]) (by kernel_rfl) (by simp) ?_
   refine AllReadyH.cons (o := _) rfl (fun K hK => ?_) AllReadyH.nil
   go_simp
   (go_at_call 35; refine (HCl.out _ HBd.out).mono ?_; rintro e w3 ⟨a1, n1, c1, rfl, hk1, hb1⟩)
   have hb1 : Below wr.heap.size wr w3 := (below_drew0 wr).trans hb1
   have HKn := hide hk1
   have HBr := hide hb1
   have s1 := hb1.size
   have HO3 := hide ((own_below hown hb1).alloc (.cells (hdC H1' (.slice a1 n1 c1)).toArray 33))
   have hB3 := hB0.trans (hb1.mono hB0.size)
   clear hk1 hb1
   refine hK.out _ _ (HS2.out _ hB3) (fun hHeld => ?_)
   clear hK K
   try simp only [Act.put, pA, pB, pC]
   refine wpAnyH_ready (rs := [8]) (by kernel_rfl) (by simp) ?_
   refine readyP (o := _) rfl rfl (fun K hK => ?_) AllReadyH.nil
   refine wp_buildS _ _ _ rfl (qs := #[(0, .agg (hdC H1' (.slice a1 n1 c1)).toArray)]) rfl (build1 H1' (.slice a1 n1 c1) _) ?_
   refine hK.out _ _ (HS2.out _ (hB3.alloc hB3.size _)) (fun hHeld => ?_)
   clear hK K
   try simp only [Act.put, List.setIfInBounds_toArray]
   refine wpAnyH_ready (rs := [9]) (by kernel_rfl) (by simp) ?_
   refine readyP (o := _) rfl rfl (fun K hK => ?_) AllReadyH.nil
   obtain ⟨v', w4, hr4, hown4, hgr4, _, hwh4⟩ := run_append_own_at (P := Tryz.prog) _ B.heap.size 31 31 33 i0 (.agg (hdC zh (.slice none 0 0)).toArray) 16 144 Tryz.underlying31 hinf hz0 hz1 hz2 rfl (by decide) _ _ _ HO3.out ⟨w3.heap.size, 0, none⟩ 1 1 (hdC H1' (.slice a1 n1 c1)) rfl
    (fun j u hu => cells_new w3 (hdC H1' (.slice a1 n1 c1)).toArray 33 j u (by simpa using hu))
    (by
     have := hdC_one H1' (v := .slice a1 n1 c1) rfl
     rw [Array.all_eq_true_iff_forall_mem] at this
     exact fun u hu => this u (by simpa using hu))
    (by unfold maxLen; omega) (by omega) (by simp; omega)
   refine wp_append_own _ _ _ rfl rfl rfl ⟨v', w4, hr4, ?_⟩
   have hN := RowAt.more (h := H1') HR.out HBr.out HKn.out (by first | exact hown4 | (rw [hLi]; exact hown4)) hgr4 (by simpa using hwh4)
   have HN := hide hN
   refine hK.out _ _ (HS2.out _ hN.below) (fun hHeld => ?_)
   clear hK K
   try simp only [Act.put]
   have k15 : w4.cell? ⟨w.heap.size, 15, none⟩ = some (.slice (some ⟨b1, o1, none⟩) k.len cap) := (HS.out.node.below hN.below).cell 15 (.slice (some ⟨b1, o1, none⟩) k.len cap) rfl
   clear hown4 hgr4 hwh4 hN HO3 hown hr4
   (refine takeE (i := 10) (some 5) rfl rfl (by kernel_rfl) (v := ?_) rfl ?_ (by assumption) ?_; rotate_left; (focus (intro w hSw; (try dsimp only at hSw); first | (go_simp; done) | (go_simp; with_reducible rfl))); try simp only [Act.put])
   refine wpAnyH_done (by kernel_rfl) ?_ _
   go_wp2
   go_roundw
   case rel => exact ⟨i + 1, v', _, _, r1, rfl, by go_num, by first | simp [hLi] | simp, by omega, HN.out, HJ2.out, .inr ⟨b1, o1, rfl, hcap1, HM1.out, HR1.out⟩, HA2.out, HAl.out, HM2.out, k15⟩
   case measure => simp [intOf]; omega
theorem through_step (ek ea en : Int) (he : Pla.editB ek ea en = true) (h : Hd) (k : Fo) (hA : ThroughA ek ea en k) : ThroughC ek ea en h k := by
 intro D v w ha hr hm hD hk
 obtain ⟨a, n, cap, rfl, hn, hk'⟩ := hk
 by_cases k2 : h.kind = 2
 ·
  have hl := (kept_head (moveD ek ea en) h k.len ha).2 (by simp [leafB, k2])
  have := len_nil hl
  subst this
  have hrk : remK (moveD ek ea en) h .nil = .nil := by unfold remK; split <;> rfl
  rw [hrk]
  have hp := alone_cell ha k2
  by_cases hf : (Pla.spotR ek ea en h.row h.col).2.2.1 = 0
  ·
   obtain ⟨q1, q2⟩ := spot_place he hp hf
   refine (through_leaf h a n cap ek ea en w (.inl k2) _ a n cap (fun W => moved_cell_ok h a n cap ek ea en W k2 _ _ _ q2)).mono ?_
   rintro e w' ⟨rfl, hb⟩
   refine ⟨a, n, cap, ?_, ⟨a, n, cap, rfl, hn, .inl rfl⟩, hb⟩
   have e1 : remH (moveD ek ea en) h = cellN (Pla.spotR ek ea en h.row h.col).1 (Pla.spotR ek ea en h.row h.col).2.1 h.fr h.fc := by
    unfold remH
    rw [if_pos k2, if_pos (show ((moveD ek ea en).c h).2.2 = true by simp [moveD, hf])]
    rfl
   rw [e1]
   generalize (Pla.spotR ek ea en h.row h.col).1 = s1
   generalize (Pla.spotR ek ea en h.row h.col).2.1 = s2
   clear e1 q1 q2 hf hp hA hrk
   obtain ⟨kind, vk, vn, vs, vb, vc, row, col, fr, fc, row2, col2, fr2, fc2, txt⟩ := h
   simp only at k2
   subst k2
   simp [aloneB, noVal, noTo] at ha
   simp [cellN, ha]
  ·
   refine (through_leaf h a n cap ek ea en w (.inl k2) _ none 0 0 (fun W => moved_cell_no h a n cap ek ea en W k2 _ _ _ _ (Prod.eta _).symm (by simpa using hf))).mono ?_
   rintro e w' ⟨rfl, hb⟩
   exact ⟨none, 0, 0, by simp [remH, k2, moveD, hf], kv_nil _ _ _ _, hb⟩
 by_cases k3 : h.kind = 3
 ·
  have hl := (kept_head (moveD ek ea en) h k.len ha).2 (by simp [leafB, k3])
  have := len_nil hl
  subst this
  have hrk : remK (moveD ek ea en) h .nil = .nil := by unfold remK; split <;> rfl
  rw [hrk]
  obtain ⟨p1, p2⟩ := alone_range ha k3
  obtain ⟨o1, o2⟩ := of_right p1 p2
  by_cases hf : (spanR ek ea en h.row h.col h.row2 h.col2).2.2.2.2 = true
  ·
   obtain ⟨t, l, b, r, e1, hR, e2⟩ := span_ok p1 p2 hf
   refine (through_leaf h a n cap ek ea en w (.inr k3) _ a n cap (fun W => moved_range_ok h a n cap ek ea en W k3 _ _ _ _ _ t l b r 0 o1 e1 _ _ _ _ rfl rfl rfl rfl)).mono ?_
   rintro e w' ⟨rfl, hb⟩
   refine ⟨a, n, cap, ?_, ⟨a, n, cap, rfl, hn, .inl rfl⟩, hb⟩
   have e3 : remH (moveD ek ea en) h = rangeN (if h.row ≤ h.row2 then t else b) (if h.col ≤ h.col2 then l else r) h.fr h.fc (if h.row ≤ h.row2 then b else t) (if h.col ≤ h.col2 then r else l) h.fr2 h.fc2 := by
    unfold remH
    rw [if_neg k2, if_pos k3, if_pos (show ((moveD ek ea en).s h).2.2.2.2 = true from hf)]
    show rangeN (spanR ek ea en h.row h.col h.row2 h.col2).1 _ _ _ _ _ _ _ = _
    simp only [moveD, e2]
   rw [e3]
   generalize (if h.row ≤ h.row2 then t else b) = u1
   generalize (if h.col ≤ h.col2 then l else r) = u2
   generalize (if h.row ≤ h.row2 then b else t) = u3
   generalize (if h.col ≤ h.col2 then r else l) = u4
   clear e1 e2 e3 hf hR o1 o2 p1 p2 hA hrk
   obtain ⟨kind, vk, vn, vs, vb, vc, row, col, fr, fc, row2, col2, fr2, fc2, txt⟩ := h
   simp only at k3
   subst k3
   simp [aloneB, noVal] at ha
   simp [rangeN, ha]
  ·
   have hf' : (Pla.rectR ek ea en (min h.row h.row2) (min h.col h.col2) (max h.row h.row2) (max h.col h.col2)).2.2.2.2.1 = false := by
    unfold spanR at hf
    rw [o1] at hf
    simpa using hf
   obtain ⟨q1, q2, q3, q4, q6, eq⟩ : ∃ q1 q2 q3 q4 q6, Pla.rectR ek ea en (min h.row h.row2) (min h.col h.col2) (max h.row h.row2) (max h.col h.col2) = (q1, q2, q3, q4, false, q6) := ⟨_, _, _, _, _, by rw [← hf']⟩
   refine (through_leaf h a n cap ek ea en w (.inr k3) _ none 0 0 (fun W => moved_range_no h a n cap ek ea en W k3 _ _ _ _ _ q1 q2 q3 q4 q6 o1 eq)).mono ?_
   rintro e w' ⟨rfl, hb⟩
   refine ⟨none, 0, 0, ?_, kv_nil _ _ _ _, hb⟩
   have e3 : remH (moveD ek ea en) h = lostH := by
    unfold remH
    rw [if_neg k2, if_pos k3, if_neg (show ¬ ((moveD ek ea en).s h).2.2.2.2 = true from hf)]
   rw [e3]
 obtain ⟨e1, e2⟩ := other_same (moveD ek ea en) h k.len ha k2 k3
 have e3 : remK (moveD ek ea en) h k = remF (moveD ek ea en) k := by unfold remK; rw [e2]; rfl
 rw [e1, e3]
 exact through_more ek ea en h k hA (by simpa using k2) (by simpa using k3) D a n cap w hr hm hD ⟨a, n, cap, rfl, hn, hk'⟩
theorem through_all (ek ea en : Int) (he : Pla.editB ek ea en = true) : ∀ (F : Fo), ThroughA ek ea en F
 | .nil => trivial
 | .cons h k r => ⟨through_step ek ea en he h k (through_all ek ea en he k), through_all ek ea en he r⟩
theorem through_any (ek ea en : Int) (he : Pla.editB ek ea en = true) (h : Hd) (k : Fo) : ThroughC ek ea en h k := through_step ek ea en he h k (through_all ek ea en he k)
end Go.Proofs.YtfpmmckpobpokaaGreat
