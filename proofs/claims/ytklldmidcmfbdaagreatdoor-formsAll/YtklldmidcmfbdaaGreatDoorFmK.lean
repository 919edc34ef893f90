/-
  The contract of forms.Check.
-/
import Derived.Test.YtklldmidcmfbdaaGreatDoorFmC2
import Derived.Test.YtklldmidcmfbdaaGreatDoorFmL
import Derived.Test.YtklldmidcmfbdaaGreatDoorZ5b
namespace Go.Proofs.YtklldmidcmfbdaaGreatDoor
open Go.RowKit Go.Shelf

attribute [local go_sem] Oper.semAt_some

/-- What is wrong with a node, whatever its kids are. -/
def callP (x : Hd × Fo) : Int := if x.1.kind = 6 then callE x.1 x.2 else 0
/-- What is wrong with the first of some nodes of which something is. -/
def firstE : List (Hd × Fo) → Int
  | [] => 0
  | x :: r => if callP x = 0 then firstE r else callP x
theorem first_app : ∀ (l r : List (Hd × Fo)), firstE l = 0 → firstE (l ++ r) = firstE r
  | [], _, _ => rfl
  | x :: l, r, h => by
    unfold firstE at h
    split at h
    · rename_i hx
      rw [List.cons_append, firstE, if_pos hx]
      exact first_app l r h
    · rename_i hx; exact absurd h hx
theorem first_pre : ∀ (l r : List (Hd × Fo)), firstE l ≠ 0 → firstE (l ++ r) = firstE l
  | [], _, h => absurd rfl h
  | x :: l, r, h => by
    unfold firstE at h
    rw [List.cons_append, firstE, firstE]
    split
    · rename_i hx
      rw [if_pos hx] at h
      exact first_pre l r h
    · rfl
/-- What Check tells. -/
def formsE (h : Hd) (k : Fo) : Int := if checkN h k = 0 then firstE (preF (.cons h k .nil)) else checkN h k
theorem check_ret {tmps : Array Value} {Z : World} {b1 : Nat} {e : Int} (h2 : tmps.getD 2 undef = .pointer (some ⟨b1, 0, none⟩)) (k1 : Boxed Z b1 32 (.int .i64 e)) : (results Tryz.f20 tmps).run Tryz.prog Z = .ok (.int .i64 e) Z := by
  have h2' : tmps[2]?.getD undef = .pointer (some ⟨b1, 0, none⟩) := by simpa using h2
  have c2 := k1.cell
  simp [results, Tryz.results20, h2', asAddr, go_sem, c2]
set_option maxRecDepth 100000 in
set_option maxHeartbeats 4000000 in
theorem formsCheck_any (D : Nat → Prop) (h : Hd) (k : Fo) (a : Option Addr) (n cap : Nat) (w : World) (hD : ∀ c, D c → c < w.heap.size) (hk : Kv w D (.slice a n cap) k) (hm : k.many + 1 ≤ 4096) (hv : h.vs.length ≤ maxLen) (ht : h.txt.length ≤ maxLen) (ho : okF k) :
    Calls Tryz.prog 20 #[.agg (hdC h (.slice a n cap)).toArray] w fun e w' => e = .returned (.int .i64 (formsE h k)) ∧ Below w.heap.size w w' := by
  have HC : Hid (∀ W : World, Below w.heap.size w W → CallsIn Fence.wide 0 Tryz.prog 31 #[.agg #[.int .i64 h.kind, .int .i64 h.vk, .int .i64 h.vn, .string ⟨h.vs.toArray⟩, .bool h.vb, .int .i64 h.vc, .int .i64 h.row, .int .i64 h.col, .bool h.fr, .bool h.fc, .int .i64 h.row2, .int .i64 h.col2, .bool h.fr2, .bool h.fc2, .string ⟨h.txt.toArray⟩, .slice a n cap]] W fun e w' => e = .returned (.int .i64 (checkN h k)) ∧ Below W.heap.size W w') := fun W hW => callsIn_wide.2 (check_node D h k a n cap W (fun c hc => Nat.lt_of_lt_of_le (hD c hc) hW.size) (kv_to hk (fun c hc => ⟨hc, hW.block c (hD c hc)⟩)) hm hv ht ho)
  have HK := hide hk
  have HD := hide hD
  have hB0 : Below w.heap.size w ((w.alloc (.cells (hdC h (.slice a n cap)).toArray 68)).alloc (.cells #[.int .i64 0] 32)) := ((Below.refl _ w).alloc (Nat.le_refl _) _).alloc (by simp) _
  have k0 : ((w.alloc (.cells (hdC h (.slice a n cap)).toArray 68)).alloc (.cells #[.int .i64 0] 32)).heap[w.heap.size]? = some (.cells (hdC h (.slice a n cap)).toArray 68 (0, 0)) := (Below.heap_alloc _ _ _ (by simp)).trans (World.alloc_heap_new w _)
  have k1 := Boxed.new (w.alloc (.cells (hdC h (.slice a n cap)).toArray 68)) 32 (.int .i64 0)
  rw [World.size_alloc] at k1
  have HB0 := hide hB0
  have HX0 := hide k0
  have HX1 := hide k1
  have hc : ∀ j, ((w.alloc (.cells (hdC h (.slice a n cap)).toArray 68)).alloc (.cells #[.int .i64 0] 32)).cell? ⟨w.heap.size, j, none⟩ = (hdC h (.slice a n cap)).toArray[j]? := fun j => cell_of_row _ _ _ _ _ _ k0
  have d0 : ((w.alloc (.cells (hdC h (.slice a n cap)).toArray 68)).alloc (.cells #[.int .i64 0] 32)).cell? ⟨w.heap.size, 0, none⟩ = some (.int .i64 h.kind) := hc 0
  have d1 : ((w.alloc (.cells (hdC h (.slice a n cap)).toArray 68)).alloc (.cells #[.int .i64 0] 32)).cell? ⟨w.heap.size, 1, none⟩ = some (.int .i64 h.vk) := hc 1
  have d2 : ((w.alloc (.cells (hdC h (.slice a n cap)).toArray 68)).alloc (.cells #[.int .i64 0] 32)).cell? ⟨w.heap.size, 2, none⟩ = some (.int .i64 h.vn) := hc 2
  have d3 : ((w.alloc (.cells (hdC h (.slice a n cap)).toArray 68)).alloc (.cells #[.int .i64 0] 32)).cell? ⟨w.heap.size, 3, none⟩ = some (.string ⟨h.vs.toArray⟩) := hc 3
  have d4 : ((w.alloc (.cells (hdC h (.slice a n cap)).toArray 68)).alloc (.cells #[.int .i64 0] 32)).cell? ⟨w.heap.size, 4, none⟩ = some (.bool h.vb) := hc 4
  have d5 : ((w.alloc (.cells (hdC h (.slice a n cap)).toArray 68)).alloc (.cells #[.int .i64 0] 32)).cell? ⟨w.heap.size, 5, none⟩ = some (.int .i64 h.vc) := hc 5
  have d6 : ((w.alloc (.cells (hdC h (.slice a n cap)).toArray 68)).alloc (.cells #[.int .i64 0] 32)).cell? ⟨w.heap.size, 6, none⟩ = some (.int .i64 h.row) := hc 6
  have d7 : ((w.alloc (.cells (hdC h (.slice a n cap)).toArray 68)).alloc (.cells #[.int .i64 0] 32)).cell? ⟨w.heap.size, 7, none⟩ = some (.int .i64 h.col) := hc 7
  have d8 : ((w.alloc (.cells (hdC h (.slice a n cap)).toArray 68)).alloc (.cells #[.int .i64 0] 32)).cell? ⟨w.heap.size, 8, none⟩ = some (.bool h.fr) := hc 8
  have d9 : ((w.alloc (.cells (hdC h (.slice a n cap)).toArray 68)).alloc (.cells #[.int .i64 0] 32)).cell? ⟨w.heap.size, 9, none⟩ = some (.bool h.fc) := hc 9
  have d10 : ((w.alloc (.cells (hdC h (.slice a n cap)).toArray 68)).alloc (.cells #[.int .i64 0] 32)).cell? ⟨w.heap.size, 10, none⟩ = some (.int .i64 h.row2) := hc 10
  have d11 : ((w.alloc (.cells (hdC h (.slice a n cap)).toArray 68)).alloc (.cells #[.int .i64 0] 32)).cell? ⟨w.heap.size, 11, none⟩ = some (.int .i64 h.col2) := hc 11
  have d12 : ((w.alloc (.cells (hdC h (.slice a n cap)).toArray 68)).alloc (.cells #[.int .i64 0] 32)).cell? ⟨w.heap.size, 12, none⟩ = some (.bool h.fr2) := hc 12
  have d13 : ((w.alloc (.cells (hdC h (.slice a n cap)).toArray 68)).alloc (.cells #[.int .i64 0] 32)).cell? ⟨w.heap.size, 13, none⟩ = some (.bool h.fc2) := hc 13
  have d14 : ((w.alloc (.cells (hdC h (.slice a n cap)).toArray 68)).alloc (.cells #[.int .i64 0] 32)).cell? ⟨w.heap.size, 14, none⟩ = some (.string ⟨h.txt.toArray⟩) := hc 14
  have d15 : ((w.alloc (.cells (hdC h (.slice a n cap)).toArray 68)).alloc (.cells #[.int .i64 0] 32)).cell? ⟨w.heap.size, 15, none⟩ = some (.slice a n cap) := hc 15
  clear hc hk hD hB0 k0 k1 hm hv ht ho
  refine (callsIn_wide (n := 0)).1 ?_
  refine callsIn_of_wp_marks Tryz.func20 rfl trivial ?_ rfl
  simp only [Tryz.ntmps20, List.size_toArray, List.length_cons, List.length_nil, Nat.reduceAdd, Nat.reduceSub, Array.replicate_succ, Array.replicate_zero, List.push_toArray, List.append_toArray, List.nil_append, List.cons_append]
  unfold formsE
  by_cases he : checkN h k = 0
  · rw [he] at HC
    rw [if_pos he]
    clear he
    gi_wp2_with (first | (refine ⟨trivial, rfl, ?_⟩; gi_at_call 31; refine (HC.out _ HB0.out).mono ?_; rintro e w1 ⟨rfl, hb1⟩; have HB1 := hide hb1; clear hb1 d0 d1 d2 d3 d4 d5 d6 d7 d8 d9 d10 d11 d12 d13 d14 d15) | (refine ⟨trivial, rfl, ?_⟩; gi_at_call 32; refine (callsIn_wide.2 (parts_any _ _ _)).mono ?_; rintro e wz ⟨rfl, hz⟩; subst wz))
    have HX2 : Hid (Boxed w1 (w.heap.size + 1) 32 (.int .i64 0)) := (HB1.out.block _ HX1.out.lt).trans HX1.out
    have HX3 : Hid (w1.heap[w.heap.size]? = some (.cells (hdC h (.slice a n cap)).toArray 68 (0, 0))) := (HB1.out.block _ (Array.getElem?_eq_some_iff.1 HX0.out).1).trans HX0.out
    have HB2 : Hid (Below w.heap.size w w1) := HB0.out.trans (HB1.out.mono HB0.out.size)
    have bb : Below w1.heap.size w1 (w1.alloc (.cells #[.pointer (some ⟨w.heap.size, 0, none⟩)] 92)) := (Below.refl _ _).alloc (Nat.le_refl _) _
    have k1 := HX2.out.alloc (.cells #[.pointer (some ⟨w.heap.size, 0, none⟩)] 92)
    have k0 : (w1.alloc (.cells #[.pointer (some ⟨w.heap.size, 0, none⟩)] 92)).heap[w.heap.size]? = some (.cells (hdC h (.slice a n cap)).toArray 68 (0, 0)) := (bb.block _ (Array.getElem?_eq_some_iff.1 HX3.out).1).trans HX3.out
    have hb : Below w.heap.size w (w1.alloc (.cells #[.pointer (some ⟨w.heap.size, 0, none⟩)] 92)) := HB2.out.trans (bb.mono HB2.out.size)
    have hw1 : w.heap.size + 1 < w1.heap.size := HX2.out.lt
    have hro1 : rowAt w1 (w.heap.size + 1) = none := by unfold rowAt; rw [HX2.out.cell]; rfl
    have sb := Sf.new (B := w.heap.size + 1) w1 #[.pointer (some ⟨w.heap.size, 0, none⟩)] 92 hw1 (fun g hg => by rw [hro1] at hg; cases hg)
    obtain ⟨W0, hW0⟩ : ∃ W0, w1.alloc (.cells #[.pointer (some ⟨w.heap.size, 0, none⟩)] 92) = W0 := ⟨_, rfl⟩
    have z0 : W0.heap.size = w1.heap.size + 1 := by rw [← hW0]; simp
    rw [hW0] at k1 k0 hb sb ⊢
    have hr0 : rowAt W0 (w.heap.size + 1) = none := by unfold rowAt; rw [k1.cell]; rfl
    have hRI : RowIn (w.heap.size + 1) W0 := ⟨by omega, fun g hg => by rw [hr0] at hg; cases hg⟩
    obtain ⟨hDk, hRow⟩ := node_loop HD.out HK.out hb k0 (B := w.heap.size + 1) (by omega) (by omega) (by rw [hr0]; simp)
    have hDlt := hDk.lt
    clear hW0 bb HX2 HX3 HB2 HB1 HC HK HD HB0 HX0 HX1 hro1 k0
    refine rangeR (α := Pt W0 (fun c => D c ∨ c = w.heap.size)) (B := w.heap.size + 1) (n₀ := w.heap.size) (X := fun _ => False) rfl (enters_of Tryz.func42 (by kernel_rfl) rfl) (parts_step k (parts_all k) w.heap.size (w.heap.size + 1) _ W0 h w.heap.size 0 w1.heap.size hRow)
      (fun X hX => ⟨sb.below hX, hDk.below hX, hRI.below hX, by have := hX.size; omega⟩) (fun _ => rfl) (by omega) (by omega) (fun _ h => h.elim)
      (fun pre X => firstE (pre.map Pt.gh) = 0 ∧ Dk w.heap.size (w.heap.size + 1) (fun c => D c ∨ c = w.heap.size) W0 X ∧ Boxed X (w.heap.size + 1) 32 (.int .i64 0) ∧ Below w.heap.size w X)
      (fun c pre X => (c = .ret ∧ firstE (pre.map Pt.gh) ≠ 0) ∧ Boxed X (w.heap.size + 1) 32 (.int .i64 (firstE (pre.map Pt.gh))) ∧ Below w.heap.size w X)
      ?hI ?hIx ⟨rfl, hDk, k1, hb⟩
      (fun x a' _ => a' = { tmps := #[.agg (hdC h (.slice a n cap)).toArray, .pointer (some ⟨w.heap.size, 0, none⟩), .pointer (some ⟨w.heap.size + 1, 0, none⟩), .int .i64 0, .pointer (some ⟨x.1.1.1, x.1.1.2, none⟩), undef, .agg #[.int .i64 h.kind, .int .i64 h.vk, .int .i64 h.vn, .string ⟨h.vs.toArray⟩, .bool h.vb, .int .i64 h.vc, .int .i64 h.row, .int .i64 h.col, .bool h.fr, .bool h.fc, .int .i64 h.row2, .int .i64 h.col2, .bool h.fr2, .bool h.fc2, .string ⟨h.txt.toArray⟩, .slice a n cap], .int .i64 0, .int .i64 0, .bool false, undef, .func (.func 42) #[] #[.pointer (some ⟨w1.heap.size, 0, none⟩)], .pointer (some ⟨x.1.1.1, x.1.1.2, none⟩), undef, undef, undef, undef, undef, undef, undef, undef, undef, undef], defers := [] })
      (fun _ _ => fun _ _ _ _ h _ _ => h) ?assign ?body ?done ?stop
    case hI => exact (ab_pure _ _ _ _).and ((ab_dk (fun c hc => ⟨hDlt c hc, fun h => h⟩) (by omega) (fun h => h)).and ((ab_boxed _ _ (by omega) (fun h => h)).and (ab_below (Nat.le_refl _) (by omega) (fun _ h => h.elim))))
    case hIx =>
      intro c
      exact (ab_pure _ _ _ (fun pre : List (Pt W0 (fun c => D c ∨ c = w.heap.size)) => c = .ret ∧ firstE (pre.map Pt.gh) ≠ 0)).and ((ab_boxed _ (fun pre : List (Pt W0 (fun c => D c ∨ c = w.heap.size)) => .int .i64 (firstE (pre.map Pt.gh))) (by omega) (fun h => h)).and (ab_below (Nat.le_refl _) (by omega) (fun _ h => h.elim)))
    case assign =>
      rintro l' pre x X K hI' hK
      simp only [Pt.enc]
      gi_wp2
      exact hK _ _ (KeepsFrom.refl _ _) (KpR.refl _ _ _) hI' rfl
    case body =>
      rintro l' pre ⟨⟨⟨xb, xo⟩, ⟨xh, xk⟩⟩, hx⟩ _ X hl' _ ⟨hf, dX, bX, hbX⟩ rfl hlen
      have hxr := dX.row hx
      have hXlt := dX.lt
      have HCC : Hid (CallsIn Fence.wide 0 Tryz.prog 35 #[.pointer (some ⟨xb, xo, none⟩)] X fun e w' => e = .returned (.int .i64 (callE xh xk)) ∧ Below X.heap.size X w') := callsIn_wide.2 (checkCall_any _ xh xk xb xo X hXlt hxr)
      obtain ⟨xD, ⟨xv, xc, _⟩, _⟩ := row_cons.1 hxr
      have c0 : X.cell? ⟨xb, xo, none⟩ = some (.int .i64 xh.kind) := xc 0 (by omega)
      have HF := hide hf
      have HDX := hide dX
      have HBX := hide bX
      have HbX := hide hbX
      have hXs : w.heap.size + 1 < X.heap.size := bX.lt
      clear hf dX bX hbX hxr hXlt xD xc
      have hP : callP (xh, xk) = if xh.kind = 6 then callE xh xk else 0 := rfl
      have hfa := first_app (pre.map Pt.gh) [(xh, xk)] HF.out
      have HFA : Hid (firstE (pre.map Pt.gh ++ [(xh, xk)]) = callP (xh, xk)) := by
        show _ = _
        rw [hfa]
        show (if callP (xh, xk) = 0 then (0 : Int) else callP (xh, xk)) = _
        split
        · rename_i h0; exact h0.symm
        · rfl
      have HG : Hid (firstE (List.map Pt.gh (pre ++ [mkPt xb xo xh xk hx])) = callP (xh, xk)) := (congrArg firstE (gh_snoc pre (mkPt xb xo xh xk hx))).trans HFA.out
      by_cases h6 : xh.kind = 6
      · have e6 : (xh.kind != 6) = false := by simp [h6]
        rw [if_pos h6] at hP
        have HP := hide hP
        clear hP hfa
        by_cases h0 : callE xh xk = 0
        · rw [h0] at HCC
          gi_wp2_with (refine ⟨trivial, rfl, ?_⟩; gi_at_call 35; refine (CallsIn.inRound l' HCC.out).mono ?_; rintro e w2 ⟨rfl, hb2⟩; have HB2 := hide hb2; clear hb2)
          refine ⟨keeps_of HB2.out, KpR.of HB2.out (by omega) hXs, ?_, HDX.out.below HB2.out, (HB2.out.block _ hXs).trans HBX.out, HbX.out.trans (HB2.out.mono HbX.out.size)⟩
          exact HG.out.trans (HP.out.trans h0)
        · have e0 : (callE xh xk == 0) = false := by simpa using h0
          have HN := hide h0
          generalize callE xh xk = E at *
          clear h0
          gi_wp2_with (refine ⟨trivial, rfl, ?_⟩; gi_at_call 35; refine (CallsIn.inRound l' HCC.out).mono ?_; rintro e w2 ⟨rfl, hb2⟩; have HB2 := hide hb2; clear hb2; have HX2 : Hid (Boxed w2 (w.heap.size + 1) 32 (.int .i64 0)) := (HB2.out.block _ hXs).trans HBX.out; have c1 := HX2.out.cell; have p1 := HX2.out.frozen)
          refine ⟨(keeps_of HB2.out).trans ((KeepsOthers.setCell _ _ _).from _), ⟨rfl, ?_⟩, ?_, ?_⟩
          · exact fun e => HN.out (HP.out.symm.trans (HG.out.symm.trans e))
          · exact Eq.subst (motive := fun q => Boxed (w2.setCell ⟨w.heap.size + 1, 0, none⟩ (.int .i64 E)) (w.heap.size + 1) 32 (.int .i64 q)) (HG.out.trans HP.out).symm (HX2.out.set _)
          · exact (HbX.out.trans (HB2.out.mono HbX.out.size)).setCell (p := ⟨w.heap.size + 1, 0, none⟩) (by simp) _
      · have e6 : (xh.kind != 6) = true := by simpa using h6
        rw [if_neg h6] at hP
        have HP := hide hP
        clear hP hfa
        gi_wp2
        refine ⟨KeepsFrom.refl _ _, KpR.refl _ _ _, ?_, HDX.out, HBX.out, HbX.out⟩
        exact HG.out.trans HP.out
    case done =>
      rintro D' xs X hD' hS ⟨hf, dX, bX, hbX⟩ hd
      have c1 := bX.cell
      have p1 := bX.frozen
      have HS : Hid (firstE (preF (.cons h k .nil)) = 0) := by rw [← hS]; exact hf
      have HBX := hide bX
      have HbX := hide hbX
      have HD' := hide hd
      clear hf dX bX hbX hd hS
      gi_wp2
      have y2 := (KeepsOthers.setCell X ⟨w.heap.size + 1, 0, none⟩ (.int .i64 0)).same D' _ HD'.out rfl
      exact leave_one y2 ⟨_, check_ret rfl (put_block y2 (HBX.out.set (.int .i64 0))), by rw [HS.out], put_below (HbX.out.setCell (p := ⟨w.heap.size + 1, 0, none⟩) (by simp) _) (by omega)⟩
    case stop =>
      rintro D' c pre X hD' hpre ⟨⟨rfl, hne⟩, bX, hbX⟩ hd
      have HS : Hid (firstE (preF (.cons h k .nil)) = firstE (pre.map Pt.gh)) := by
        obtain ⟨q, hq⟩ := hpre
        show _ = _
        rw [← hq]
        exact first_pre _ _ hne
      gi_wp2
      exact leave_one hd ⟨_, check_ret rfl (put_block hd bX), by rw [HS.out], put_below hbX (by omega)⟩
  · rw [if_neg he]
    have e0 : (checkN h k == 0) = false := by simpa using he
    generalize checkN h k = E at *
    clear he
    gi_wp2_with (first | (refine ⟨trivial, rfl, ?_⟩; gi_at_call 31; refine (HC.out _ HB0.out).mono ?_; rintro e w1 ⟨rfl, hb1⟩; have HB1 := hide hb1; clear hb1; have HX2 : Hid (Boxed w1 (w.heap.size + 1) 32 (.int .i64 0)) := (HB1.out.block _ HX1.out.lt).trans HX1.out; have c1 := HX2.out.cell; have p1 := HX2.out.frozen))
    exact leaves_marks [] _ (Mk.nil 0 0 _) ⟨_, check_ret rfl (HX2.out.set _), rfl, (HB0.out.trans (HB1.out.mono HB0.out.size)).setCell (p := ⟨w.heap.size + 1, 0, none⟩) (by simp) _⟩
end Go.Proofs.YtklldmidcmfbdaaGreatDoor
