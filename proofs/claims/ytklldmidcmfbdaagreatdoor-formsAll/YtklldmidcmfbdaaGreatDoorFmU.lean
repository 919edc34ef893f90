/-
  The contract of forms.Uses.
-/
import Derived.Test.YtklldmidcmfbdaaGreatDoorFmL
import Derived.Test.YtklldmidcmfbdaaGreatDoorZ5b
namespace Go.Proofs.YtklldmidcmfbdaaGreatDoor
open Go.RowKit Go.Shelf

attribute [local go_sem] Oper.semAt_some

/-- Is a function of a name called by one of some nodes? -/
def usesB (s : ByteArray) (l : List (Hd × Fo)) : Bool := l.any fun x => decide (x.1.kind = 6) && decide ((⟨x.1.txt.toArray⟩ : ByteArray) = s)
/-- What Uses tells. -/
def usesN (s : ByteArray) (h : Hd) (k : Fo) : Bool := decide (checkN h k = 0) && usesB s (preF (.cons h k .nil))
theorem uses_ret {tmps : Array Value} {Z : World} {b1 : Nat} {e : Bool} (h2 : tmps.getD 4 undef = .pointer (some ⟨b1, 0, none⟩)) (k1 : Boxed Z b1 4 (.bool e)) : (results Tryz.f21 tmps).run Tryz.prog Z = .ok (.bool e) Z := by
  have h2' : tmps[4]?.getD undef = .pointer (some ⟨b1, 0, none⟩) := by simpa using h2
  have c2 := k1.cell
  simp [results, Tryz.results21, h2', asAddr, go_sem, c2]
set_option maxRecDepth 100000 in
set_option maxHeartbeats 4000000 in
theorem uses_any (D : Nat → Prop) (h : Hd) (k : Fo) (a : Option Addr) (n cap : Nat) (s : ByteArray) (w : World) (hD : ∀ c, D c → c < w.heap.size) (hk : Kv w D (.slice a n cap) k) (hm : k.many + 1 ≤ 4096) (hv : h.vs.length ≤ maxLen) (ht : h.txt.length ≤ maxLen) (ho : okF k) :
    Calls Tryz.prog 21 #[.agg (hdC h (.slice a n cap)).toArray, .string s] w fun e w' => e = .returned (.bool (usesN s h k)) ∧ Below w.heap.size w w' := by
  have HC : Hid (∀ W : World, Below w.heap.size w W → CallsIn Fence.wide 0 Tryz.prog 31 #[.agg #[.int .i64 h.kind, .int .i64 h.vk, .int .i64 h.vn, .string ⟨h.vs.toArray⟩, .bool h.vb, .int .i64 h.vc, .int .i64 h.row, .int .i64 h.col, .bool h.fr, .bool h.fc, .int .i64 h.row2, .int .i64 h.col2, .bool h.fr2, .bool h.fc2, .string ⟨h.txt.toArray⟩, .slice a n cap]] W fun e w' => e = .returned (.int .i64 (checkN h k)) ∧ Below W.heap.size W w') := fun W hW => callsIn_wide.2 (check_node D h k a n cap W (fun c hc => Nat.lt_of_lt_of_le (hD c hc) hW.size) (kv_to hk (fun c hc => ⟨hc, hW.block c (hD c hc)⟩)) hm hv ht ho)
  have HK := hide hk
  have HD := hide hD
  have hB0 : Below w.heap.size w (((w.alloc (.cells (hdC h (.slice a n cap)).toArray 68)).alloc (.cells #[.string s] 9)).alloc (.cells #[.bool false] 4)) := (((Below.refl _ w).alloc (Nat.le_refl _) _).alloc (by simp) _).alloc (by simp; omega) _
  have k0 : (((w.alloc (.cells (hdC h (.slice a n cap)).toArray 68)).alloc (.cells #[.string s] 9)).alloc (.cells #[.bool false] 4)).heap[w.heap.size]? = some (.cells (hdC h (.slice a n cap)).toArray 68 (0, 0)) := (Below.heap_alloc _ _ _ (by simp; omega)).trans ((Below.heap_alloc _ _ _ (by simp)).trans (World.alloc_heap_new w _))
  have k1 := (Boxed.new (w.alloc (.cells (hdC h (.slice a n cap)).toArray 68)) 9 (.string s)).alloc (.cells #[.bool false] 4)
  rw [World.size_alloc] at k1
  have k2 := Boxed.new ((w.alloc (.cells (hdC h (.slice a n cap)).toArray 68)).alloc (.cells #[.string s] 9)) 4 (.bool false)
  rw [World.size_alloc, World.size_alloc] at k2
  have HB0 := hide hB0
  have HX0 := hide k0
  have HX1 := hide k1
  have HX2 := hide k2
  have hc : ∀ j, (((w.alloc (.cells (hdC h (.slice a n cap)).toArray 68)).alloc (.cells #[.string s] 9)).alloc (.cells #[.bool false] 4)).cell? ⟨w.heap.size, j, none⟩ = (hdC h (.slice a n cap)).toArray[j]? := fun j => cell_of_row _ _ _ _ _ _ k0
  have d0 : (((w.alloc (.cells (hdC h (.slice a n cap)).toArray 68)).alloc (.cells #[.string s] 9)).alloc (.cells #[.bool false] 4)).cell? ⟨w.heap.size, 0, none⟩ = some (.int .i64 h.kind) := hc 0
  have d1 : (((w.alloc (.cells (hdC h (.slice a n cap)).toArray 68)).alloc (.cells #[.string s] 9)).alloc (.cells #[.bool false] 4)).cell? ⟨w.heap.size, 1, none⟩ = some (.int .i64 h.vk) := hc 1
  have d2 : (((w.alloc (.cells (hdC h (.slice a n cap)).toArray 68)).alloc (.cells #[.string s] 9)).alloc (.cells #[.bool false] 4)).cell? ⟨w.heap.size, 2, none⟩ = some (.int .i64 h.vn) := hc 2
  have d3 : (((w.alloc (.cells (hdC h (.slice a n cap)).toArray 68)).alloc (.cells #[.string s] 9)).alloc (.cells #[.bool false] 4)).cell? ⟨w.heap.size, 3, none⟩ = some (.string ⟨h.vs.toArray⟩) := hc 3
  have d4 : (((w.alloc (.cells (hdC h (.slice a n cap)).toArray 68)).alloc (.cells #[.string s] 9)).alloc (.cells #[.bool false] 4)).cell? ⟨w.heap.size, 4, none⟩ = some (.bool h.vb) := hc 4
  have d5 : (((w.alloc (.cells (hdC h (.slice a n cap)).toArray 68)).alloc (.cells #[.string s] 9)).alloc (.cells #[.bool false] 4)).cell? ⟨w.heap.size, 5, none⟩ = some (.int .i64 h.vc) := hc 5
  have d6 : (((w.alloc (.cells (hdC h (.slice a n cap)).toArray 68)).alloc (.cells #[.string s] 9)).alloc (.cells #[.bool false] 4)).cell? ⟨w.heap.size, 6, none⟩ = some (.int .i64 h.row) := hc 6
  have d7 : (((w.alloc (.cells (hdC h (.slice a n cap)).toArray 68)).alloc (.cells #[.string s] 9)).alloc (.cells #[.bool false] 4)).cell? ⟨w.heap.size, 7, none⟩ = some (.int .i64 h.col) := hc 7
  have d8 : (((w.alloc (.cells (hdC h (.slice a n cap)).toArray 68)).alloc (.cells #[.string s] 9)).alloc (.cells #[.bool false] 4)).cell? ⟨w.heap.size, 8, none⟩ = some (.bool h.fr) := hc 8
  have d9 : (((w.alloc (.cells (hdC h (.slice a n cap)).toArray 68)).alloc (.cells #[.string s] 9)).alloc (.cells #[.bool false] 4)).cell? ⟨w.heap.size, 9, none⟩ = some (.bool h.fc) := hc 9
  have d10 : (((w.alloc (.cells (hdC h (.slice a n cap)).toArray 68)).alloc (.cells #[.string s] 9)).alloc (.cells #[.bool false] 4)).cell? ⟨w.heap.size, 10, none⟩ = some (.int .i64 h.row2) := hc 10
  have d11 : (((w.alloc (.cells (hdC h (.slice a n cap)).toArray 68)).alloc (.cells #[.string s] 9)).alloc (.cells #[.bool false] 4)).cell? ⟨w.heap.size, 11, none⟩ = some (.int .i64 h.col2) := hc 11
  have d12 : (((w.alloc (.cells (hdC h (.slice a n cap)).toArray 68)).alloc (.cells #[.string s] 9)).alloc (.cells #[.bool false] 4)).cell? ⟨w.heap.size, 12, none⟩ = some (.bool h.fr2) := hc 12
  have d13 : (((w.alloc (.cells (hdC h (.slice a n cap)).toArray 68)).alloc (.cells #[.string s] 9)).alloc (.cells #[.bool false] 4)).cell? ⟨w.heap.size, 13, none⟩ = some (.bool h.fc2) := hc 13
  have d14 : (((w.alloc (.cells (hdC h (.slice a n cap)).toArray 68)).alloc (.cells #[.string s] 9)).alloc (.cells #[.bool false] 4)).cell? ⟨w.heap.size, 14, none⟩ = some (.string ⟨h.txt.toArray⟩) := hc 14
  have d15 : (((w.alloc (.cells (hdC h (.slice a n cap)).toArray 68)).alloc (.cells #[.string s] 9)).alloc (.cells #[.bool false] 4)).cell? ⟨w.heap.size, 15, none⟩ = some (.slice a n cap) := hc 15
  clear hc hk hD hB0 k0 k1 k2 hm hv ht ho
  refine (callsIn_wide (n := 0)).1 ?_
  refine callsIn_of_wp_marks Tryz.func21 rfl trivial ?_ rfl
  simp only [Tryz.ntmps21, List.size_toArray, List.length_cons, List.length_nil, Nat.reduceAdd, Nat.reduceSub, Array.replicate_succ, Array.replicate_zero, List.push_toArray, List.append_toArray, List.nil_append, List.cons_append]
  unfold usesN
  by_cases he : checkN h k = 0
  · rw [he] at HC
    rw [he, show decide ((0 : Int) = 0) = true from rfl, Bool.true_and]
    clear he
    gi_wp2_with (first | (refine ⟨trivial, rfl, ?_⟩; gi_at_call 31; refine (HC.out _ HB0.out).mono ?_; rintro e w1 ⟨rfl, hb1⟩; have HB1 := hide hb1; clear hb1 d0 d1 d2 d3 d4 d5 d6 d7 d8 d9 d10 d11 d12 d13 d14 d15) | (refine ⟨trivial, rfl, ?_⟩; gi_at_call 32; refine (callsIn_wide.2 (parts_any _ _ _)).mono ?_; rintro e wz ⟨rfl, hz⟩; subst wz))
    have HY1 : Hid (Boxed w1 (w.heap.size + 1) 9 (.string s)) := (HB1.out.block _ HX1.out.lt).trans HX1.out
    have HY2 : Hid (Boxed w1 (w.heap.size + 1 + 1) 4 (.bool false)) := (HB1.out.block _ HX2.out.lt).trans HX2.out
    have HX3 : Hid (w1.heap[w.heap.size]? = some (.cells (hdC h (.slice a n cap)).toArray 68 (0, 0))) := (HB1.out.block _ (Array.getElem?_eq_some_iff.1 HX0.out).1).trans HX0.out
    have HB2 : Hid (Below w.heap.size w w1) := HB0.out.trans (HB1.out.mono HB0.out.size)
    have bb : Below w1.heap.size w1 (w1.alloc (.cells #[.pointer (some ⟨w.heap.size, 0, none⟩)] 92)) := (Below.refl _ _).alloc (Nat.le_refl _) _
    have k1 := HY1.out.alloc (.cells #[.pointer (some ⟨w.heap.size, 0, none⟩)] 92)
    have k2 := HY2.out.alloc (.cells #[.pointer (some ⟨w.heap.size, 0, none⟩)] 92)
    have k0 : (w1.alloc (.cells #[.pointer (some ⟨w.heap.size, 0, none⟩)] 92)).heap[w.heap.size]? = some (.cells (hdC h (.slice a n cap)).toArray 68 (0, 0)) := (bb.block _ (Array.getElem?_eq_some_iff.1 HX3.out).1).trans HX3.out
    have hb : Below w.heap.size w (w1.alloc (.cells #[.pointer (some ⟨w.heap.size, 0, none⟩)] 92)) := HB2.out.trans (bb.mono HB2.out.size)
    have hw1 : w.heap.size + 1 + 1 < w1.heap.size := HY2.out.lt
    have hro1 : rowAt w1 (w.heap.size + 1 + 1) = none := by unfold rowAt; rw [HY2.out.cell]; rfl
    have sb := Sf.new (B := w.heap.size + 1 + 1) w1 #[.pointer (some ⟨w.heap.size, 0, none⟩)] 92 hw1 (fun g hg => by rw [hro1] at hg; cases hg)
    obtain ⟨W0, hW0⟩ : ∃ W0, w1.alloc (.cells #[.pointer (some ⟨w.heap.size, 0, none⟩)] 92) = W0 := ⟨_, rfl⟩
    have z0 : W0.heap.size = w1.heap.size + 1 := by rw [← hW0]; simp
    rw [hW0] at k1 k2 k0 hb sb ⊢
    have hr0 : rowAt W0 (w.heap.size + 1 + 1) = none := by unfold rowAt; rw [k2.cell]; rfl
    have hRI : RowIn (w.heap.size + 1 + 1) W0 := ⟨by omega, fun g hg => by rw [hr0] at hg; cases hg⟩
    have s1 : Sf (w.heap.size + 1 + 1) W0 (w.heap.size + 1) #[.string s] 9 := ⟨k1, by omega, by rw [hr0]; simp, by omega⟩
    obtain ⟨hDk, hRow⟩ := node_loop HD.out HK.out hb k0 (B := w.heap.size + 1 + 1) (by omega) (by omega) (by rw [hr0]; simp)
    have hDlt := hDk.lt
    clear hW0 bb HY1 HY2 HX3 HB2 HB1 HC HK HD HB0 HX0 HX1 HX2 hro1 k0 k1
    refine rangeR (α := Pt W0 (fun c => D c ∨ c = w.heap.size)) (B := w.heap.size + 1 + 1) (n₀ := w.heap.size) (X := fun _ => False) rfl (enters_of Tryz.func42 (by kernel_rfl) rfl) (parts_step k (parts_all k) w.heap.size (w.heap.size + 1 + 1) _ W0 h w.heap.size 0 w1.heap.size hRow)
      (fun X hX => ⟨sb.below hX, hDk.below hX, hRI.below hX, by have := hX.size; omega⟩) (fun _ => rfl) (by omega) (by omega) (fun _ h => h.elim)
      (fun pre X => usesB s (pre.map Pt.gh) = false ∧ Dk w.heap.size (w.heap.size + 1 + 1) (fun c => D c ∨ c = w.heap.size) W0 X ∧ Sf (w.heap.size + 1 + 1) X (w.heap.size + 1) #[.string s] 9 ∧ Boxed X (w.heap.size + 1 + 1) 4 (.bool false) ∧ Below w.heap.size w X)
      (fun c pre X => (c = .ret ∧ usesB s (pre.map Pt.gh) = true) ∧ Boxed X (w.heap.size + 1 + 1) 4 (.bool true) ∧ Below w.heap.size w X)
      ?hI ?hIx ⟨rfl, hDk, s1, k2, hb⟩
      (fun x a' _ => a' = { tmps := #[.agg (hdC h (.slice a n cap)).toArray, .string s, .pointer (some ⟨w.heap.size, 0, none⟩), .pointer (some ⟨w.heap.size + 1, 0, none⟩), .pointer (some ⟨w.heap.size + 1 + 1, 0, none⟩), .pointer (some ⟨x.1.1.1, x.1.1.2, none⟩), .agg #[.int .i64 h.kind, .int .i64 h.vk, .int .i64 h.vn, .string ⟨h.vs.toArray⟩, .bool h.vb, .int .i64 h.vc, .int .i64 h.row, .int .i64 h.col, .bool h.fr, .bool h.fc, .int .i64 h.row2, .int .i64 h.col2, .bool h.fr2, .bool h.fc2, .string ⟨h.txt.toArray⟩, .slice a n cap], .int .i64 0, .bool false, .func (.func 42) #[] #[.pointer (some ⟨w1.heap.size, 0, none⟩)], .pointer (some ⟨x.1.1.1, x.1.1.2, none⟩), undef, undef, undef, undef, undef, undef, undef, undef, undef, undef, undef, undef, undef], defers := [] })
      (fun _ _ => fun _ _ _ _ h _ _ => h) ?assign ?body ?done ?stop
    case hI => exact (ab_pure _ _ _ _).and ((ab_dk (fun c hc => ⟨hDlt c hc, fun h => h⟩) (by omega) (fun h => h)).and ((ab_sf _ _ (by omega) (fun h => h) (by omega) (fun h => h)).and ((ab_boxed _ _ (by omega) (fun h => h)).and (ab_below (Nat.le_refl _) (by omega) (fun _ h => h.elim)))))
    case hIx =>
      intro c
      exact (ab_pure _ _ _ (fun pre : List (Pt W0 (fun c => D c ∨ c = w.heap.size)) => c = .ret ∧ usesB s (pre.map Pt.gh) = true)).and ((ab_boxed _ _ (by omega) (fun h => h)).and (ab_below (Nat.le_refl _) (by omega) (fun _ h => h.elim)))
    case assign =>
      rintro l' pre x X K hI' hK
      simp only [Pt.enc]
      gi_wp2
      exact hK _ _ (KeepsFrom.refl _ _) (KpR.refl _ _ _) hI' rfl
    case body =>
      rintro l' pre ⟨⟨⟨xb, xo⟩, ⟨xh, xk⟩⟩, hx⟩ _ X hl' _ ⟨hf, dX, sX, bX, hbX⟩ rfl hlen
      have hxr := dX.row hx
      obtain ⟨xD, ⟨xv, xc, _⟩, _⟩ := row_cons.1 hxr
      have c0 : X.cell? ⟨xb, xo, none⟩ = some (.int .i64 xh.kind) := xc 0 (by omega)
      have c14 : X.cell? ⟨xb, xo + 14, none⟩ = some (.string ⟨xh.txt.toArray⟩) := xc 14 (by omega)
      have cn : X.cell? ⟨w.heap.size + 1, 0, none⟩ = some (.string s) := sX.cell 0
      have c2 := bX.cell
      have p2 := bX.frozen
      have HF := hide hf
      have HDX := hide dX
      have HSX := hide sX
      have HBX := hide bX
      have HbX := hide hbX
      have hXs : w.heap.size + 1 + 1 < X.heap.size := bX.lt
      have HG : Hid (usesB s (List.map Pt.gh (pre ++ [mkPt xb xo xh xk hx])) = (decide (xh.kind = 6) && decide ((⟨xh.txt.toArray⟩ : ByteArray) = s))) := (congrArg (usesB s) (gh_snoc pre (mkPt xb xo xh xk hx))).trans (by
        show List.any (pre.map Pt.gh ++ [(xh, xk)]) _ = _
        rw [List.any_append]
        have hf' : List.any (pre.map Pt.gh) (fun x => decide (x.1.kind = 6) && decide ((⟨x.1.txt.toArray⟩ : ByteArray) = s)) = false := hf
        rw [hf']
        simp)
      clear hf dX sX bX hbX hxr xD xc
      have hmx : Tryz.prog.follows .mixedOrders = true := by kernel_rfl
      by_cases h6 : xh.kind = 6
      · have e6 : (xh.kind == 6) = true := by simp [h6]
        by_cases hs : (⟨xh.txt.toArray⟩ : ByteArray) = s
        · have HT : Hid (usesB s (List.map Pt.gh (pre ++ [mkPt xb xo xh xk hx])) = true) := HG.out.trans (by simp [h6, hs])
          generalize (⟨xh.txt.toArray⟩ : ByteArray) = T at *
          subst hs
          clear h6 HG
          gi_wp2
          gi_region_with_o (fail)
          all_goals gi_wp2
          all_goals exact ⟨((KeepsOthers.drew _).trans (KeepsOthers.setCell _ _ _)).from _, ⟨rfl, HT.out⟩, Boxed.set (v := .bool false) _ HBX.out, HbX.out.drew.setCell (p := ⟨w.heap.size + 1 + 1, 0, none⟩) (by simp; omega) _⟩
        · have HT : Hid (usesB s (List.map Pt.gh (pre ++ [mkPt xb xo xh xk hx])) = false) := HG.out.trans (by simp [hs])
          have es := text_ne hs
          generalize (⟨xh.txt.toArray⟩ : ByteArray) = T at *
          clear h6 HG hs
          gi_wp2
          gi_region_with_o (fail)
          all_goals gi_wp2
          all_goals exact ⟨(KeepsOthers.drew _).from _, KpR.of ((Below.refl _ _).drew) (by omega) hXs, HT.out, HDX.out.below ((Below.refl _ _).drew), HSX.out.below ((Below.refl _ _).drew), HBX.out, HbX.out.drew⟩
      · have e6 : (xh.kind == 6) = false := by simpa using h6
        have HT : Hid (usesB s (List.map Pt.gh (pre ++ [mkPt xb xo xh xk hx])) = false) := HG.out.trans (by simp [h6])
        clear HG h6
        gi_wp2
        gi_region_with_o (fail)
        all_goals gi_wp2
        all_goals exact ⟨(KeepsOthers.drew _).from _, KpR.of ((Below.refl _ _).drew) (by omega) hXs, HT.out, HDX.out.below ((Below.refl _ _).drew), HSX.out.below ((Below.refl _ _).drew), HBX.out, HbX.out.drew⟩
    case done =>
      rintro D' xs X hD' hS ⟨hf, dX, sX, bX, hbX⟩ hd
      have c1 := bX.cell
      have p1 := bX.frozen
      have HS : Hid (usesB s (preF (.cons h k .nil)) = false) := by rw [← hS]; exact hf
      have HBX := hide bX
      have HbX := hide hbX
      have HD' := hide hd
      clear hf dX sX bX hbX hd hS
      gi_wp2
      have y2 := (KeepsOthers.setCell X ⟨w.heap.size + 1 + 1, 0, none⟩ (.bool false)).same D' _ HD'.out rfl
      exact leave_one y2 ⟨_, uses_ret rfl (put_block y2 (HBX.out.set (.bool false))), by rw [HS.out], put_below (HbX.out.setCell (p := ⟨w.heap.size + 1 + 1, 0, none⟩) (by simp; omega) _) (by omega)⟩
    case stop =>
      rintro D' c pre X hD' hpre ⟨⟨rfl, hne⟩, bX, hbX⟩ hd
      have HS : Hid (usesB s (preF (.cons h k .nil)) = true) := by
        obtain ⟨q, hq⟩ := hpre
        show _ = _
        rw [← hq]
        unfold usesB at hne ⊢
        rw [List.any_append, hne, Bool.true_or]
      gi_wp2
      exact leave_one hd ⟨_, uses_ret rfl (put_block hd bX), by rw [HS.out], put_below hbX (by omega)⟩
  · have e0 : (checkN h k == 0) = false := by simpa using he
    rw [show decide (checkN h k = 0) = false by simpa using he, Bool.false_and]
    generalize checkN h k = E at *
    clear he
    gi_wp2_with (first | (refine ⟨trivial, rfl, ?_⟩; gi_at_call 31; refine (HC.out _ HB0.out).mono ?_; rintro e w1 ⟨rfl, hb1⟩; have HB1 := hide hb1; clear hb1; have HY2 : Hid (Boxed w1 (w.heap.size + 1 + 1) 4 (.bool false)) := (HB1.out.block _ HX2.out.lt).trans HX2.out; have c1 := HY2.out.cell; have p1 := HY2.out.frozen))
    exact leaves_marks [] _ (Mk.nil 0 0 _) ⟨_, uses_ret rfl (HY2.out.set _), rfl, (HB0.out.trans (HB1.out.mono HB0.out.size)).setCell (p := ⟨w.heap.size + 1 + 1, 0, none⟩) (by simp; omega) _⟩
end Go.Proofs.YtklldmidcmfbdaaGreatDoor
