/-
  The contract of the statements' shape, where the second node is the first one made anew (made by shapegen.py).
-/
import Derived.Test.YtfpmmckpobpokaaGreatRZ9
set_option maxRecDepth 100000
set_option maxHeartbeats 4000000
namespace Go.Proofs.YtfpmmckpobpokaaGreat
open Go.RowKit
def goneH (h h' : Hd) : Prop := (h.kind = 2 ∨ h.kind = 3) ∧ h'.kind = 1 ∧ h'.vc = 3
def keptH (h h' : Hd) : Prop := h' = ⟨h.kind, h.vk, h.vn, h.vs, h.vb, h.vc, h'.row, h'.col, h.fr, h'.fc, h'.row2, h'.col2, h'.fr2, h.fc2, h.txt⟩
def shF : Fo → Fo → Prop
 | .nil, .nil => True
 | .cons h k r, .cons h' k' r' => (goneH h h' ∨ (keptH h h' ∧ shF k k')) ∧ shF r r'
 | _, _ => False
theorem shF_len : ∀ k k' : Fo, shF k k' → k'.len = k.len
 | .nil, .nil, _ => rfl
 | .cons _ _ r, .cons _ _ r', hs => by simp [Fo.len, shF_len r r' hs.2]
 | .nil, .cons _ _ _, hs => hs.elim
 | .cons _ _ _, .nil, hs => hs.elim
def ShapeC (h : Hd) (k : Fo) (h' : Hd) (k' : Fo) : Prop :=
 ∀ (D D2 : Nat → Prop) (v v2 : Value) (w : World), (∀ c, D c → c < w.heap.size) → (∀ c, D2 c → c < w.heap.size) → Kv w D v k → Kv w D2 v2 k' →
  Calls Tryz.prog 26 #[.agg (hdC h v).toArray, .agg (hdC h' v2).toArray] w fun e w' => e = .returned (.bool true) ∧ Below w.heap.size w w'
def ShapeA : Fo → Prop
 | .nil => True
 | .cons h k r => (∀ h' k', goneH h h' ∨ (keptH h h' ∧ shF k k') → ShapeC h k h' k') ∧ ShapeA r
theorem shape_gone (h : Hd) (k : Fo) (h' : Hd) (k' : Fo) (hg : goneH h h') : ShapeC h k h' k' := by
 intro D D2 v v2 w hD hD2 hk hk2
 obtain ⟨a, n, cap, rfl, hn, hk⟩ := hk
 obtain ⟨a2, n2, cap2, rfl, hn2, hk2⟩ := hk2
 obtain ⟨g1, g2, g3⟩ := hg
 have HB1 : Box ((w.alloc (.cells (hdC h (.slice a n cap)).toArray 33)).alloc (.cells (hdC h' (.slice a2 n2 cap2)).toArray 33)) (w.heap.size + 1) (hdC h' (.slice a2 n2 cap2)) := by
  have := Box.new (w.alloc (.cells (hdC h (.slice a n cap)).toArray 33)) (hdC h' (.slice a2 n2 cap2))
  rw [World.size_alloc] at this
  exact this
 have B0 := ((Box.new w (hdC h (.slice a n cap))).alloc (.cells (hdC h' (.slice a2 n2 cap2)).toArray 33))
 have p0 := B0.cell 0 (.int .i64 h.kind) rfl
 clear B0
 have q0 := HB1.cell 0 (.int .i64 h'.kind) rfl
 have q5 := HB1.cell 5 (.int .i64 h'.vc) rfl
 have HB0 := hide (((Below.refl _ w).alloc (Nat.le_refl _) (.cells (hdC h (.slice a n cap)).toArray 33)).alloc (by simp) (.cells (hdC h' (.slice a2 n2 cap2)).toArray 33))
 rw [g2] at q0
 rw [g3] at q5
 clear hk hk2 HB1 hD hD2 g2 g3 hn hn2
 rcases g1 with g1 | g1
 all_goals (rw [g1] at p0; clear g1)
 all_goals (go_enter Tryz.func26, Tryz.ntmps26)
 all_goals (go_wp2)
 all_goals (go_ret)
 all_goals (exact ⟨rfl, HB0.out⟩)
theorem shape_step (h : Hd) (k : Fo) (h' : Hd) (k' : Fo) (hh : keptH h h') (hs : shF k k') (hA : ShapeA k) : ShapeC h k h' k' := by
  intro D D2 v v2 w hD hD2 hk hk2
  obtain ⟨a, n, cap, rfl, hn, hk⟩ := hk
  obtain ⟨a2, n2, cap2, rfl, hn2, hk2⟩ := hk2
  have hlen := shF_len _ _ hs
  rw [hlen] at hn2
  subst hn hn2
  obtain ⟨kind, vk, vn, vs, vb, vc, row, col, fr, fc, row2, col2, fr2, fc2, txt⟩ := h
  obtain ⟨row', col', fc', row2', col2', fr2', rfl⟩ : ∃ row' col' fc' row2' col2' fr2', h' = (⟨kind, vk, vn, vs, vb, vc, row', col', fr, fc', row2', col2', fr2', fc2, txt⟩ : Hd) := ⟨_, _, _, _, _, _, hh⟩
  clear hh hlen
  have HB1 : Box ((w.alloc (.cells (hdC (⟨kind, vk, vn, vs, vb, vc, row, col, fr, fc, row2, col2, fr2, fc2, txt⟩ : Hd) (.slice a k.len cap)).toArray 33)).alloc (.cells (hdC (⟨kind, vk, vn, vs, vb, vc, row', col', fr, fc', row2', col2', fr2', fc2, txt⟩ : Hd) (.slice a2 k.len cap2)).toArray 33)) (w.heap.size + 1) (hdC (⟨kind, vk, vn, vs, vb, vc, row', col', fr, fc', row2', col2', fr2', fc2, txt⟩ : Hd) (.slice a2 k.len cap2)) := by
    have := Box.new (w.alloc (.cells (hdC (⟨kind, vk, vn, vs, vb, vc, row, col, fr, fc, row2, col2, fr2, fc2, txt⟩ : Hd) (.slice a k.len cap)).toArray 33)) (hdC (⟨kind, vk, vn, vs, vb, vc, row', col', fr, fc', row2', col2', fr2', fc2, txt⟩ : Hd) (.slice a2 k.len cap2))
    rw [World.size_alloc] at this
    exact this
  have B0 := ((Box.new w (hdC (⟨kind, vk, vn, vs, vb, vc, row, col, fr, fc, row2, col2, fr2, fc2, txt⟩ : Hd) (.slice a k.len cap))).alloc (.cells (hdC (⟨kind, vk, vn, vs, vb, vc, row', col', fr, fc', row2', col2', fr2', fc2, txt⟩ : Hd) (.slice a2 k.len cap2)).toArray 33))
  have p0 := B0.cell 0 (.int .i64 kind) rfl
  have p1 := B0.cell 1 (.int .i64 vk) rfl
  have p2 := B0.cell 2 (.int .i64 vn) rfl
  have p3 := B0.cell 3 (.string ⟨(vs : List UInt8).toArray⟩) rfl
  have p4 := B0.cell 4 (.bool vb) rfl
  have p5 := B0.cell 5 (.int .i64 vc) rfl
  have p6 := B0.cell 6 (.int .i64 row) rfl
  have p7 := B0.cell 7 (.int .i64 col) rfl
  have p8 := B0.cell 8 (.bool fr) rfl
  have p9 := B0.cell 9 (.bool fc) rfl
  have p10 := B0.cell 10 (.int .i64 row2) rfl
  have p11 := B0.cell 11 (.int .i64 col2) rfl
  have p12 := B0.cell 12 (.bool fr2) rfl
  have p13 := B0.cell 13 (.bool fc2) rfl
  have p14 := B0.cell 14 (.string ⟨(txt : List UInt8).toArray⟩) rfl
  have p15 := B0.cell 15 (.slice a k.len cap) rfl
  clear B0
  have q0 := HB1.cell 0 (.int .i64 kind) rfl
  have q1 := HB1.cell 1 (.int .i64 vk) rfl
  have q2 := HB1.cell 2 (.int .i64 vn) rfl
  have q3 := HB1.cell 3 (.string ⟨(vs : List UInt8).toArray⟩) rfl
  have q4 := HB1.cell 4 (.bool vb) rfl
  have q5 := HB1.cell 5 (.int .i64 vc) rfl
  have q6 := HB1.cell 6 (.int .i64 row') rfl
  have q7 := HB1.cell 7 (.int .i64 col') rfl
  have q8 := HB1.cell 8 (.bool fr) rfl
  have q9 := HB1.cell 9 (.bool fc') rfl
  have q10 := HB1.cell 10 (.int .i64 row2') rfl
  have q11 := HB1.cell 11 (.int .i64 col2') rfl
  have q12 := HB1.cell 12 (.bool fr2') rfl
  have q13 := HB1.cell 13 (.bool fc2) rfl
  have q14 := HB1.cell 14 (.string ⟨(txt : List UInt8).toArray⟩) rfl
  have q15 := HB1.cell 15 (.slice a2 k.len cap2) rfl
  have HK1 := hide hk
  have HK2 := hide hk2
  have HA := hide hA
  have HS := hide hs
  have hB0 : Below w.heap.size w ((w.alloc (.cells (hdC (⟨kind, vk, vn, vs, vb, vc, row, col, fr, fc, row2, col2, fr2, fc2, txt⟩ : Hd) (.slice a k.len cap)).toArray 33)).alloc (.cells (hdC (⟨kind, vk, vn, vs, vb, vc, row', col', fr, fc', row2', col2', fr2', fc2, txt⟩ : Hd) (.slice a2 k.len cap2)).toArray 33)) := ((Below.refl _ _).alloc (Nat.le_refl _) _).alloc (by simp) _
  have HB0 := hide hB0
  clear hk hk2 hA HB1 hB0 hs
  go_enter Tryz.func26, Tryz.ntmps26
  go_wp2
  go_loopw [5] (fun u wr => ∃ (i : Nat) (F F2 : Fo), u = .int .i64 (i : Int) ∧ i + F.len = k.len ∧ (F = .nil ∨ ∃ b' o', a = some ⟨b', o', none⟩ ∧ k.len ≤ cap ∧ cap ≤ maxLen ∧ Row w D F b' (o' + i * 16)) ∧ (F2 = .nil ∨ ∃ b' o', a2 = some ⟨b', o', none⟩ ∧ k.len ≤ cap2 ∧ cap2 ≤ maxLen ∧ Row w D2 F2 b' (o' + i * 16)) ∧ shF F F2 ∧ ShapeA F ∧ Below w.heap.size w wr ∧ w.heap.size + 1 < wr.heap.size ∧ wr.cell? ⟨w.heap.size, 15, none⟩ = some (.slice a k.len cap) ∧ wr.cell? ⟨w.heap.size + 1, 15, none⟩ = some (.slice a2 k.len cap2)) (fun u _ => k.len - (intOf u).toNat)
  case atStart =>
    refine ⟨0, k, k', rfl, by omega, ?_, ?_, HS.out, HA.out, HB0.out, by simp, p15, q15⟩
    · rcases HK1.out with e | ⟨b', o', e1, e2, e3, e4⟩
      · exact .inl e
      · exact .inr ⟨b', o', e1, e2, e3, by simpa using e4⟩
    · rcases HK2.out with e | ⟨b', o', e1, e2, e3, e4⟩
      · exact .inl e
      · exact .inr ⟨b', o', e1, e2, e3, by simpa using e4⟩
  case round =>
    clear p0 p1 p2 p3 p4 p5 p6 p7 p8 p9 p10 p11 p12 p13 p14 p15 q0 q1 q2 q3 q4 q5 q6 q7 q8 q9 q10 q11 q12 q13 q14 q15
    obtain ⟨i, F, F2, rfl, hl, hF, hF2, hsF, hAF, hB, hz, c15, e15⟩ := hrel
    have HB := hide hB
    have hsz := hB.size
    clear hB
    match F, F2, hl, hF, hF2, hsF, hAF with
    | .nil, .cons _ _ _, _, _, _, hsF, _ => exact hsF.elim
    | .cons _ _ _, .nil, _, _, _, hsF, _ => exact hsF.elim
    | .nil, .nil, hl, _, _, _, _ =>
      have hli : ¬ (i : Int) < (k.len : Int) := by simp [Fo.len] at hl; omega
      go_wp2
      go_ret
      exact ⟨rfl, HB.out⟩
    | .cons h1 k1 r1, .cons h2 k2 r2, hl, hF, hF2, hsF, hAF =>
      have hli : (i : Int) < (k.len : Int) := by simp [Fo.len] at hl; omega
      have hl2 : i + 1 + r1.len = k.len := by simp [Fo.len] at hl; omega
      obtain ⟨b1, o1, rfl, hcap1, hcap2, hrw⟩ : ∃ b' o', a = some ⟨b', o', none⟩ ∧ k.len ≤ cap ∧ cap ≤ maxLen ∧ Row w D (.cons h1 k1 r1) b' (o' + i * 16) := by
        rcases hF with e | e
        · cases e
        · exact e
      obtain ⟨b2, o2, rfl, hcap3, hcap4, hrw2⟩ : ∃ b' o', a2 = some ⟨b', o', none⟩ ∧ k.len ≤ cap2 ∧ cap2 ≤ maxLen ∧ Row w D2 (.cons h2 k2 r2) b' (o' + i * 16) := by
        rcases hF2 with e | e
        · cases e
        · exact e
      obtain ⟨d1, ⟨v1, x1, y1⟩, z1⟩ := row_cons.1 hrw
      obtain ⟨d2, ⟨v2, x2, y2⟩, z2⟩ := row_cons.1 hrw2
      have HR1 : Hid (Row w D r1 b1 (o1 + (i + 1) * 16)) := by rw [show o1 + (i + 1) * 16 = o1 + i * 16 + 16 by omega]; exact z1
      have HR2 : Hid (Row w D2 r2 b2 (o2 + (i + 1) * 16)) := by rw [show o2 + (i + 1) * 16 = o2 + i * 16 + 16 by omega]; exact z2
      have HX : Hid (∀ W : World, Below w.heap.size w W → (∀ j, j < 16 → W.cell? ⟨b1, o1 + i * 16 + j, none⟩ = (hdC h1 v1)[j]?) ∧ (∀ j, j < 16 → W.cell? ⟨b2, o2 + i * 16 + j, none⟩ = (hdC h2 v2)[j]?)) := fun W hW => ⟨fun j hj => by rw [hW.cell (p := ⟨b1, o1 + i * 16 + j, none⟩) (hD b1 d1)]; exact x1 j hj, fun j hj => by rw [hW.cell (p := ⟨b2, o2 + i * 16 + j, none⟩) (hD2 b2 d2)]; exact x2 j hj⟩
      obtain ⟨hA1, hA2⟩ := hAF
      have HA2 := hide hA2
      have HS2 := hide hsF.2
      have HC : Hid (∀ W : World, Below w.heap.size w W → Calls Tryz.prog 26 #[.agg (hdC h1 v1).toArray, .agg (hdC h2 v2).toArray] W fun e w' => e = .returned (.bool true) ∧ Below W.heap.size W w') := fun W hW =>
        hA1 h2 k2 hsF.1 D D2 v1 v2 W (fun c hc => Nat.lt_of_lt_of_le (hD c hc) hW.size) (fun c hc => Nat.lt_of_lt_of_le (hD2 c hc) hW.size) (kv_to y1 (fun b hb => ⟨hb, hW.block b (hD b hb)⟩)) (kv_to y2 (fun b hb => ⟨hb, hW.block b (hD2 b hb)⟩))
      have HM := hide hcap2
      have HM2 := hide hcap4
      unfold maxLen at hcap2 hcap4
      clear hrw hrw2 d1 d2 x1 x2 y1 y2 z1 z2 hA1 hA2 hF hF2 hl hsF
      go_wp2
      refine wp_region_held_drew (S := fun W => (∀ j, j < 16 → W.cell? ⟨b1, o1 + i * 16 + j, none⟩ = (hdC h1 v1)[j]?) ∧ (∀ j, j < 16 → W.cell? ⟨b2, o2 + i * 16 + j, none⟩ = (hdC h2 v2)[j]?) ∧ W.cell? ⟨w.heap.size, 15, none⟩ = some (.slice (some ⟨b1, o1, none⟩) k.len cap) ∧ W.cell? ⟨w.heap.size + 1, 15, none⟩ = some (.slice (some ⟨b2, o2, none⟩) k.len cap2)) (by kernel_rfl) ⟨(HX.out wr HB.out).1, (HX.out wr HB.out).2, c15, e15⟩ (fun hHeld => ?_)
      refine takeF 0 (some 76) ?_; refine takeF 1 (some 77) ?_; refine takeF 2 (some 78) ?_; refine takeF 3 (some 79) ?_
      (refine takeE (i := 4) (some 80) rfl rfl (by kernel_rfl) (v := .agg (hdC h1 v1).toArray) rfl (fun W hSW => exec_loadAt _ rfl b1 (o1 + i * 16) rfl hSW.1) (by assumption) ?_; try simp only [Act.put, pA, pB, pC])
      refine takeF 5 (some 81) ?_; refine takeF 6 (some 82) ?_; refine takeF 7 (some 83) ?_; refine takeF 8 (some 84) ?_
      (refine takeE (i := 9) (some 85) rfl rfl (by kernel_rfl) (v := .agg (hdC h2 v2).toArray) rfl (fun W hSW => exec_loadAt _ rfl b2 (o2 + i * 16) rfl hSW.2.1) (by assumption) ?_; try simp only [Act.put, pA, pB, pC])
      have HBd : Hid (Below w.heap.size w wr.drew) := bar_below HB.out (Bar.of (below_drew0 wr))
      (refine wpAnyH_ready (rs := [10]) (by kernel_rfl) (by simp) ?_; refine AllReadyH.cons (o := _) rfl (fun K hK => ?_) AllReadyH.nil; go_simp; (go_at_call 26; refine (HC.out _ HBd.out).mono ?_; rintro e w1 ⟨rfl, hb1⟩; have HB1 := hide (bar_below HBd.out (Bar.of hb1)); have HZ1 : Hid (wr.heap.size ≤ w1.heap.size) := hb1.size; have k15 : w1.cell? ⟨w.heap.size, 15, none⟩ = some (.slice (some ⟨b1, o1, none⟩) k.len cap) := by { rw [hb1.cell (p := ⟨w.heap.size, 15, none⟩) (by show w.heap.size < wr.heap.size; omega)]; exact c15 }; have l15 : w1.cell? ⟨w.heap.size + 1, 15, none⟩ = some (.slice (some ⟨b2, o2, none⟩) k.len cap2) := by { rw [hb1.cell (p := ⟨w.heap.size + 1, 15, none⟩) hz]; exact e15 }; clear hb1); refine hK.out _ _ ⟨(HX.out w1 HB1.out).1, (HX.out w1 HB1.out).2, k15, l15⟩ (fun hHeld => ?_); clear hK K; try simp only [Act.put, pA, pB, pC])
      refine takeF 11 (some 87) ?_
      refine wpAnyH_done (by kernel_rfl) ?_ _
      go_wp2
      go_roundw
      case rel => exact ⟨i + 1, r1, r2, by go_num, by omega, .inr ⟨b1, o1, rfl, hcap1, HM.out, HR1.out⟩, .inr ⟨b2, o2, rfl, hcap3, HM2.out, HR2.out⟩, HS2.out, HA2.out, HB1.out, by have := HZ1.out; omega, k15, l15⟩
      case measure => simp [intOf]; omega
theorem shape_all : ∀ (F : Fo), ShapeA F
 | .nil => trivial
 | .cons h k r => ⟨fun h' k' hq => hq.elim (fun hg => shape_gone h k h' k' hg) (fun hq => shape_step h k h' k' hq.1 hq.2 (shape_all k)), shape_all r⟩
theorem shape_any (h : Hd) (k : Fo) (h' : Hd) (k' : Fo) (hq : goneH h h' ∨ (keptH h h' ∧ shF k k')) : ShapeC h k h' k' := hq.elim (fun hg => shape_gone h k h' k' hg) (fun hq => shape_step h k h' k' hq.1 hq.2 (shape_all k))
end Go.Proofs.YtfpmmckpobpokaaGreat
