/-
  The contract of the answer's Same, where the two nodes are alike (made by samegen.py).
  How many and how deep, as the answer counts: the contracts of its count and Depth.
  What the walks of layer 8's laws share: a node in its block with its kids; nodes read under a guard; what Parse tells.
-/
import Derived.Test.YtiaoaifoecmemaaGreatDoorRQ12
import Derived.Test.YtiaoaifoecmemaaGreatDoorRQ11
set_option maxRecDepth 100000
set_option maxHeartbeats 4000000
namespace Go.Proofs.YtiaoaifoecmemaaGreatDoor
open Go.RowKit
theorem exec_loadAt {o : Oper} {a : Act} {W : World} (x : Operand) (ho : o.op = .load 34 x) (b i : Nat) (hx : a.eval x = .pointer (some ⟨b, i, none⟩)) {h : Hd} {v : Value} (hc : ∀ j, j < 16 → W.cell? ⟨b, i + j, none⟩ = (hdC h v)[j]?) :
  (execOp a.eval o).run Tryz.prog W = .ok (.value (.agg (hdC h v).toArray)) W := by
 have hr : W.rangeAt b i (hdC h v) := fun j u hu => by
  have hj : j < 16 := (List.getElem?_eq_some_iff.1 hu).1
  rw [hc j hj]; exact hu
 unfold execOp
 simp only [ho, hx, Instr.loadAt, Instr.sureAddr, Sem.run_bind, Sem.run_pure, Result.andThen_ok, run_loadVar_mid W b i 34 (hdC h v) _ hr Tryz.underlying34 rfl (by rw [sizeNode]; rfl)]
def SameC (k : Fo) : Prop :=
 ∀ (D D2 : Nat → Prop) (h : Hd) (v v2 : Value) (w : World), (∀ c, D c → c < w.heap.size) → (∀ c, D2 c → c < w.heap.size) → Kv w D v k → Kv w D2 v2 k →
  Calls Tryz.prog 12 #[.agg (hdC h v).toArray, .agg (hdC h v2).toArray] w fun e w' => e = .returned (.bool true) ∧ Below w.heap.size w w'
def SameA : Fo → Prop
 | .nil => True
 | .cons _ k r => SameC k ∧ SameA r
theorem same_step (k : Fo) (hA : SameA k) : SameC k := by
  intro D D2 h v v2 w hD hD2 hk hk2
  obtain ⟨a, n, cap, rfl, hn, hk⟩ := hk
  obtain ⟨a2, n2, cap2, rfl, hn2, hk2⟩ := hk2
  subst hn hn2
  obtain ⟨kind, vk, vn, vs, vb, vc, row, col, fr, fc, row2, col2, fr2, fc2, txt⟩ := h
  have HB1 : Box ((w.alloc (.cells (hdC (⟨kind, vk, vn, vs, vb, vc, row, col, fr, fc, row2, col2, fr2, fc2, txt⟩ : Hd) (.slice a k.len cap)).toArray 34)).alloc (.cells (hdC (⟨kind, vk, vn, vs, vb, vc, row, col, fr, fc, row2, col2, fr2, fc2, txt⟩ : Hd) (.slice a2 k.len cap2)).toArray 34)) (w.heap.size + 1) (hdC (⟨kind, vk, vn, vs, vb, vc, row, col, fr, fc, row2, col2, fr2, fc2, txt⟩ : Hd) (.slice a2 k.len cap2)) := by
    have := Box.new (w.alloc (.cells (hdC (⟨kind, vk, vn, vs, vb, vc, row, col, fr, fc, row2, col2, fr2, fc2, txt⟩ : Hd) (.slice a k.len cap)).toArray 34)) (hdC (⟨kind, vk, vn, vs, vb, vc, row, col, fr, fc, row2, col2, fr2, fc2, txt⟩ : Hd) (.slice a2 k.len cap2))
    rw [World.size_alloc] at this
    exact this
  have B0 := ((Box.new w (hdC (⟨kind, vk, vn, vs, vb, vc, row, col, fr, fc, row2, col2, fr2, fc2, txt⟩ : Hd) (.slice a k.len cap))).alloc (.cells (hdC (⟨kind, vk, vn, vs, vb, vc, row, col, fr, fc, row2, col2, fr2, fc2, txt⟩ : Hd) (.slice a2 k.len cap2)).toArray 34))
  have p0 := B0.cell 0 (.int .i64 kind) rfl
  have p1 := B0.cell 1 (.int .i64 vk) rfl
  have p2 := B0.cell 2 (.int .i64 vn) rfl
  have p3 := B0.cell 3 (.string ⟨(vs : List UInt8).toArray⟩) rfl
  have p4 := B0.cell 4 (.bool vb) rfl
  have p5 := B0.cell 5 (.int .i64 vc) rfl
  have p6 := B0.cell 6 (.int .i64 row) rfl
  have p7 := B0.cell 7 (.int .i64 col) rfl
  have p8 := B0.cell 8 (.bool fr) rfl
  have p9 := B0.cell 9 (.bool fc) rfl
  have p10 := B0.cell 10 (.int .i64 row2) rfl
  have p11 := B0.cell 11 (.int .i64 col2) rfl
  have p12 := B0.cell 12 (.bool fr2) rfl
  have p13 := B0.cell 13 (.bool fc2) rfl
  have p14 := B0.cell 14 (.string ⟨(txt : List UInt8).toArray⟩) rfl
  have p15 := B0.cell 15 (.slice a k.len cap) rfl
  clear B0
  have q0 := HB1.cell 0 (.int .i64 kind) rfl
  have q1 := HB1.cell 1 (.int .i64 vk) rfl
  have q2 := HB1.cell 2 (.int .i64 vn) rfl
  have q3 := HB1.cell 3 (.string ⟨(vs : List UInt8).toArray⟩) rfl
  have q4 := HB1.cell 4 (.bool vb) rfl
  have q5 := HB1.cell 5 (.int .i64 vc) rfl
  have q6 := HB1.cell 6 (.int .i64 row) rfl
  have q7 := HB1.cell 7 (.int .i64 col) rfl
  have q8 := HB1.cell 8 (.bool fr) rfl
  have q9 := HB1.cell 9 (.bool fc) rfl
  have q10 := HB1.cell 10 (.int .i64 row2) rfl
  have q11 := HB1.cell 11 (.int .i64 col2) rfl
  have q12 := HB1.cell 12 (.bool fr2) rfl
  have q13 := HB1.cell 13 (.bool fc2) rfl
  have q14 := HB1.cell 14 (.string ⟨(txt : List UInt8).toArray⟩) rfl
  have q15 := HB1.cell 15 (.slice a2 k.len cap2) rfl
  have HK1 := hide hk
  have HK2 := hide hk2
  have HA := hide hA
  have hB0 : Below w.heap.size w ((w.alloc (.cells (hdC (⟨kind, vk, vn, vs, vb, vc, row, col, fr, fc, row2, col2, fr2, fc2, txt⟩ : Hd) (.slice a k.len cap)).toArray 34)).alloc (.cells (hdC (⟨kind, vk, vn, vs, vb, vc, row, col, fr, fc, row2, col2, fr2, fc2, txt⟩ : Hd) (.slice a2 k.len cap2)).toArray 34)) := ((Below.refl _ _).alloc (Nat.le_refl _) _).alloc (by simp) _
  have HB0 := hide hB0
  clear hk hk2 hA HB1 hB0
  go_enter Tryz.func12, Tryz.ntmps12
  go_wp2
  go_loopw [5] (fun u wr => ∃ (i : Nat) (F : Fo), u = .int .i64 (i : Int) ∧ i + F.len = k.len ∧ (F = .nil ∨ ∃ b' o', a = some ⟨b', o', none⟩ ∧ k.len ≤ cap ∧ cap ≤ maxLen ∧ Row w D F b' (o' + i * 16)) ∧ (F = .nil ∨ ∃ b' o', a2 = some ⟨b', o', none⟩ ∧ k.len ≤ cap2 ∧ cap2 ≤ maxLen ∧ Row w D2 F b' (o' + i * 16)) ∧ SameA F ∧ Below w.heap.size w wr ∧ w.heap.size + 1 < wr.heap.size ∧ wr.cell? ⟨w.heap.size, 15, none⟩ = some (.slice a k.len cap) ∧ wr.cell? ⟨w.heap.size + 1, 15, none⟩ = some (.slice a2 k.len cap2)) (fun u _ => k.len - (intOf u).toNat)
  case atStart =>
    refine ⟨0, k, rfl, by omega, ?_, ?_, HA.out, HB0.out, by simp, p15, q15⟩
    · rcases HK1.out with e | ⟨b', o', e1, e2, e3, e4⟩
      · exact .inl e
      · exact .inr ⟨b', o', e1, e2, e3, by simpa using e4⟩
    · rcases HK2.out with e | ⟨b', o', e1, e2, e3, e4⟩
      · exact .inl e
      · exact .inr ⟨b', o', e1, e2, e3, by simpa using e4⟩
  case round =>
    clear p0 p1 p2 p3 p4 p5 p6 p7 p8 p9 p10 p11 p12 p13 p14 p15 q0 q1 q2 q3 q4 q5 q6 q7 q8 q9 q10 q11 q12 q13 q14 q15
    obtain ⟨i, F, rfl, hl, hF, hF2, hAF, hB, hz, c15, e15⟩ := hrel
    have HB := hide hB
    have hsz := hB.size
    clear hB
    match F, hl, hF, hF2, hAF with
    | .nil, hl, _, _, _ =>
      have hli : ¬ (i : Int) < (k.len : Int) := by simp [Fo.len] at hl; omega
      go_wp2
      go_ret
      exact ⟨rfl, HB.out⟩
    | .cons h1 k1 r1, hl, hF, hF2, hAF =>
      have hli : (i : Int) < (k.len : Int) := by simp [Fo.len] at hl; omega
      have hl2 : i + 1 + r1.len = k.len := by simp [Fo.len] at hl; omega
      obtain ⟨b1, o1, rfl, hcap1, hcap2, hrw⟩ : ∃ b' o', a = some ⟨b', o', none⟩ ∧ k.len ≤ cap ∧ cap ≤ maxLen ∧ Row w D (.cons h1 k1 r1) b' (o' + i * 16) := by
        rcases hF with e | e
        · cases e
        · exact e
      obtain ⟨b2, o2, rfl, hcap3, hcap4, hrw2⟩ : ∃ b' o', a2 = some ⟨b', o', none⟩ ∧ k.len ≤ cap2 ∧ cap2 ≤ maxLen ∧ Row w D2 (.cons h1 k1 r1) b' (o' + i * 16) := by
        rcases hF2 with e | e
        · cases e
        · exact e
      obtain ⟨d1, ⟨v1, x1, y1⟩, z1⟩ := row_cons.1 hrw
      obtain ⟨d2, ⟨v2, x2, y2⟩, z2⟩ := row_cons.1 hrw2
      have HR1 : Hid (Row w D r1 b1 (o1 + (i + 1) * 16)) := by rw [show o1 + (i + 1) * 16 = o1 + i * 16 + 16 by omega]; exact z1
      have HR2 : Hid (Row w D2 r1 b2 (o2 + (i + 1) * 16)) := by rw [show o2 + (i + 1) * 16 = o2 + i * 16 + 16 by omega]; exact z2
      have HX : Hid (∀ W : World, Below w.heap.size w W → (∀ j, j < 16 → W.cell? ⟨b1, o1 + i * 16 + j, none⟩ = (hdC h1 v1)[j]?) ∧ (∀ j, j < 16 → W.cell? ⟨b2, o2 + i * 16 + j, none⟩ = (hdC h1 v2)[j]?)) := fun W hW => ⟨fun j hj => by rw [hW.cell (p := ⟨b1, o1 + i * 16 + j, none⟩) (hD b1 d1)]; exact x1 j hj, fun j hj => by rw [hW.cell (p := ⟨b2, o2 + i * 16 + j, none⟩) (hD2 b2 d2)]; exact x2 j hj⟩
      obtain ⟨hA1, hA2⟩ := hAF
      have HA2 := hide hA2
      have HC : Hid (∀ W : World, Below w.heap.size w W → Calls Tryz.prog 12 #[.agg (hdC h1 v1).toArray, .agg (hdC h1 v2).toArray] W fun e w' => e = .returned (.bool true) ∧ Below W.heap.size W w') := fun W hW =>
        hA1 D D2 h1 v1 v2 W (fun c hc => Nat.lt_of_lt_of_le (hD c hc) hW.size) (fun c hc => Nat.lt_of_lt_of_le (hD2 c hc) hW.size) (kv_to y1 (fun b hb => ⟨hb, hW.block b (hD b hb)⟩)) (kv_to y2 (fun b hb => ⟨hb, hW.block b (hD2 b hb)⟩))
      have HM := hide hcap2
      have HM2 := hide hcap4
      unfold maxLen at hcap2 hcap4
      clear hrw hrw2 d1 d2 x1 x2 y1 y2 z1 z2 hA1 hA2 hF hF2 hl
      go_wp2
      refine wp_region_held_drew (S := fun W => (∀ j, j < 16 → W.cell? ⟨b1, o1 + i * 16 + j, none⟩ = (hdC h1 v1)[j]?) ∧ (∀ j, j < 16 → W.cell? ⟨b2, o2 + i * 16 + j, none⟩ = (hdC h1 v2)[j]?) ∧ W.cell? ⟨w.heap.size, 15, none⟩ = some (.slice (some ⟨b1, o1, none⟩) k.len cap) ∧ W.cell? ⟨w.heap.size + 1, 15, none⟩ = some (.slice (some ⟨b2, o2, none⟩) k.len cap2)) (by kernel_rfl) ⟨(HX.out wr HB.out).1, (HX.out wr HB.out).2, c15, e15⟩ (fun hHeld => ?_)
      (refine takeE (i := 0) (some 55) rfl rfl (by kernel_rfl) (v := ?_) rfl ?_ (by assumption) ?_; rotate_left; (focus (intro w hSw; (try dsimp only at hSw); first | (go_simp; done) | (go_simp; with_reducible rfl))); try simp only [Act.put, pA, pB, pC]); (refine takeE (i := 1) (some 56) rfl rfl (by kernel_rfl) (v := ?_) rfl ?_ (by assumption) ?_; rotate_left; (focus (intro w hSw; (try dsimp only at hSw); first | (go_simp; done) | (go_simp; with_reducible rfl))); try simp only [Act.put, pA, pB, pC]); (refine takeE (i := 2) (some 57) rfl rfl (by kernel_rfl) (v := ?_) rfl ?_ (by assumption) ?_; rotate_left; (focus (intro w hSw; (try dsimp only at hSw); first | (go_simp; done) | (go_simp; with_reducible rfl))); try simp only [Act.put, pA, pB, pC]); (refine takeE (i := 3) (some 58) rfl rfl (by kernel_rfl) (v := ?_) rfl ?_ (by assumption) ?_; rotate_left; (focus (intro w hSw; (try dsimp only at hSw); first | (go_simp; done) | (go_simp; with_reducible rfl))); try simp only [Act.put, pA, pB, pC])
      (refine takeE (i := 4) (some 59) rfl rfl (by kernel_rfl) (v := .agg (hdC h1 v1).toArray) rfl (fun W hSW => exec_loadAt _ rfl b1 (o1 + i * 16) rfl hSW.1) (by assumption) ?_; try simp only [Act.put, pA, pB, pC])
      (refine takeE (i := 5) (some 60) rfl rfl (by kernel_rfl) (v := ?_) rfl ?_ (by assumption) ?_; rotate_left; (focus (intro w hSw; (try dsimp only at hSw); first | (go_simp; done) | (go_simp; with_reducible rfl))); try simp only [Act.put, pA, pB, pC]); (refine takeE (i := 6) (some 61) rfl rfl (by kernel_rfl) (v := ?_) rfl ?_ (by assumption) ?_; rotate_left; (focus (intro w hSw; (try dsimp only at hSw); first | (go_simp; done) | (go_simp; with_reducible rfl))); try simp only [Act.put, pA, pB, pC]); (refine takeE (i := 7) (some 62) rfl rfl (by kernel_rfl) (v := ?_) rfl ?_ (by assumption) ?_; rotate_left; (focus (intro w hSw; (try dsimp only at hSw); first | (go_simp; done) | (go_simp; with_reducible rfl))); try simp only [Act.put, pA, pB, pC]); (refine takeE (i := 8) (some 63) rfl rfl (by kernel_rfl) (v := ?_) rfl ?_ (by assumption) ?_; rotate_left; (focus (intro w hSw; (try dsimp only at hSw); first | (go_simp; done) | (go_simp; with_reducible rfl))); try simp only [Act.put, pA, pB, pC])
      (refine takeE (i := 9) (some 64) rfl rfl (by kernel_rfl) (v := .agg (hdC h1 v2).toArray) rfl (fun W hSW => exec_loadAt _ rfl b2 (o2 + i * 16) rfl hSW.2.1) (by assumption) ?_; try simp only [Act.put, pA, pB, pC])
      have HBd : Hid (Below w.heap.size w wr.drew) := bar_below HB.out (Bar.of (below_drew0 wr))
      (refine wpAnyH_ready (rs := [10]) (by kernel_rfl) (by simp) ?_; refine AllReadyH.cons (o := _) rfl (fun K hK => ?_) AllReadyH.nil; go_simp; (go_at_call 12; refine (HC.out _ HBd.out).mono ?_; rintro e w1 ⟨rfl, hb1⟩; have HB1 := hide (bar_below HBd.out (Bar.of hb1)); have HZ1 : Hid (wr.heap.size ≤ w1.heap.size) := hb1.size; have k15 : w1.cell? ⟨w.heap.size, 15, none⟩ = some (.slice (some ⟨b1, o1, none⟩) k.len cap) := by { rw [hb1.cell (p := ⟨w.heap.size, 15, none⟩) (by show w.heap.size < wr.heap.size; omega)]; exact c15 }; have l15 : w1.cell? ⟨w.heap.size + 1, 15, none⟩ = some (.slice (some ⟨b2, o2, none⟩) k.len cap2) := by { rw [hb1.cell (p := ⟨w.heap.size + 1, 15, none⟩) hz]; exact e15 }; clear hb1); refine hK.out _ _ ⟨(HX.out w1 HB1.out).1, (HX.out w1 HB1.out).2, k15, l15⟩ (fun hHeld => ?_); clear hK K; try simp only [Act.put, pA, pB, pC])
      (refine takeE (i := 11) (some 66) rfl rfl (by kernel_rfl) (v := ?_) rfl ?_ (by assumption) ?_; rotate_left; (focus (intro w hSw; (try dsimp only at hSw); first | (go_simp; done) | (go_simp; with_reducible rfl))); try simp only [Act.put, pA, pB, pC])
      refine wpAnyH_done (by kernel_rfl) ?_ _
      go_wp2
      go_roundw
      case rel => exact ⟨i + 1, r1, by go_num, by omega, .inr ⟨b1, o1, rfl, hcap1, HM.out, HR1.out⟩, .inr ⟨b2, o2, rfl, hcap3, HM2.out, HR2.out⟩, HA2.out, HB1.out, by have := HZ1.out; omega, k15, l15⟩
      case measure => simp [intOf]; omega
theorem same_all : ∀ (F : Fo), SameA F
 | .nil => trivial
 | .cons _ k r => ⟨same_step k (same_all k), same_all r⟩
theorem same_any (k : Fo) : SameC k := same_step k (same_all k)
def cntF : Fo → Nat → Nat → Nat → Nat → Nat × Nat
 | .nil, _, _, a, u => (a, u)
 | .cons _ k r, m, d, a, u =>
  if a ≤ m then cntF r m d (a + (if d - 1 = 0 ∨ m - a = 0 then 1 else (cntF k (m - a) (d - 1) 1 0).1)) (max u (if d - 1 = 0 ∨ m - a = 0 then 1 else 1 + (cntF k (m - a) (d - 1) 1 0).2))
  else (a, u)
def cntN (k : Fo) (m d : Nat) : Nat × Nat := if d = 0 ∨ m = 0 then (1, 1) else ((cntF k m d 1 0).1, 1 + (cntF k m d 1 0).2)
theorem cntN_no {k : Fo} {m d : Nat} (h : d = 0 ∨ m = 0) : cntN k m d = (1, 1) := by unfold cntN; rw [if_pos h]
theorem cntN_yes {k : Fo} {m d : Nat} (h : ¬ (d = 0 ∨ m = 0)) : cntN k m d = ((cntF k m d 1 0).1, 1 + (cntF k m d 1 0).2) := by unfold cntN; rw [if_neg h]
theorem cntF_cons (h : Hd) (k r : Fo) (m d a u : Nat) : cntF (.cons h k r) m d a u = if a ≤ m then cntF r m d (a + (cntN k (m - a) (d - 1)).1) (max u (cntN k (m - a) (d - 1)).2) else (a, u) := by
  rw [cntF]
  by_cases hx : d - 1 = 0 ∨ m - a = 0
  · rw [cntN_no hx, if_pos hx, if_pos hx]
  · rw [cntN_yes hx, if_neg hx, if_neg hx]
theorem cntF_ge : ∀ (F : Fo) (m d a u : Nat), a ≤ (cntF F m d a u).1 ∧ u ≤ (cntF F m d a u).2
  | .nil, _, _, _, _ => ⟨Nat.le_refl _, Nat.le_refl _⟩
  | .cons h k r, m, d, a, u => by
    rw [cntF_cons]
    split
    · have := cntF_ge r m d (a + (cntN k (m - a) (d - 1)).1) (max u (cntN k (m - a) (d - 1)).2)
      omega
    · exact ⟨Nat.le_refl _, Nat.le_refl _⟩
theorem cntF_bd : ∀ (F : Fo) (m d a u : Nat), a ≤ m + 1 → u ≤ d → 1 ≤ d → (cntF F m d a u).1 ≤ m + 1 ∧ (cntF F m d a u).2 ≤ d
  | .nil, _, _, _, _, h1, h2, _ => ⟨h1, h2⟩
  | .cons h k r, m, d, a, u, h1, h2, h3 => by
    rw [cntF_cons]
    split
    · have hx : (cntN k (m - a) (d - 1)).1 ≤ m - a + 1 ∧ (cntN k (m - a) (d - 1)).2 ≤ d := by
        by_cases hc : d - 1 = 0 ∨ m - a = 0
        · rw [cntN_no hc]; exact ⟨by simp, by simp only; omega⟩
        · rw [cntN_yes hc]
          have := cntF_bd k (m - a) (d - 1) 1 0 (by omega) (by omega) (by omega)
          simp only
          omega
      exact cntF_bd r m d _ _ (by omega) (by omega) h3
    · exact ⟨h1, h2⟩
theorem cntN_bd (k : Fo) (m d : Nat) : (cntN k m d).1 ≤ m + 1 ∧ (cntN k m d).2 ≤ d + 1 := by
  by_cases hc : d = 0 ∨ m = 0
  · rw [cntN_no hc]; exact ⟨by simp, by simp⟩
  · rw [cntN_yes hc]
    have := cntF_bd k m d 1 0 (by omega) (by omega) (by omega)
    simp only
    omega
theorem cntF_exact : ∀ (F : Fo) (m d a u : Nat), (cntF F m d a u).1 ≤ m → 1 + (cntF F m d a u).2 ≤ d → cntF F m d a u = (a + F.many, max u F.deep)
  | .nil, _, _, _, _, _, _ => by simp [cntF, Fo.many, Fo.deep]
  | .cons h k r, m, d, a, u, h1, h2 => by
    rw [cntF_cons] at h1 h2 ⊢
    by_cases ha : a ≤ m
    · rw [if_pos ha] at h1 h2 ⊢
      have hr := cntF_exact r m d _ _ h1 h2
      have hg := cntF_ge r m d (a + (cntN k (m - a) (d - 1)).1) (max u (cntN k (m - a) (d - 1)).2)
      have g1 : a + (cntN k (m - a) (d - 1)).1 ≤ m := Nat.le_trans hg.1 h1
      have g2 : 1 + (cntN k (m - a) (d - 1)).2 ≤ d := by
        have := hg.2
        omega
      have hx : cntN k (m - a) (d - 1) = (k.many + 1, k.deep + 1) := by
        by_cases hc : d - 1 = 0 ∨ m - a = 0
        · rw [cntN_no hc] at g1 g2
          simp only at g1 g2
          exfalso; omega
        · rw [cntN_yes hc] at g1 g2
          simp only at g1 g2
          rw [cntN_yes hc, cntF_exact k (m - a) (d - 1) 1 0 (by omega) (by omega)]
          refine Prod.ext ?_ ?_ <;> simp only <;> omega
      rw [hr, hx, Fo.many, Fo.deep]
      refine Prod.ext ?_ ?_ <;> simp only <;> omega
    · rw [if_neg ha] at h1
      exact absurd h1 ha
theorem cntF_fits : ∀ (F : Fo) (m d a u : Nat), a + F.many ≤ m → 1 + max u F.deep ≤ d → cntF F m d a u = (a + F.many, max u F.deep)
 | .nil, _, _, _, _, _, _ => by simp [cntF, Fo.many, Fo.deep]
 | .cons h k r, m, d, a, u, h1, h2 => by
  rw [Fo.many] at h1
  rw [Fo.deep] at h2
  have hc : ¬ (d - 1 = 0 ∨ m - a = 0) := by omega
  rw [cntF_cons, if_pos (by omega), cntN_yes hc, cntF_fits k (m - a) (d - 1) 1 0 (by omega) (by omega), cntF_fits r m d _ _ (by simp only; omega) (by simp only; omega), Fo.many, Fo.deep]
  refine Prod.ext ?_ ?_ <;> simp only <;> omega
def depthN (k : Fo) : Nat := if k.many + 1 ≤ 4096 ∧ k.deep + 1 ≤ 160 then k.deep + 1 else 0
theorem depth_is (k : Fo) : (if 4096 < (cntN k 4096 160).1 ∨ 160 < (cntN k 4096 160).2 then 0 else (cntN k 4096 160).2) = depthN k := by
  rw [cntN_yes (by omega)]
  unfold depthN
  by_cases h : k.many + 1 ≤ 4096 ∧ k.deep + 1 ≤ 160
  · rw [if_pos h, cntF_fits k 4096 160 1 0 (by omega) (by omega), if_neg (by simp only; omega)]
    simp only; omega
  · rw [if_neg h, if_pos]
    refine Classical.byContradiction fun hn => h ?_
    have e := cntF_exact k 4096 160 1 0 (by omega) (by omega)
    rw [e] at hn
    simp only at hn
    omega
def CountC (k : Fo) : Prop :=
 ∀ (D : Nat → Prop) (h : Hd) (v : Value) (w : World) (m d : Nat), m ≤ 4096 → d ≤ 160 → (∀ c, D c → c < w.heap.size) → Kv w D v k →
  Calls Tryz.prog 27 #[.agg (hdC h v).toArray, .int .i64 (m : Int), .int .i64 (d : Int)] w fun e w' => e = .returned (.tuple #[.int .i64 ((cntN k m d).1 : Int), .int .i64 ((cntN k m d).2 : Int)]) ∧ Below w.heap.size w w'
def CountA : Fo → Prop
 | .nil => True
 | .cons _ k r => CountC k ∧ CountA r
theorem count_step (k : Fo) (hA : CountA k) : CountC k := by
  intro D h v w m d hm hd hD hk
  obtain ⟨a, n, cap, rfl, hn, hk⟩ := hk
  subst hn
  by_cases hc : d = 0 ∨ m = 0
  · rw [cntN_no hc]
    by_cases hd0 : d = 0
    · have hd1 : (d : Int) ≤ 0 := by omega
      go_enter Tryz.func27, Tryz.ntmps27
      go_wp2
      go_ret2
      exact ⟨rfl, (Below.refl _ _).alloc (Nat.le_refl _) _⟩
    · have hd1 : ¬ (d : Int) ≤ 0 := by omega
      have hm1 : (m : Int) ≤ 0 := by omega
      go_enter Tryz.func27, Tryz.ntmps27
      go_wp2
      go_ret2
      exact ⟨rfl, (Below.refl _ _).alloc (Nat.le_refl _) _⟩
  · have hd1 : ¬ (d : Int) ≤ 0 := by omega
    have hm1 : ¬ (m : Int) ≤ 0 := by omega
    rw [cntN_yes hc]
    have p15 := (Box.new w (hdC h (.slice a k.len cap))).cell 15 (.slice a k.len cap) rfl
    have HK1 := hide hk
    have HA := hide hA
    have HB0 := hide ((Below.refl w.heap.size w).alloc (Nat.le_refl _) (.cells (hdC h (.slice a k.len cap)).toArray 34))
    clear hk hA
    go_enter Tryz.func27, Tryz.ntmps27
    go_wp2
    go_loopw [8, 9, 10] (fun ua uu ui wr => ∃ (i al un : Nat) (F : Fo), ua = .int .i64 (al : Int) ∧ uu = .int .i64 (un : Int) ∧ ui = .int .i64 (i : Int) ∧ i + F.len = k.len ∧ (F = .nil ∨ ∃ b' o', a = some ⟨b', o', none⟩ ∧ k.len ≤ cap ∧ cap ≤ maxLen ∧ Row w D F b' (o' + i * 16)) ∧ CountA F ∧ Below w.heap.size w wr ∧ w.heap.size < wr.heap.size ∧ wr.cell? ⟨w.heap.size, 15, none⟩ = some (.slice a k.len cap) ∧ al ≤ m + 1 ∧ un ≤ d ∧ cntF k m d 1 0 = cntF F m d al un) (fun _ _ ui _ => k.len - (intOf ui).toNat)
    case atStart =>
      refine ⟨0, 1, 0, k, rfl, rfl, rfl, by omega, ?_, HA.out, HB0.out, by simp, p15, by omega, by omega, rfl⟩
      rcases HK1.out with e | ⟨b', o', e1, e2, e3, e4⟩
      · exact .inl e
      · exact .inr ⟨b', o', e1, e2, e3, by simpa using e4⟩
    case round =>
      clear p15
      obtain ⟨i, al, un, F, rfl, rfl, rfl, hl, hF, hAF, hB, hz, c15, ha1, hu1, hq⟩ := hrel
      have HB := hide hB
      have HQ := hide hq
      have hsz := hB.size
      clear hB hq
      match F, hl, hF, hAF, HQ with
      | .nil, hl, _, _, HQ =>
        have hli : ¬ (i : Int) < (k.len : Int) := by simp [Fo.len] at hl; omega
        have hwu : IntKind.i64.wrap (1 + (un : Int)) = ((1 + un : Nat) : Int) := by rw [wrap_le (by omega) (by omega)]; omega
        go_wp2
        go_ret2
        refine ⟨?_, HB.out⟩
        rw [HQ.out]
        simp [cntF]
      | .cons h1 k1 r1, hl, hF, hAF, HQ =>
        have hli : (i : Int) < (k.len : Int) := by simp [Fo.len] at hl; omega
        have hl2 : i + 1 + r1.len = k.len := by simp [Fo.len] at hl; omega
        have hq1 := HQ.out
        rw [cntF_cons] at hq1
        by_cases hle : al ≤ m
        · have hle1 : (al : Int) ≤ (m : Int) := by omega
          rw [if_pos hle] at hq1
          obtain ⟨b1, o1, rfl, hcap1, hcap2, hrw⟩ : ∃ b' o', a = some ⟨b', o', none⟩ ∧ k.len ≤ cap ∧ cap ≤ maxLen ∧ Row w D (.cons h1 k1 r1) b' (o' + i * 16) := by
            rcases hF with e | e
            · cases e
            · exact e
          obtain ⟨d1, ⟨v1, x1, y1⟩, z1⟩ := row_cons.1 hrw
          have HR1 : Hid (Row w D r1 b1 (o1 + (i + 1) * 16)) := by rw [show o1 + (i + 1) * 16 = o1 + i * 16 + 16 by omega]; exact z1
          have HX : Hid (∀ j, j < 16 → wr.cell? ⟨b1, o1 + i * 16 + j, none⟩ = (hdC h1 v1)[j]?) := fun j hj => by rw [HB.out.cell (p := ⟨b1, o1 + i * 16 + j, none⟩) (hD b1 d1)]; exact x1 j hj
          obtain ⟨hA1, hA2⟩ := hAF
          have HA2 := hide hA2
          have hwm : IntKind.i64.wrap ((m : Int) - (al : Int)) = ((m - al : Nat) : Int) := by rw [wrap_le (by omega) (by omega)]; omega
          have hwd : IntKind.i64.wrap ((d : Int) - 1) = ((d - 1 : Nat) : Int) := by rw [wrap_le (by omega) (by omega)]; omega
          have HC : Hid (∀ W : World, Below w.heap.size w W → Calls Tryz.prog 27 #[.agg (hdC h1 v1).toArray, .int .i64 ((m - al : Nat) : Int), .int .i64 ((d - 1 : Nat) : Int)] W fun e w' => e = .returned (.tuple #[.int .i64 ((cntN k1 (m - al) (d - 1)).1 : Int), .int .i64 ((cntN k1 (m - al) (d - 1)).2 : Int)]) ∧ Below W.heap.size W w') := fun W hW =>
            hA1 D h1 v1 W (m - al) (d - 1) (by omega) (by omega) (fun c hc => Nat.lt_of_lt_of_le (hD c hc) hW.size) (kv_to y1 (fun b hb => ⟨hb, hW.block b (hD b hb)⟩))
          have hbd := cntN_bd k1 (m - al) (d - 1)
          have HQ2 := hide hq1
          have HM := hide hcap2
          unfold maxLen at hcap2
          clear hq1 HQ hrw d1 x1 y1 z1 hA1 hA2 hF hl
          have hma : m - al + al = m := by omega
          have hda : d - 1 + 1 = d := by omega
          generalize m - al = ma at *
          generalize d - 1 = da at *
          generalize cntN k1 ma da = X at *
          obtain ⟨x, y⟩ := X
          simp only at HC hbd HQ2
          have hwx : IntKind.i64.wrap ((al : Int) + (x : Int)) = ((al + x : Nat) : Int) := by rw [wrap_le (by omega) (by omega)]; omega
          have hmx : max (un : Int) (y : Int) = ((max un y : Nat) : Int) := by omega
          go_wp2_with (first | (with_reducible refine wpl_id ?_; refine wpl_loadAt rfl _ rfl _ _ rfl HX.out ?_) | (go_at_call 27; refine (HC.out _ HB.out).mono ?_; rintro e w1 ⟨rfl, hb1⟩; have HB1 := hide (bar_below HB.out (Bar.of hb1)); have HZ1 : Hid (wr.heap.size ≤ w1.heap.size) := hb1.size; have k15 : w1.cell? ⟨w.heap.size, 15, none⟩ = some (.slice (some ⟨b1, o1, none⟩) k.len cap) := by { rw [hb1.cell (p := ⟨w.heap.size, 15, none⟩) hz]; exact c15 }; clear hb1))
          go_roundw
          case rel => exact ⟨i + 1, al + x, max un y, r1, rfl, rfl, by go_num, by omega, .inr ⟨b1, o1, rfl, hcap1, HM.out, HR1.out⟩, HA2.out, HB1.out, by have := HZ1.out; omega, k15, by omega, by omega, HQ2.out⟩
          case measure => simp [intOf]; omega
        · have hle1 : ¬ (al : Int) ≤ (m : Int) := by omega
          rw [if_neg hle] at hq1
          have HQ3 := hide hq1
          clear hq1 HQ
          have hwu : IntKind.i64.wrap (1 + (un : Int)) = ((1 + un : Nat) : Int) := by rw [wrap_le (by omega) (by omega)]; omega
          go_wp2
          go_ret2
          refine ⟨?_, HB.out⟩
          rw [HQ3.out]
          simp
theorem count_all : ∀ (F : Fo), CountA F
 | .nil => trivial
 | .cons _ k r => ⟨count_step k (count_all k), count_all r⟩
theorem depth_any (D : Nat → Prop) (h : Hd) (k : Fo) (v : Value) (w : World) (hD : ∀ c, D c → c < w.heap.size) (hk : Kv w D v k) :
    Calls Tryz.prog 13 #[.agg (hdC h v).toArray] w fun e w' => e = .returned (.int .i64 (depthN k : Int)) ∧ Below w.heap.size w w' := by
  have HC : Hid (∀ W : World, Below w.heap.size w W → Calls Tryz.prog 27 #[.agg (hdC h v).toArray, .int .i64 4096, .int .i64 160] W fun e w' => e = .returned (.tuple #[.int .i64 ((cntN k 4096 160).1 : Int), .int .i64 ((cntN k 4096 160).2 : Int)]) ∧ Below W.heap.size W w') := fun W hW =>
    count_step k (count_all k) D h v W 4096 160 (by omega) (by omega) (fun c hc => Nat.lt_of_lt_of_le (hD c hc) hW.size) (kv_to hk (fun b hb => ⟨hb, hW.block b (hD b hb)⟩))
  have hd := depth_is k
  have hv : ∃ a n cap, v = .slice a n cap := by obtain ⟨a, n, cap, e, _⟩ := hk; exact ⟨a, n, cap, e⟩
  obtain ⟨a, n, cap, rfl⟩ := hv
  clear hD hk
  rw [← hd]
  clear hd
  generalize cntN k 4096 160 = X at *
  obtain ⟨x, y⟩ := X
  simp only at *
  by_cases h1 : 4096 < x
  · have h1' : (4096 : Int) < (x : Int) := by omega
    rw [if_pos (Or.inl h1)]
    go_enter Tryz.func13, Tryz.ntmps13
    go_wp2_with (first | (with_reducible refine wpl_id ?_; refine wpl_load rfl _ rfl _ rfl (by ((repeat' (first | with_reducible (first | exact Hid.out (by assumption) | apply Box.set | exact Box.new _ _ | apply Box.other | apply Box.alloc | apply Box.drew | apply Box.drewN) | omega)); done)) ?_) | (go_at_call 27; refine (HC.out _ ((Below.refl _ _).alloc (Nat.le_refl _) _)).mono ?_; rintro e w1 ⟨rfl, hb1⟩; have HB1 := hide (below_alloc' hb1); clear hb1))
    go_ret
    exact ⟨rfl, HB1.out⟩
  · have h1' : ¬ (4096 : Int) < (x : Int) := by omega
    by_cases h2 : 160 < y
    · have h2' : (160 : Int) < (y : Int) := by omega
      rw [if_pos (Or.inr h2)]
      go_enter Tryz.func13, Tryz.ntmps13
      go_wp2_with (first | (with_reducible refine wpl_id ?_; refine wpl_load rfl _ rfl _ rfl (by ((repeat' (first | with_reducible (first | exact Hid.out (by assumption) | apply Box.set | exact Box.new _ _ | apply Box.other | apply Box.alloc | apply Box.drew | apply Box.drewN) | omega)); done)) ?_) | (go_at_call 27; refine (HC.out _ ((Below.refl _ _).alloc (Nat.le_refl _) _)).mono ?_; rintro e w1 ⟨rfl, hb1⟩; have HB1 := hide (below_alloc' hb1); clear hb1))
      go_ret
      exact ⟨rfl, HB1.out⟩
    · have h2' : ¬ (160 : Int) < (y : Int) := by omega
      rw [if_neg (by omega)]
      go_enter Tryz.func13, Tryz.ntmps13
      go_wp2_with (first | (with_reducible refine wpl_id ?_; refine wpl_load rfl _ rfl _ rfl (by ((repeat' (first | with_reducible (first | exact Hid.out (by assumption) | apply Box.set | exact Box.new _ _ | apply Box.other | apply Box.alloc | apply Box.drew | apply Box.drewN) | omega)); done)) ?_) | (go_at_call 27; refine (HC.out _ ((Below.refl _ _).alloc (Nat.le_refl _) _)).mono ?_; rintro e w1 ⟨rfl, hb1⟩; have HB1 := hide (below_alloc' hb1); clear hb1))
      go_ret
      exact ⟨rfl, HB1.out⟩
theorem wpl_loadW {ops : Array Oper} {rest : List Oper} {o : Oper} {a : Act} {w : World} {Q : Exit → Act → World → Prop} (hw : Region.wanted o (yielded ops a.tmps) = true) (x : Operand) (ho : o.op = .load 34 x)
  (g : Nat) (hx : a.eval x = .pointer (some ⟨g, 0, none⟩)) {h : Hd} {v : Value} (hb : Box w g (hdC h v))
  (hk : wpList Tryz.prog ops Q rest (a.put o.dst (.agg (hdC h v).toArray)) w) : wpList Tryz.prog ops Q (o :: rest) a w :=
 wpList_step fun K hK' => by
  rw [if_pos hw]
  exact wp_loadN x ho g hx hb (hK' _ _ hk)
theorem kv_up {w w' : World} {D : Nat → Prop} {v : Value} {k : Fo} (hk : Kv w D v k) (hD : ∀ c, D c → c < w.heap.size) (hb : Below w.heap.size w w') : Kv w' (fun c => c < w'.heap.size) v k :=
 kv_to hk (fun b h => ⟨Nat.lt_of_lt_of_le (hD b h) hb.size, hb.block b (hD b h)⟩)
def NodeAt (w : World) (b : Nat) (h : Hd) (v : Value) (k : Fo) : Prop := Box w b (hdC h v) ∧ Kv w (fun c => c < w.heap.size) v k
theorem NodeAt.below {w w' : World} {b : Nat} {h : Hd} {v : Value} {k : Fo} (n : NodeAt w b h v k) (hb : Below w.heap.size w w') : NodeAt w' b h v k :=
 ⟨n.1.below hb, kv_up n.2 (fun _ h => h) hb⟩
theorem NodeAt.alloc {w : World} {b : Nat} {h : Hd} {v : Value} {k : Fo} (n : NodeAt w b h v k) (o : Obj) : NodeAt (w.alloc o) b h v k := n.below (below_obj w o)
theorem node_new {w : World} {D : Nat → Prop} (h : Hd) {v : Value} {k : Fo} (hk : Kv w D v k) (hD : ∀ c, D c → c < w.heap.size) : NodeAt (w.alloc (.cells (hdC h v).toArray 34)) w.heap.size h v k :=
 ⟨Box.new w _, kv_up hk hD (below_obj w _)⟩
def Env8 (w : World) : Prop := EnvL w ∧ EnvT w ∧ EnvE w
theorem Env8.below {w w' : World} (h : Env8 w) (hb : Below w.heap.size w w') : Env8 w' := ⟨h.1.below hb, h.2.1.below hb, h.2.2.below hb⟩
theorem lives8 (w : World) (h : Env8 w) : Calls Tryz.prog 9 #[] w fun e w' => e = .returned (.bool true) ∧ Below w.heap.size w w' := lives8_any w h.1 h.2.1 h.2.2
theorem parsed_ok (s : ByteArray) (w : World) (he : Env8 w) (hs : s.size ≤ maxLen) (h : Hd) (k : Fo) (hp : parseN s.data.toList = .ok h k) :
  Calls Tryz.prog 10 #[.string s] w fun e w' => ∃ a n cap, e = .returned (.tuple #[nodeV h (.slice a n cap), .int .i64 0, .int .i64 0]) ∧ NodeAt (w'.alloc (.cells (hdC h (.slice a n cap)).toArray 34)) w'.heap.size h (.slice a n cap) k ∧ Below w.heap.size w (w'.alloc (.cells (hdC h (.slice a n cap)).toArray 34)) := by
 refine (parse_ok s w he.1 hs h k hp).mono ?_
 rintro e w' ⟨a, n, cap, rfl, hk, hb⟩
 exact ⟨a, n, cap, rfl, node_new h hk (fun c hc => hc.2), bar_below hb (Bar.of (below_obj w' _))⟩
theorem parsed_no (s : ByteArray) (w : World) (he : Env8 w) (hs : s.size ≤ maxLen) (x y : Int) (hp : parseN s.data.toList = .no x y) :
  Calls Tryz.prog 10 #[.string s] w fun e w' => e = .returned (.tuple #[nodeV zh (.slice none 0 0), .int .i64 x, .int .i64 y]) ∧ NodeAt (w'.alloc (.cells (hdC zh (.slice none 0 0)).toArray 34)) w'.heap.size zh (.slice none 0 0) .nil ∧ Below w.heap.size w (w'.alloc (.cells (hdC zh (.slice none 0 0)).toArray 34)) := by
 refine (parse_no s w he.1 he.2.2 hs x y hp).mono ?_
 rintro e w' ⟨rfl, hb⟩
 exact ⟨rfl, node_new zh (kv_nil w' (fun _ => False) none 0) (fun c hc => hc.elim), bar_below hb (Bar.of (below_obj w' _))⟩
theorem printed {h : Hd} {k : Fo} (f1 : rightN h k = true) (f2 : k.many + 1 ≤ 4096) {w : World} {a : Option Addr} {n cap : Nat} (he : Env8 w) (hk : Kv w (fun c => c < w.heap.size) (.slice a n cap) k) :
  Calls Tryz.prog 18 #[.agg (hdC h (.slice a n cap)).toArray] w fun e w' => e = .returned (.tuple #[.string ⟨(printN h k).1.toArray⟩, .int .i64 (printN h k).2]) ∧ Below w.heap.size w w' := by
 have f1' := f1
 simp only [rightN, Bool.and_eq_true] at f1'
 obtain ⟨s1, s2⟩ := alone_small f1'.1
 exact print_node _ h k a n cap w he.2.1 (fun _ h => h) hk f2 s1 s2 (right_ok k f1'.2)
theorem checked {h : Hd} {k : Fo} (f1 : rightN h k = true) (f2 : k.many + 1 ≤ 4096) (f3 : k.deep + 1 ≤ 40) {w : World} {a : Option Addr} {n cap : Nat} (hk : Kv w (fun c => c < w.heap.size) (.slice a n cap) k) :
  Calls Tryz.prog 15 #[.agg (hdC h (.slice a n cap)).toArray] w fun e w' => e = .returned (.int .i64 0) ∧ Below w.heap.size w w' := by
 have f1' := f1
 simp only [rightN, Bool.and_eq_true] at f1'
 obtain ⟨s1, s2⟩ := alone_small f1'.1
 have := check_node _ h k a n cap w (fun _ h => h) hk f2 s1 s2 (right_ok k f1'.2)
 rw [check_right f1, if_neg (by omega)] at this
 exact this
end Go.Proofs.YtiaoaifoecmemaaGreatDoor
