/-
  PROVED: any formula is behind any edit what the answer says, or refused, and Touches tells whether it is changed No condition: for every input.
  Formulas of which one was made out of the other one by an edit; the answer's Same tells whether they are one (made by samebgen.py).
  rewrite's own same, and slices.EqualFunc over it, of a formula and of what an edit made of it (made by samepgen.py).
  The contracts of rewrite's and of the answer's Touches at any node that can be gone through (made by touchgen.py).
  The walk of RewriteMoves (made by movesgen10.py).
-/
import Derived.Test.YtfpmmckpobpokaaGreatMRwN3
import Derived.Test.YtfpmmckpobpokaaGreatRows
import Derived.Test.YtfpmmckpobpokaaGreatMMvOpen
import Derived.Carry
set_option maxRecDepth 100000
set_option maxHeartbeats 4000000
namespace Go.Proofs.YtfpmmckpobpokaaGreat
open Go.RowKit
def nearH (h H : Hd) : Prop := (h.kind == H.kind) = false ∨ ∃ r c r2 c2, H = ⟨h.kind, h.vk, h.vn, h.vs, h.vb, h.vc, r, c, h.fr, h.fc, r2, c2, h.fr2, h.fc2, h.txt⟩
def nearF : Fo → Fo → Prop
 | .nil, .nil => True
 | .cons h k r, .cons H K R => nearH h H ∧ nearF k K ∧ nearF r R
 | _, _ => False
theorem nearF_len : ∀ k K : Fo, nearF k K → K.len = k.len
 | .nil, .nil, _ => rfl
 | .cons _ _ r, .cons _ _ R, hn => by simp [Fo.len, nearF_len r R hn.2.2]
 | .nil, .cons _ _ _, hn => hn.elim
 | .cons _ _ _, .nil, hn => hn.elim
theorem near_head (k a n : Int) {h : Hd} {m : Nat} (ha : aloneB h m = true) : nearH h (remH (moveD k a n) h) := by
 by_cases k2 : h.kind = 2
 ·
  unfold remH
  rw [if_pos k2]
  split
  ·
   obtain ⟨kind, vk, vn, vs, vb, vc, row, col, fr, fc, row2, col2, fr2, fc2, txt⟩ := h
   simp only at k2
   subst k2
   simp [aloneB, noVal, noTo] at ha
   generalize (moveD k a n).c ⟨2, vk, vn, vs, vb, vc, row, col, fr, fc, row2, col2, fr2, fc2, txt⟩ = q
   exact .inr ⟨q.1, q.2.1, 0, 0, by simp [cellN, ha]⟩
  ·
   exact .inl (by simp [lostH, k2])
 ·
  by_cases k3 : h.kind = 3
  ·
   unfold remH
   rw [if_neg k2, if_pos k3]
   split
   ·
    obtain ⟨kind, vk, vn, vs, vb, vc, row, col, fr, fc, row2, col2, fr2, fc2, txt⟩ := h
    simp only at k3
    subst k3
    simp [aloneB, noVal] at ha
    generalize (moveD k a n).s ⟨3, vk, vn, vs, vb, vc, row, col, fr, fc, row2, col2, fr2, fc2, txt⟩ = q
    exact .inr ⟨q.1, q.2.1, q.2.2.1, q.2.2.2.1, by simp [rangeN, ha]⟩
   ·
    exact .inl (by simp [lostH, k3])
  ·
   rw [(other_same (moveD k a n) h m ha k2 k3).1]
   exact .inr ⟨h.row, h.col, h.row2, h.col2, rfl⟩
theorem near_all (k a n : Int) : ∀ F : Fo, allB F = true → nearF F (remF (moveD k a n) F)
 | .nil, _ => trivial
 | .cons h q r, ha => by
  simp only [allB, Bool.and_eq_true] at ha
  refine ⟨near_head k a n ha.1.1, ?_, near_all k a n r ha.2⟩
  cases hl : leafB h
  ·
   exact near_all k a n q ha.1.2
  ·
   have := leaf_nil ha.1.1 hl
   subst this
   exact trivial
theorem near_kids (k a n : Int) (h : Hd) (q : Fo) (hr : rightN h q = true) : nearH h (remH (moveD k a n) h) ∧ nearF q (remK (moveD k a n) h q) := by
 simp only [rightN, Bool.and_eq_true] at hr
 refine ⟨near_head k a n hr.1, ?_⟩
 unfold remK
 cases hl : leafB h
 ·
  exact near_all k a n q hr.2
 ·
  have := leaf_nil hr.1 hl
  subst this
  exact trivial
theorem near_cases {h H : Hd} (hn : nearH h H) : H = h ∨ (H ≠ h ∧ ((h.kind == H.kind) = false ∨ ∃ r c r2 c2, H = ⟨h.kind, h.vk, h.vn, h.vs, h.vb, h.vc, r, c, h.fr, h.fc, r2, c2, h.fr2, h.fc2, h.txt⟩ ∧ ((h.row == r) = false ∨ ((h.row == r) = true ∧ (h.col == c) = false) ∨ ((h.row == r) = true ∧ (h.col == c) = true ∧ (h.row2 == r2) = false) ∨ ((h.row == r) = true ∧ (h.col == c) = true ∧ (h.row2 == r2) = true ∧ (h.col2 == c2) = false)))) := by
 by_cases e : H = h
 ·
  exact .inl e
 ·
  refine .inr ⟨e, hn.imp id ?_⟩
  rintro ⟨r, c, r2, c2, rfl⟩
  refine ⟨r, c, r2, c2, rfl, ?_⟩
  by_cases c1 : h.row = r
  ·
   by_cases c2' : h.col = c
   ·
    by_cases c3 : h.row2 = r2
    ·
     by_cases c4 : h.col2 = c2
     ·
      exact absurd (by rw [← c1, ← c2', ← c3, ← c4]) e
     ·
      exact .inr (.inr (.inr ⟨by simpa using c1, by simpa using c2', by simpa using c3, by simpa using c4⟩))
    ·
     exact .inr (.inr (.inl ⟨by simpa using c1, by simpa using c2', by simpa using c3⟩))
   ·
    exact .inr (.inl ⟨by simpa using c1, by simpa using c2'⟩)
  ·
   exact .inl (by simpa using c1)
theorem same_kind (h H : Hd) (hk : (h.kind == H.kind) = false) (a a2 : Option Addr) (n cap n2 cap2 : Nat) (w : World) :
  Calls Tryz.prog 16 #[.agg (hdC h (.slice a n cap)).toArray, .agg (hdC H (.slice a2 n2 cap2)).toArray] w fun e w' => e = .returned (.bool false) ∧ Below w.heap.size w w' := by
 have HB1 : Box ((w.alloc (.cells (hdC h (.slice a n cap)).toArray 33)).alloc (.cells (hdC H (.slice a2 n2 cap2)).toArray 33)) (w.heap.size + 1) (hdC H (.slice a2 n2 cap2)) := by
  have := Box.new (w.alloc (.cells (hdC h (.slice a n cap)).toArray 33)) (hdC H (.slice a2 n2 cap2))
  rw [World.size_alloc] at this
  exact this
 have HB0 : Hid (Below w.heap.size w ((w.alloc (.cells (hdC h (.slice a n cap)).toArray 33)).alloc (.cells (hdC H (.slice a2 n2 cap2)).toArray 33))) := hide (((Below.refl _ _).alloc (Nat.le_refl _) _).alloc (by simp) _)
 have B0 := ((Box.new w (hdC h (.slice a n cap))).alloc (.cells (hdC H (.slice a2 n2 cap2)).toArray 33))
 have p0 := B0.cell 0 (.int .i64 h.kind) rfl
 clear B0
 have q0 := HB1.cell 0 (.int .i64 H.kind) rfl
 have hk' : (h.kind != H.kind) = true := by simpa [bne] using hk
 clear HB1 hk
 go_enter Tryz.func16, Tryz.ntmps16
 go_wp2
 go_ret
 exact ⟨rfl, HB0.out⟩
theorem same_place (h : Hd) (r c r2 c2 : Int) (key : (h.row == r) = false ∨ ((h.row == r) = true ∧ (h.col == c) = false) ∨ ((h.row == r) = true ∧ (h.col == c) = true ∧ (h.row2 == r2) = false) ∨ ((h.row == r) = true ∧ (h.col == c) = true ∧ (h.row2 == r2) = true ∧ (h.col2 == c2) = false)) (a a2 : Option Addr) (n cap n2 cap2 : Nat) (w : World) :
  Calls Tryz.prog 16 #[.agg (hdC h (.slice a n cap)).toArray, .agg (hdC ⟨h.kind, h.vk, h.vn, h.vs, h.vb, h.vc, r, c, h.fr, h.fc, r2, c2, h.fr2, h.fc2, h.txt⟩ (.slice a2 n2 cap2)).toArray] w fun e w' => e = .returned (.bool false) ∧ Below w.heap.size w w' := by
 obtain ⟨kind, vk, vn, vs, vb, vc, row, col, fr, fc, row2, col2, fr2, fc2, txt⟩ := h
 simp only at key ⊢
 have HB1 : Box ((w.alloc (.cells (hdC (⟨kind, vk, vn, vs, vb, vc, row, col, fr, fc, row2, col2, fr2, fc2, txt⟩ : Hd) (.slice a n cap)).toArray 33)).alloc (.cells (hdC (⟨kind, vk, vn, vs, vb, vc, r, c, fr, fc, r2, c2, fr2, fc2, txt⟩ : Hd) (.slice a2 n2 cap2)).toArray 33)) (w.heap.size + 1) (hdC (⟨kind, vk, vn, vs, vb, vc, r, c, fr, fc, r2, c2, fr2, fc2, txt⟩ : Hd) (.slice a2 n2 cap2)) := by
  have := Box.new (w.alloc (.cells (hdC (⟨kind, vk, vn, vs, vb, vc, row, col, fr, fc, row2, col2, fr2, fc2, txt⟩ : Hd) (.slice a n cap)).toArray 33)) (hdC (⟨kind, vk, vn, vs, vb, vc, r, c, fr, fc, r2, c2, fr2, fc2, txt⟩ : Hd) (.slice a2 n2 cap2))
  rw [World.size_alloc] at this
  exact this
 have HB0 : Hid (Below w.heap.size w ((w.alloc (.cells (hdC (⟨kind, vk, vn, vs, vb, vc, row, col, fr, fc, row2, col2, fr2, fc2, txt⟩ : Hd) (.slice a n cap)).toArray 33)).alloc (.cells (hdC (⟨kind, vk, vn, vs, vb, vc, r, c, fr, fc, r2, c2, fr2, fc2, txt⟩ : Hd) (.slice a2 n2 cap2)).toArray 33))) := hide (((Below.refl _ _).alloc (Nat.le_refl _) _).alloc (by simp) _)
 have B0 := ((Box.new w (hdC (⟨kind, vk, vn, vs, vb, vc, row, col, fr, fc, row2, col2, fr2, fc2, txt⟩ : Hd) (.slice a n cap))).alloc (.cells (hdC (⟨kind, vk, vn, vs, vb, vc, r, c, fr, fc, r2, c2, fr2, fc2, txt⟩ : Hd) (.slice a2 n2 cap2)).toArray 33))
 have p0 := B0.cell 0 (.int .i64 kind) rfl
 have p1 := B0.cell 1 (.int .i64 vk) rfl
 have p2 := B0.cell 2 (.int .i64 vn) rfl
 have p3 := B0.cell 3 (.string ⟨(vs : List UInt8).toArray⟩) rfl
 have p4 := B0.cell 4 (.bool vb) rfl
 have p5 := B0.cell 5 (.int .i64 vc) rfl
 have p6 := B0.cell 6 (.int .i64 row) rfl
 have p7 := B0.cell 7 (.int .i64 col) rfl
 have p8 := B0.cell 8 (.bool fr) rfl
 have p9 := B0.cell 9 (.bool fc) rfl
 have p10 := B0.cell 10 (.int .i64 row2) rfl
 have p11 := B0.cell 11 (.int .i64 col2) rfl
 have p12 := B0.cell 12 (.bool fr2) rfl
 have p13 := B0.cell 13 (.bool fc2) rfl
 have p14 := B0.cell 14 (.string ⟨(txt : List UInt8).toArray⟩) rfl
 have p15 := B0.cell 15 (.slice a n cap) rfl
 clear B0
 have q0 := HB1.cell 0 (.int .i64 kind) rfl
 have q1 := HB1.cell 1 (.int .i64 vk) rfl
 have q2 := HB1.cell 2 (.int .i64 vn) rfl
 have q3 := HB1.cell 3 (.string ⟨(vs : List UInt8).toArray⟩) rfl
 have q4 := HB1.cell 4 (.bool vb) rfl
 have q5 := HB1.cell 5 (.int .i64 vc) rfl
 have q6 := HB1.cell 6 (.int .i64 r) rfl
 have q7 := HB1.cell 7 (.int .i64 c) rfl
 have q8 := HB1.cell 8 (.bool fr) rfl
 have q9 := HB1.cell 9 (.bool fc) rfl
 have q10 := HB1.cell 10 (.int .i64 r2) rfl
 have q11 := HB1.cell 11 (.int .i64 c2) rfl
 have q12 := HB1.cell 12 (.bool fr2) rfl
 have q13 := HB1.cell 13 (.bool fc2) rfl
 have q14 := HB1.cell 14 (.string ⟨(txt : List UInt8).toArray⟩) rfl
 have q15 := HB1.cell 15 (.slice a2 n2 cap2) rfl
 clear HB1
 rcases key with z1 | ⟨z1, z2⟩ | ⟨z1, z2, z3⟩ | ⟨z1, z2, z3, z4⟩
 all_goals
  go_enter Tryz.func16, Tryz.ntmps16
  go_wp2
  go_ret
  exact ⟨rfl, HB0.out⟩
def SameBC (k : Fo) : Prop :=
 ∀ (D D2 : Nat → Prop) (h H : Hd) (K : Fo) (v v2 : Value) (w : World) (b : Bool), nearH h H → nearF k K → (b = true ↔ (H = h ∧ K = k)) → (∀ c, D c → c < w.heap.size) → (∀ c, D2 c → c < w.heap.size) → Kv w D v k → Kv w D2 v2 K →
  Calls Tryz.prog 16 #[.agg (hdC h v).toArray, .agg (hdC H v2).toArray] w fun e w' => e = .returned (.bool b) ∧ Below w.heap.size w w'
def SameBA : Fo → Prop
 | .nil => True
 | .cons _ k r => SameBC k ∧ SameBA r
theorem sameb_step (k : Fo) (hA : SameBA k) : SameBC k := by
 intro D D2 h H K v v2 w b hn hnk hbt hD hD2 hk hk2
 have hKl := nearF_len k K hnk
 obtain ⟨_, _, _, e0, hn1, hk⟩ := hk
 obtain ⟨_, _, _, e1, hn2, hk2⟩ := hk2
 subst e0 e1
 rcases near_cases hn with rfl | ⟨hne, hkey⟩
 case inr =>
  obtain rfl : b = false := by
   cases b
   ·
    rfl
   ·
    exact absurd (hbt.1 rfl).1 hne
  rcases hkey with q | ⟨r, c, r2, c2, rfl, q⟩
  ·
   exact same_kind h H q _ _ _ _ _ _ w
  ·
   exact same_place h r c r2 c2 q _ _ _ _ _ _ w
 rename_i a n cap a2 n2 cap2
 have hbK : b = true ↔ K = k := ⟨fun q => (hbt.1 q).2, fun q => hbt.2 ⟨rfl, q⟩⟩
 rw [hKl] at hn2
 subst hn1 hn2
 clear hbt hn
 obtain ⟨kind, vk, vn, vs, vb, vc, row, col, fr, fc, row2, col2, fr2, fc2, txt⟩ := H
 have HB1 : Box ((w.alloc (.cells (hdC (⟨kind, vk, vn, vs, vb, vc, row, col, fr, fc, row2, col2, fr2, fc2, txt⟩ : Hd) (.slice a k.len cap)).toArray 33)).alloc (.cells (hdC (⟨kind, vk, vn, vs, vb, vc, row, col, fr, fc, row2, col2, fr2, fc2, txt⟩ : Hd) (.slice a2 k.len cap2)).toArray 33)) (w.heap.size + 1) (hdC (⟨kind, vk, vn, vs, vb, vc, row, col, fr, fc, row2, col2, fr2, fc2, txt⟩ : Hd) (.slice a2 k.len cap2)) := by
  have := Box.new (w.alloc (.cells (hdC (⟨kind, vk, vn, vs, vb, vc, row, col, fr, fc, row2, col2, fr2, fc2, txt⟩ : Hd) (.slice a k.len cap)).toArray 33)) (hdC (⟨kind, vk, vn, vs, vb, vc, row, col, fr, fc, row2, col2, fr2, fc2, txt⟩ : Hd) (.slice a2 k.len cap2))
  rw [World.size_alloc] at this
  exact this
 have B0 := ((Box.new w (hdC (⟨kind, vk, vn, vs, vb, vc, row, col, fr, fc, row2, col2, fr2, fc2, txt⟩ : Hd) (.slice a k.len cap))).alloc (.cells (hdC (⟨kind, vk, vn, vs, vb, vc, row, col, fr, fc, row2, col2, fr2, fc2, txt⟩ : Hd) (.slice a2 k.len cap2)).toArray 33))
 have p0 := B0.cell 0 (.int .i64 kind) rfl
 have p1 := B0.cell 1 (.int .i64 vk) rfl
 have p2 := B0.cell 2 (.int .i64 vn) rfl
 have p3 := B0.cell 3 (.string ⟨(vs : List UInt8).toArray⟩) rfl
 have p4 := B0.cell 4 (.bool vb) rfl
 have p5 := B0.cell 5 (.int .i64 vc) rfl
 have p6 := B0.cell 6 (.int .i64 row) rfl
 have p7 := B0.cell 7 (.int .i64 col) rfl
 have p8 := B0.cell 8 (.bool fr) rfl
 have p9 := B0.cell 9 (.bool fc) rfl
 have p10 := B0.cell 10 (.int .i64 row2) rfl
 have p11 := B0.cell 11 (.int .i64 col2) rfl
 have p12 := B0.cell 12 (.bool fr2) rfl
 have p13 := B0.cell 13 (.bool fc2) rfl
 have p14 := B0.cell 14 (.string ⟨(txt : List UInt8).toArray⟩) rfl
 have p15 := B0.cell 15 (.slice a k.len cap) rfl
 clear B0
 have q0 := HB1.cell 0 (.int .i64 kind) rfl
 have q1 := HB1.cell 1 (.int .i64 vk) rfl
 have q2 := HB1.cell 2 (.int .i64 vn) rfl
 have q3 := HB1.cell 3 (.string ⟨(vs : List UInt8).toArray⟩) rfl
 have q4 := HB1.cell 4 (.bool vb) rfl
 have q5 := HB1.cell 5 (.int .i64 vc) rfl
 have q6 := HB1.cell 6 (.int .i64 row) rfl
 have q7 := HB1.cell 7 (.int .i64 col) rfl
 have q8 := HB1.cell 8 (.bool fr) rfl
 have q9 := HB1.cell 9 (.bool fc) rfl
 have q10 := HB1.cell 10 (.int .i64 row2) rfl
 have q11 := HB1.cell 11 (.int .i64 col2) rfl
 have q12 := HB1.cell 12 (.bool fr2) rfl
 have q13 := HB1.cell 13 (.bool fc2) rfl
 have q14 := HB1.cell 14 (.string ⟨(txt : List UInt8).toArray⟩) rfl
 have q15 := HB1.cell 15 (.slice a2 k.len cap2) rfl
 have HK1 := hide hk
 have HK2 := hide hk2
 have HA := hide hA
 have HNk := hide hnk
 have HbK := hide hbK
 have hB0 : Below w.heap.size w ((w.alloc (.cells (hdC (⟨kind, vk, vn, vs, vb, vc, row, col, fr, fc, row2, col2, fr2, fc2, txt⟩ : Hd) (.slice a k.len cap)).toArray 33)).alloc (.cells (hdC (⟨kind, vk, vn, vs, vb, vc, row, col, fr, fc, row2, col2, fr2, fc2, txt⟩ : Hd) (.slice a2 k.len cap2)).toArray 33)) := ((Below.refl _ _).alloc (Nat.le_refl _) _).alloc (by simp) _
 have HB0 := hide hB0
 clear hk hk2 hA HB1 hB0 hnk hbK
 go_enter Tryz.func16, Tryz.ntmps16
 go_wp2
 go_loopw [5] (fun u wr => ∃ (i : Nat) (F F2 : Fo), u = .int .i64 (i : Int) ∧ i + F.len = k.len ∧ (F = .nil ∨ ∃ b' o', a = some ⟨b', o', none⟩ ∧ k.len ≤ cap ∧ cap ≤ maxLen ∧ Row w D F b' (o' + i * 16)) ∧ (F2 = .nil ∨ ∃ b' o', a2 = some ⟨b', o', none⟩ ∧ k.len ≤ cap2 ∧ cap2 ≤ maxLen ∧ Row w D2 F2 b' (o' + i * 16)) ∧ nearF F F2 ∧ (b = true ↔ F2 = F) ∧ SameBA F ∧ Below w.heap.size w wr ∧ w.heap.size + 1 < wr.heap.size ∧ wr.cell? ⟨w.heap.size, 15, none⟩ = some (.slice a k.len cap) ∧ wr.cell? ⟨w.heap.size + 1, 15, none⟩ = some (.slice a2 k.len cap2)) (fun u _ => k.len - (intOf u).toNat)
 case atStart =>
  refine ⟨0, k, K, rfl, by omega, ?_, ?_, HNk.out, HbK.out, HA.out, HB0.out, by simp, p15, q15⟩
  ·
   rcases HK1.out with e | ⟨b', o', e1, e2, e3, e4⟩
   ·
    exact .inl e
   ·
    exact .inr ⟨b', o', e1, e2, e3, by simpa using e4⟩
  ·
   rcases HK2.out with e | ⟨b', o', e1, e2, e3, e4⟩
   ·
    exact .inl e
   ·
    exact .inr ⟨b', o', e1, e2, e3, by simpa using e4⟩
 case round =>
  clear p0 p1 p2 p3 p4 p5 p6 p7 p8 p9 p10 p11 p12 p13 p14 p15 q0 q1 q2 q3 q4 q5 q6 q7 q8 q9 q10 q11 q12 q13 q14 q15
  obtain ⟨i, F, F2, rfl, hl, hF, hF2, hnF, hbF, hAF, hB, hz, c15, e15⟩ := hrel
  have HbF := hide hbF
  clear hbF
  have HB := hide hB
  have hsz := hB.size
  clear hB
  match F, F2, hl, hF, hF2, hAF, hnF, HbF with
  | .nil, .cons _ _ _, _, _, _, _, hnF, _ => exact hnF.elim
  | .cons _ _ _, .nil, _, _, _, _, hnF, _ => exact hnF.elim
  | .nil, .nil, hl, _, _, _, _, HbF =>
   obtain rfl : b = true := HbF.out.2 rfl
   have hli : ¬ (i : Int) < (k.len : Int) := by simp [Fo.len] at hl; omega
   go_wp2
   go_ret
   exact ⟨rfl, HB.out⟩
  | .cons h1 k1 r1, .cons h2 k2 r2, hl, hF, hF2, hAF, hnF, HbF =>
   obtain ⟨hn1, hn2, hn3⟩ := hnF
   obtain ⟨b0, hb0⟩ : ∃ b0 : Bool, b0 = true ↔ (h2 = h1 ∧ k2 = k1) := by
    by_cases q : h2 = h1 ∧ k2 = k1
    ·
     exact ⟨true, by simp [q]⟩
    ·
     exact ⟨false, by simp [q]⟩
   have hli : (i : Int) < (k.len : Int) := by simp [Fo.len] at hl; omega
   have hl2 : i + 1 + r1.len = k.len := by simp [Fo.len] at hl; omega
   obtain ⟨b1, o1, rfl, hcap1, hcap2, hrw⟩ : ∃ b' o', a = some ⟨b', o', none⟩ ∧ k.len ≤ cap ∧ cap ≤ maxLen ∧ Row w D (.cons h1 k1 r1) b' (o' + i * 16) := by
    rcases hF with e | e
    ·
     cases e
    ·
     exact e
   obtain ⟨b2, o2, rfl, hcap3, hcap4, hrw2⟩ : ∃ b' o', a2 = some ⟨b', o', none⟩ ∧ k.len ≤ cap2 ∧ cap2 ≤ maxLen ∧ Row w D2 (.cons h2 k2 r2) b' (o' + i * 16) := by
    rcases hF2 with e | e
    ·
     cases e
    ·
     exact e
   obtain ⟨d1, ⟨v1, x1, y1⟩, z1⟩ := row_cons.1 hrw
   obtain ⟨d2, ⟨v2, x2, y2⟩, z2⟩ := row_cons.1 hrw2
   have HR1 : Hid (Row w D r1 b1 (o1 + (i + 1) * 16)) := by rw [show o1 + (i + 1) * 16 = o1 + i * 16 + 16 by omega]; exact z1
   have HR2 : Hid (Row w D2 r2 b2 (o2 + (i + 1) * 16)) := by rw [show o2 + (i + 1) * 16 = o2 + i * 16 + 16 by omega]; exact z2
   have HX : Hid (∀ W : World, Below w.heap.size w W → (∀ j, j < 16 → W.cell? ⟨b1, o1 + i * 16 + j, none⟩ = (hdC h1 v1)[j]?) ∧ (∀ j, j < 16 → W.cell? ⟨b2, o2 + i * 16 + j, none⟩ = (hdC h2 v2)[j]?)) := fun W hW => ⟨fun j hj => by rw [hW.cell (p := ⟨b1, o1 + i * 16 + j, none⟩) (hD b1 d1)]; exact x1 j hj, fun j hj => by rw [hW.cell (p := ⟨b2, o2 + i * 16 + j, none⟩) (hD2 b2 d2)]; exact x2 j hj⟩
   obtain ⟨hA1, hA2⟩ := hAF
   have HA2 := hide hA2
   have HC : Hid (∀ W : World, Below w.heap.size w W → Calls Tryz.prog 16 #[.agg (hdC h1 v1).toArray, .agg (hdC h2 v2).toArray] W fun e w' => e = .returned (.bool b0) ∧ Below W.heap.size W w') := fun W hW =>
    hA1 D D2 h1 h2 k2 v1 v2 W b0 hn1 hn2 hb0 (fun c hc => Nat.lt_of_lt_of_le (hD c hc) hW.size) (fun c hc => Nat.lt_of_lt_of_le (hD2 c hc) hW.size) (kv_to y1 (fun b hb => ⟨hb, hW.block b (hD b hb)⟩)) (kv_to y2 (fun b hb => ⟨hb, hW.block b (hD2 b hb)⟩))
   have HM := hide hcap2
   have HM2 := hide hcap4
   unfold maxLen at hcap2 hcap4
   have HN3 := hide hn3
   clear hn1 hn2 hn3 hrw hrw2 d1 d2 x1 x2 y1 y2 z1 z2 hA1 hA2 hF hF2 hl
   cases b0
   ·
    have e0 : ¬ (h2 = h1 ∧ k2 = k1) := fun q => absurd (hb0.2 q) (by simp)
    obtain rfl : b = false := by
     cases b
     ·
      rfl
     ·
      have := HbF.out.1 rfl
      injection this with q1 q2 q3
      exact absurd ⟨q1, q2⟩ e0
    clear hb0 e0
    go_wp2
    refine wp_region_held_drew (S := fun W => (∀ j, j < 16 → W.cell? ⟨b1, o1 + i * 16 + j, none⟩ = (hdC h1 v1)[j]?) ∧ (∀ j, j < 16 → W.cell? ⟨b2, o2 + i * 16 + j, none⟩ = (hdC h2 v2)[j]?) ∧ W.cell? ⟨w.heap.size, 15, none⟩ = some (.slice (some ⟨b1, o1, none⟩) k.len cap) ∧ W.cell? ⟨w.heap.size + 1, 15, none⟩ = some (.slice (some ⟨b2, o2, none⟩) k.len cap2)) (by kernel_rfl) ⟨(HX.out wr HB.out).1, (HX.out wr HB.out).2, c15, e15⟩ (fun hHeld => ?_)
    refine takeF 0 (some 55) ?_; refine takeF 1 (some 56) ?_; refine takeF 2 (some 57) ?_; refine takeF 3 (some 58) ?_
    (refine takeE (i := 4) (some 59) rfl rfl (by kernel_rfl) (v := .agg (hdC h1 v1).toArray) rfl (fun W hSW => exec_loadAt _ rfl b1 (o1 + i * 16) rfl hSW.1) (by assumption) ?_; try simp only [Act.put, pA, pB, pC])
    refine takeF 5 (some 60) ?_; refine takeF 6 (some 61) ?_; refine takeF 7 (some 62) ?_; refine takeF 8 (some 63) ?_
    (refine takeE (i := 9) (some 64) rfl rfl (by kernel_rfl) (v := .agg (hdC h2 v2).toArray) rfl (fun W hSW => exec_loadAt _ rfl b2 (o2 + i * 16) rfl hSW.2.1) (by assumption) ?_; try simp only [Act.put, pA, pB, pC])
    have HBd : Hid (Below w.heap.size w wr.drew) := bar_below HB.out (Bar.of (below_drew0 wr))
    (refine wpAnyH_ready (rs := [10]) (by kernel_rfl) (by simp) ?_; refine AllReadyH.cons (o := _) rfl (fun K hK => ?_) AllReadyH.nil; go_simp; (go_at_call 16; refine (HC.out _ HBd.out).mono ?_; rintro e w1 ⟨rfl, hb1⟩; have HB1 := hide (bar_below HBd.out (Bar.of hb1)); have HZ1 : Hid (wr.heap.size ≤ w1.heap.size) := hb1.size; have k15 : w1.cell? ⟨w.heap.size, 15, none⟩ = some (.slice (some ⟨b1, o1, none⟩) k.len cap) := by { rw [hb1.cell (p := ⟨w.heap.size, 15, none⟩) (by show w.heap.size < wr.heap.size; omega)]; exact c15 }; have l15 : w1.cell? ⟨w.heap.size + 1, 15, none⟩ = some (.slice (some ⟨b2, o2, none⟩) k.len cap2) := by { rw [hb1.cell (p := ⟨w.heap.size + 1, 15, none⟩) hz]; exact e15 }; clear hb1); refine hK.out _ _ ⟨(HX.out w1 HB1.out).1, (HX.out w1 HB1.out).2, k15, l15⟩ (fun hHeld => ?_); clear hK K; try simp only [Act.put, pA, pB, pC])
    refine takeF 11 (some 66) ?_
    refine wpAnyH_done (by kernel_rfl) ?_ _
    go_wp2
    go_ret
    exact ⟨rfl, HB1.out⟩
   ·
    have hq := hb0.1 rfl
    have HBT : Hid (b = true ↔ r2 = r1) := hide ⟨fun q => by
     have := HbF.out.1 q
     injection this, fun q => HbF.out.2 (by rw [q, hq.1, hq.2])⟩
    clear hb0 hq
    go_wp2
    refine wp_region_held_drew (S := fun W => (∀ j, j < 16 → W.cell? ⟨b1, o1 + i * 16 + j, none⟩ = (hdC h1 v1)[j]?) ∧ (∀ j, j < 16 → W.cell? ⟨b2, o2 + i * 16 + j, none⟩ = (hdC h2 v2)[j]?) ∧ W.cell? ⟨w.heap.size, 15, none⟩ = some (.slice (some ⟨b1, o1, none⟩) k.len cap) ∧ W.cell? ⟨w.heap.size + 1, 15, none⟩ = some (.slice (some ⟨b2, o2, none⟩) k.len cap2)) (by kernel_rfl) ⟨(HX.out wr HB.out).1, (HX.out wr HB.out).2, c15, e15⟩ (fun hHeld => ?_)
    refine takeF 0 (some 55) ?_; refine takeF 1 (some 56) ?_; refine takeF 2 (some 57) ?_; refine takeF 3 (some 58) ?_
    (refine takeE (i := 4) (some 59) rfl rfl (by kernel_rfl) (v := .agg (hdC h1 v1).toArray) rfl (fun W hSW => exec_loadAt _ rfl b1 (o1 + i * 16) rfl hSW.1) (by assumption) ?_; try simp only [Act.put, pA, pB, pC])
    refine takeF 5 (some 60) ?_; refine takeF 6 (some 61) ?_; refine takeF 7 (some 62) ?_; refine takeF 8 (some 63) ?_
    (refine takeE (i := 9) (some 64) rfl rfl (by kernel_rfl) (v := .agg (hdC h2 v2).toArray) rfl (fun W hSW => exec_loadAt _ rfl b2 (o2 + i * 16) rfl hSW.2.1) (by assumption) ?_; try simp only [Act.put, pA, pB, pC])
    have HBd : Hid (Below w.heap.size w wr.drew) := bar_below HB.out (Bar.of (below_drew0 wr))
    (refine wpAnyH_ready (rs := [10]) (by kernel_rfl) (by simp) ?_; refine AllReadyH.cons (o := _) rfl (fun K hK => ?_) AllReadyH.nil; go_simp; (go_at_call 16; refine (HC.out _ HBd.out).mono ?_; rintro e w1 ⟨rfl, hb1⟩; have HB1 := hide (bar_below HBd.out (Bar.of hb1)); have HZ1 : Hid (wr.heap.size ≤ w1.heap.size) := hb1.size; have k15 : w1.cell? ⟨w.heap.size, 15, none⟩ = some (.slice (some ⟨b1, o1, none⟩) k.len cap) := by { rw [hb1.cell (p := ⟨w.heap.size, 15, none⟩) (by show w.heap.size < wr.heap.size; omega)]; exact c15 }; have l15 : w1.cell? ⟨w.heap.size + 1, 15, none⟩ = some (.slice (some ⟨b2, o2, none⟩) k.len cap2) := by { rw [hb1.cell (p := ⟨w.heap.size + 1, 15, none⟩) hz]; exact e15 }; clear hb1); refine hK.out _ _ ⟨(HX.out w1 HB1.out).1, (HX.out w1 HB1.out).2, k15, l15⟩ (fun hHeld => ?_); clear hK K; try simp only [Act.put, pA, pB, pC])
    refine takeF 11 (some 66) ?_
    refine wpAnyH_done (by kernel_rfl) ?_ _
    go_wp2
    go_roundw
    case rel => exact ⟨i + 1, r1, r2, by go_num, by omega, .inr ⟨b1, o1, rfl, hcap1, HM.out, HR1.out⟩, .inr ⟨b2, o2, rfl, hcap3, HM2.out, HR2.out⟩, HN3.out, HBT.out, HA2.out, HB1.out, by have := HZ1.out; omega, k15, l15⟩
    case measure => simp [intOf]; omega
theorem sameb_all : ∀ (F : Fo), SameBA F
 | .nil => trivial
 | .cons _ k r => ⟨sameb_step k (sameb_all k), sameb_all r⟩
theorem sameb_any (k : Fo) : SameBC k := sameb_step k (sameb_all k)
end Go.Proofs.YtfpmmckpobpokaaGreat
set_option maxRecDepth 100000
set_option maxHeartbeats 4000000
namespace Go.Proofs.YtfpmmckpobpokaaGreat
open Go.RowKit
theorem wpl_newAt {ops : Array Oper} {rest : List Oper} {o : Oper} {a : Act} {W w : World} {Q : Exit → Act → World → Prop} (g : Nat) (hg : w.heap.size = g) (hgd : o.guard = none) (x y : Operand) (ho : o.op = .store 33 x y)
  (hW : W = w.alloc (.cells (hdC zh (.slice none 0 0)).toArray 33)) (hx : a.eval x = .pointer (some ⟨g, 0, none⟩)) {h : Hd} {pp : Option Addr} {n cap : Nat} (hy : a.eval y = .agg (hdC h (.slice pp n cap)).toArray)
  (hk : wpList Tryz.prog ops Q rest (a.put o.dst undef) (w.alloc (.cells (hdC h (.slice pp n cap)).toArray 33))) : wpList Tryz.prog ops Q (o :: rest) a W := by
 subst hg
 exact wpl_newN hgd x y ho hW hx hy hk
theorem psame_kind (h H : Hd) (hk : (h.kind == H.kind) = false) (a a2 : Option Addr) (n cap n2 cap2 : Nat) (w : World) :
  Calls Tryz.prog 36 #[.agg (hdC h (.slice a n cap)).toArray, .agg (hdC H (.slice a2 n2 cap2)).toArray] w fun e w' => e = .returned (.bool false) ∧ Below w.heap.size w w' := by
 have HB1 : Box ((w.alloc (.cells (hdC h (.slice a n cap)).toArray 33)).alloc (.cells (hdC H (.slice a2 n2 cap2)).toArray 33)) (w.heap.size + 1) (hdC H (.slice a2 n2 cap2)) := by
  have := Box.new (w.alloc (.cells (hdC h (.slice a n cap)).toArray 33)) (hdC H (.slice a2 n2 cap2))
  rw [World.size_alloc] at this
  exact this
 have HB0 : Hid (Below w.heap.size w ((w.alloc (.cells (hdC h (.slice a n cap)).toArray 33)).alloc (.cells (hdC H (.slice a2 n2 cap2)).toArray 33))) := hide (((Below.refl _ _).alloc (Nat.le_refl _) _).alloc (by simp) _)
 have B0 := ((Box.new w (hdC h (.slice a n cap))).alloc (.cells (hdC H (.slice a2 n2 cap2)).toArray 33))
 have p0 := B0.cell 0 (.int .i64 h.kind) rfl
 clear B0
 have q0 := HB1.cell 0 (.int .i64 H.kind) rfl
 clear HB1
 go_enter Tryz.func36, Tryz.ntmps36
 go_wp2
 go_ret
 exact ⟨rfl, HB0.out⟩
theorem psame_place (h : Hd) (r c r2 c2 : Int) (key : (h.row == r) = false ∨ ((h.row == r) = true ∧ (h.col == c) = false) ∨ ((h.row == r) = true ∧ (h.col == c) = true ∧ (h.row2 == r2) = false) ∨ ((h.row == r) = true ∧ (h.col == c) = true ∧ (h.row2 == r2) = true ∧ (h.col2 == c2) = false)) (a a2 : Option Addr) (n cap n2 cap2 : Nat) (w : World) :
  Calls Tryz.prog 36 #[.agg (hdC h (.slice a n cap)).toArray, .agg (hdC ⟨h.kind, h.vk, h.vn, h.vs, h.vb, h.vc, r, c, h.fr, h.fc, r2, c2, h.fr2, h.fc2, h.txt⟩ (.slice a2 n2 cap2)).toArray] w fun e w' => e = .returned (.bool false) ∧ Below w.heap.size w w' := by
 obtain ⟨kind, vk, vn, vs, vb, vc, row, col, fr, fc, row2, col2, fr2, fc2, txt⟩ := h
 simp only at key ⊢
 have HB1 : Box ((w.alloc (.cells (hdC (⟨kind, vk, vn, vs, vb, vc, row, col, fr, fc, row2, col2, fr2, fc2, txt⟩ : Hd) (.slice a n cap)).toArray 33)).alloc (.cells (hdC (⟨kind, vk, vn, vs, vb, vc, r, c, fr, fc, r2, c2, fr2, fc2, txt⟩ : Hd) (.slice a2 n2 cap2)).toArray 33)) (w.heap.size + 1) (hdC (⟨kind, vk, vn, vs, vb, vc, r, c, fr, fc, r2, c2, fr2, fc2, txt⟩ : Hd) (.slice a2 n2 cap2)) := by
  have := Box.new (w.alloc (.cells (hdC (⟨kind, vk, vn, vs, vb, vc, row, col, fr, fc, row2, col2, fr2, fc2, txt⟩ : Hd) (.slice a n cap)).toArray 33)) (hdC (⟨kind, vk, vn, vs, vb, vc, r, c, fr, fc, r2, c2, fr2, fc2, txt⟩ : Hd) (.slice a2 n2 cap2))
  rw [World.size_alloc] at this
  exact this
 have HB0 : Hid (Below w.heap.size w ((w.alloc (.cells (hdC (⟨kind, vk, vn, vs, vb, vc, row, col, fr, fc, row2, col2, fr2, fc2, txt⟩ : Hd) (.slice a n cap)).toArray 33)).alloc (.cells (hdC (⟨kind, vk, vn, vs, vb, vc, r, c, fr, fc, r2, c2, fr2, fc2, txt⟩ : Hd) (.slice a2 n2 cap2)).toArray 33))) := hide (((Below.refl _ _).alloc (Nat.le_refl _) _).alloc (by simp) _)
 have B0 := ((Box.new w (hdC (⟨kind, vk, vn, vs, vb, vc, row, col, fr, fc, row2, col2, fr2, fc2, txt⟩ : Hd) (.slice a n cap))).alloc (.cells (hdC (⟨kind, vk, vn, vs, vb, vc, r, c, fr, fc, r2, c2, fr2, fc2, txt⟩ : Hd) (.slice a2 n2 cap2)).toArray 33))
 have p0 := B0.cell 0 (.int .i64 kind) rfl
 have p1 := B0.cell 1 (.int .i64 vk) rfl
 have p2 := B0.cell 2 (.int .i64 vn) rfl
 have p3 := B0.cell 3 (.string ⟨(vs : List UInt8).toArray⟩) rfl
 have p4 := B0.cell 4 (.bool vb) rfl
 have p5 := B0.cell 5 (.int .i64 vc) rfl
 have p6 := B0.cell 6 (.int .i64 row) rfl
 have p7 := B0.cell 7 (.int .i64 col) rfl
 have p8 := B0.cell 8 (.bool fr) rfl
 have p9 := B0.cell 9 (.bool fc) rfl
 have p10 := B0.cell 10 (.int .i64 row2) rfl
 have p11 := B0.cell 11 (.int .i64 col2) rfl
 have p12 := B0.cell 12 (.bool fr2) rfl
 have p13 := B0.cell 13 (.bool fc2) rfl
 have p14 := B0.cell 14 (.string ⟨(txt : List UInt8).toArray⟩) rfl
 have p15 := B0.cell 15 (.slice a n cap) rfl
 clear B0
 have q0 := HB1.cell 0 (.int .i64 kind) rfl
 have q1 := HB1.cell 1 (.int .i64 vk) rfl
 have q2 := HB1.cell 2 (.int .i64 vn) rfl
 have q3 := HB1.cell 3 (.string ⟨(vs : List UInt8).toArray⟩) rfl
 have q4 := HB1.cell 4 (.bool vb) rfl
 have q5 := HB1.cell 5 (.int .i64 vc) rfl
 have q6 := HB1.cell 6 (.int .i64 r) rfl
 have q7 := HB1.cell 7 (.int .i64 c) rfl
 have q8 := HB1.cell 8 (.bool fr) rfl
 have q9 := HB1.cell 9 (.bool fc) rfl
 have q10 := HB1.cell 10 (.int .i64 r2) rfl
 have q11 := HB1.cell 11 (.int .i64 c2) rfl
 have q12 := HB1.cell 12 (.bool fr2) rfl
 have q13 := HB1.cell 13 (.bool fc2) rfl
 have q14 := HB1.cell 14 (.string ⟨(txt : List UInt8).toArray⟩) rfl
 have q15 := HB1.cell 15 (.slice a2 n2 cap2) rfl
 clear HB1
 rcases key with z1 | ⟨z1, z2⟩ | ⟨z1, z2, z3⟩ | ⟨z1, z2, z3, z4⟩
 all_goals
  go_enter Tryz.func36, Tryz.ntmps36
  go_wp2
  go_ret
  exact ⟨rfl, HB0.out⟩
def SamePC (k : Fo) : Prop :=
 ∀ (D D2 : Nat → Prop) (h H : Hd) (K : Fo) (v v2 : Value) (w : World) (b : Bool), nearH h H → nearF k K → (b = true ↔ (H = h ∧ K = k)) → (∀ c, D c → c < w.heap.size) → (∀ c, D2 c → c < w.heap.size) → Kv w D v k → Kv w D2 v2 K →
  Calls Tryz.prog 36 #[.agg (hdC h v).toArray, .agg (hdC H v2).toArray] w fun e w' => e = .returned (.bool b) ∧ Below w.heap.size w w'
def SamePA : Fo → Prop
 | .nil => True
 | .cons _ k r => SamePC k ∧ SamePA r
theorem eqf_any (k : Fo) (hA : SamePA k) (D D2 : Nat → Prop) (K : Fo) (a a2 : Option Addr) (n cap n2 cap2 : Nat) (w : World) (b : Bool) (hnk : nearF k K) (hbK : b = true ↔ K = k) (hD : ∀ c, D c → c < w.heap.size) (hD2 : ∀ c, D2 c → c < w.heap.size) (hk : Kv w D (.slice a n cap) k) (hk2 : Kv w D2 (.slice a2 n2 cap2) K) :
  Calls Tryz.prog 69 #[.slice a n cap, .slice a2 n2 cap2, .func (.func 36) #[] #[]] w fun e w' => e = .returned (.bool b) ∧ Below w.heap.size w w' := by
 have hKl := nearF_len k K hnk
 obtain ⟨_, _, _, e0, hn1, hk⟩ := hk
 obtain ⟨_, _, _, e1, hn2, hk2⟩ := hk2
 cases e0
 cases e1
 rw [hKl] at hn2
 subst hn1 hn2
 have HK1 := hide hk
 have HK2 := hide hk2
 have HA := hide hA
 have HNk := hide hnk
 have HbK := hide hbK
 clear hk hk2 hA hnk hbK
 go_enter Tryz.func69, Tryz.ntmps69
 go_wp2
 go_loopw [17] (fun u wr => ∃ (i : Nat) (F F2 : Fo), u = .int .i64 (i : Int) ∧ i + F.len = k.len ∧ (F = .nil ∨ ∃ b' o', a = some ⟨b', o', none⟩ ∧ k.len ≤ cap ∧ cap ≤ maxLen ∧ Row w D F b' (o' + i * 16)) ∧ (F2 = .nil ∨ ∃ b' o', a2 = some ⟨b', o', none⟩ ∧ k.len ≤ cap2 ∧ cap2 ≤ maxLen ∧ Row w D2 F2 b' (o' + i * 16)) ∧ nearF F F2 ∧ (b = true ↔ F2 = F) ∧ SamePA F ∧ Below w.heap.size w wr) (fun u _ => k.len - (intOf u).toNat)
 case atStart =>
  refine ⟨0, k, K, rfl, by omega, ?_, ?_, HNk.out, HbK.out, HA.out, Below.refl _ _⟩
  ·
   rcases HK1.out with e | ⟨b', o', e1, e2, e3, e4⟩
   ·
    exact .inl e
   ·
    exact .inr ⟨b', o', e1, e2, e3, by simpa using e4⟩
  ·
   rcases HK2.out with e | ⟨b', o', e1, e2, e3, e4⟩
   ·
    exact .inl e
   ·
    exact .inr ⟨b', o', e1, e2, e3, by simpa using e4⟩
 case round =>
  obtain ⟨i, F, F2, rfl, hl, hF, hF2, hnF, hbF, hAF, hB⟩ := hrel
  have HbF := hide hbF
  have HB := hide hB
  clear hbF hB
  match F, F2, hl, hF, hF2, hAF, hnF, HbF with
  | .nil, .cons _ _ _, _, _, _, _, hnF, _ => exact hnF.elim
  | .cons _ _ _, .nil, _, _, _, _, hnF, _ => exact hnF.elim
  | .nil, .nil, hl, _, _, _, _, HbF =>
   obtain rfl : b = true := HbF.out.2 rfl
   have hli : ¬ (i : Int) < (k.len : Int) := by simp [Fo.len] at hl; omega
   go_wp2
   go_ret
   exact ⟨rfl, HB.out⟩
  | .cons h1 k1 r1, .cons h2 k2 r2, hl, hF, hF2, hAF, hnF, HbF =>
   obtain ⟨hn1, hn2, hn3⟩ := hnF
   obtain ⟨b0, hb0⟩ : ∃ b0 : Bool, b0 = true ↔ (h2 = h1 ∧ k2 = k1) := by
    by_cases q : h2 = h1 ∧ k2 = k1
    ·
     exact ⟨true, by simp [q]⟩
    ·
     exact ⟨false, by simp [q]⟩
   have hli : (i : Int) < (k.len : Int) := by simp [Fo.len] at hl; omega
   have hl2 : i + 1 + r1.len = k.len := by simp [Fo.len] at hl; omega
   obtain ⟨b1, o1, rfl, hcap1, hcap2, hrw⟩ : ∃ b' o', a = some ⟨b', o', none⟩ ∧ k.len ≤ cap ∧ cap ≤ maxLen ∧ Row w D (.cons h1 k1 r1) b' (o' + i * 16) := by
    rcases hF with e | e
    ·
     cases e
    ·
     exact e
   obtain ⟨b2, o2, rfl, hcap3, hcap4, hrw2⟩ : ∃ b' o', a2 = some ⟨b', o', none⟩ ∧ k.len ≤ cap2 ∧ cap2 ≤ maxLen ∧ Row w D2 (.cons h2 k2 r2) b' (o' + i * 16) := by
    rcases hF2 with e | e
    ·
     cases e
    ·
     exact e
   obtain ⟨d1, ⟨_, x1, a3, n3, c3, rfl, y1, y3⟩, z1⟩ := row_cons.1 hrw
   obtain ⟨d2, ⟨_, x2, a4, n4, c4, rfl, y2, y4⟩, z2⟩ := row_cons.1 hrw2
   have HR1 : Hid (Row w D r1 b1 (o1 + (i + 1) * 16)) := by rw [show o1 + (i + 1) * 16 = o1 + i * 16 + 16 by omega]; exact z1
   have HR2 : Hid (Row w D2 r2 b2 (o2 + (i + 1) * 16)) := by rw [show o2 + (i + 1) * 16 = o2 + i * 16 + 16 by omega]; exact z2
   have HX1 : Hid (∀ j, j < 16 → wr.cell? ⟨b1, o1 + i * 16 + j, none⟩ = (hdC h1 (.slice a3 n3 c3))[j]?) := fun j hj => by rw [HB.out.cell (p := ⟨b1, o1 + i * 16 + j, none⟩) (hD b1 d1)]; exact x1 j hj
   have hz := HB.out.size
   have HX2 : Hid (∀ j, j < 16 → (wr.alloc (.cells (hdC h1 (.slice a3 n3 c3)).toArray 33)).cell? ⟨b2, o2 + i * 16 + j, none⟩ = (hdC h2 (.slice a4 n4 c4))[j]?) := fun j hj => by rw [(HB.out.alloc hz (.cells (hdC h1 (.slice a3 n3 c3)).toArray 33)).cell (p := ⟨b2, o2 + i * 16 + j, none⟩) (hD2 b2 d2)]; exact x2 j hj
   have HV1 := hide ((Box.new wr (hdC h1 (.slice a3 n3 c3))).alloc (.cells (hdC h2 (.slice a4 n4 c4)).toArray 33))
   have HV2 : Hid (Box ((wr.alloc (.cells (hdC h1 (.slice a3 n3 c3)).toArray 33)).alloc (.cells (hdC h2 (.slice a4 n4 c4)).toArray 33)) (wr.heap.size + 1) (hdC h2 (.slice a4 n4 c4))) := by
    have := Box.new (wr.alloc (.cells (hdC h1 (.slice a3 n3 c3)).toArray 33)) (hdC h2 (.slice a4 n4 c4))
    rw [World.size_alloc] at this
    exact hide this
   have HB2 : Hid (Below w.heap.size w ((wr.alloc (.cells (hdC h1 (.slice a3 n3 c3)).toArray 33)).alloc (.cells (hdC h2 (.slice a4 n4 c4)).toArray 33))) := hide ((HB.out.alloc hz (.cells (hdC h1 (.slice a3 n3 c3)).toArray 33)).alloc (by simp; omega) (.cells (hdC h2 (.slice a4 n4 c4)).toArray 33))
   obtain ⟨hA1, hA2⟩ := hAF
   have HA2 := hide hA2
   have HC : Hid (∀ W : World, Below w.heap.size w W → Calls Tryz.prog 36 #[.agg (hdC h1 (.slice a3 n3 c3)).toArray, .agg (hdC h2 (.slice a4 n4 c4)).toArray] W fun e w' => e = .returned (.bool b0) ∧ Below W.heap.size W w') := fun W hW =>
    hA1 D D2 h1 h2 k2 _ _ W b0 hn1 hn2 hb0 (fun c hc => Nat.lt_of_lt_of_le (hD c hc) hW.size) (fun c hc => Nat.lt_of_lt_of_le (hD2 c hc) hW.size) (kv_to ⟨_, _, _, rfl, y1, y3⟩ (fun b hb => ⟨hb, hW.block b (hD b hb)⟩)) (kv_to ⟨_, _, _, rfl, y2, y4⟩ (fun b hb => ⟨hb, hW.block b (hD2 b hb)⟩))
   have HM := hide hcap2
   have HM2 := hide hcap4
   have HN3 := hide hn3
   have HG0 : Hid (0 = 0) := hide rfl
   unfold maxLen at hcap2 hcap4
   clear hn1 hn2 hn3 hrw hrw2 d1 d2 x1 x2 y1 y2 y3 y4 z1 z2 hA1 hA2 hF hF2 hl
   cases b0
   ·
    have e0 : ¬ (h2 = h1 ∧ k2 = k1) := fun q => absurd (hb0.2 q) (by simp)
    obtain rfl : b = false := by
     cases b
     ·
      rfl
     ·
      have := HbF.out.1 rfl
      injection this with q1 q2 q3
      exact absurd ⟨q1, q2⟩ e0
    clear hb0 e0
    go_wp2_with (first | (with_reducible refine wpl_id ?_; refine wpl_load rfl _ rfl _ rfl (by ((repeat' (first | with_reducible (first | exact Hid.out (by assumption) | apply Box.set | exact Box.new _ _ | apply Box.other | apply Box.alloc | apply Box.drew | apply Box.drewN) | omega)); done)) ?_) | (have hneed := HG0; with_reducible refine wpl_id ?_; refine wpl_loadAt rfl _ rfl _ _ rfl HX1.out ?_; clear hneed HG0; have HG1 : Hid (0 = 0) := hide rfl) | (have hneed := HG1; with_reducible refine wpl_id ?_; refine wpl_loadAt rfl _ rfl _ _ rfl HX2.out ?_; clear hneed HG1; have HG2 : Hid (0 = 0) := hide rfl) | (go_at_call 36; refine (HC.out _ HB2.out).mono ?_; rintro e w3 ⟨rfl, hb3⟩; have HB3 := hide (HB2.out.trans (hb3.mono HB2.out.size)); clear hb3) | (have hneed := HG1; with_reducible refine wpl_id ?_; refine wpl_newN rfl _ _ rfl rfl rfl rfl ?_) | (have hneed := HG2; with_reducible refine wpl_id ?_; refine wpl_newAt (wr.heap.size + 1) (by simp) rfl _ _ rfl rfl rfl rfl ?_; clear hneed HG2))
    go_ret
    exact ⟨rfl, HB3.out⟩
   ·
    have hq := hb0.1 rfl
    have HBT : Hid (b = true ↔ r2 = r1) := hide ⟨fun q => by
     have := HbF.out.1 q
     injection this, fun q => HbF.out.2 (by rw [q, hq.1, hq.2])⟩
    clear hb0 hq
    go_wp2_with (first | (with_reducible refine wpl_id ?_; refine wpl_load rfl _ rfl _ rfl (by ((repeat' (first | with_reducible (first | exact Hid.out (by assumption) | apply Box.set | exact Box.new _ _ | apply Box.other | apply Box.alloc | apply Box.drew | apply Box.drewN) | omega)); done)) ?_) | (have hneed := HG0; with_reducible refine wpl_id ?_; refine wpl_loadAt rfl _ rfl _ _ rfl HX1.out ?_; clear hneed HG0; have HG1 : Hid (0 = 0) := hide rfl) | (have hneed := HG1; with_reducible refine wpl_id ?_; refine wpl_loadAt rfl _ rfl _ _ rfl HX2.out ?_; clear hneed HG1; have HG2 : Hid (0 = 0) := hide rfl) | (go_at_call 36; refine (HC.out _ HB2.out).mono ?_; rintro e w3 ⟨rfl, hb3⟩; have HB3 := hide (HB2.out.trans (hb3.mono HB2.out.size)); clear hb3) | (have hneed := HG1; with_reducible refine wpl_id ?_; refine wpl_newN rfl _ _ rfl rfl rfl rfl ?_) | (have hneed := HG2; with_reducible refine wpl_id ?_; refine wpl_newAt (wr.heap.size + 1) (by simp) rfl _ _ rfl rfl rfl rfl ?_; clear hneed HG2))
    go_roundw
    case rel => exact ⟨i + 1, r1, r2, by go_num, by omega, .inr ⟨b1, o1, rfl, hcap1, HM.out, HR1.out⟩, .inr ⟨b2, o2, rfl, hcap3, HM2.out, HR2.out⟩, HN3.out, HBT.out, HA2.out, HB3.out⟩
    case measure => simp [intOf]; omega
theorem samep_step (k : Fo) (hA : SamePA k) : SamePC k := by
 intro D D2 h H K v v2 w b hn hnk hbt hD hD2 hk hk2
 obtain ⟨a, n, cap, rfl, hn1, hk'⟩ := hk
 obtain ⟨a2, n2, cap2, rfl, hn2, hk2'⟩ := hk2
 rcases near_cases hn with rfl | ⟨hne, hkey⟩
 case inr =>
  obtain rfl : b = false := by
   cases b
   ·
    rfl
   ·
    exact absurd (hbt.1 rfl).1 hne
  rcases hkey with q | ⟨r, c, r2, c2, rfl, q⟩
  ·
   exact psame_kind h H q _ _ _ _ _ _ w
  ·
   exact psame_place h r c r2 c2 q _ _ _ _ _ _ w
 have hbK : b = true ↔ K = k := ⟨fun q => (hbt.1 q).2, fun q => hbt.2 ⟨rfl, q⟩⟩
 have HE : Hid (∀ W : World, Below w.heap.size w W → Calls Tryz.prog 69 #[.slice a n cap, .slice a2 n2 cap2, .func (.func 36) #[] #[]] W fun e w' => e = .returned (.bool b) ∧ Below W.heap.size W w') := fun W hW =>
  eqf_any k hA D D2 K a a2 n cap n2 cap2 W b hnk hbK (fun c hc => Nat.lt_of_lt_of_le (hD c hc) hW.size) (fun c hc => Nat.lt_of_lt_of_le (hD2 c hc) hW.size) (kv_to ⟨_, _, _, rfl, hn1, hk'⟩ (fun b hb => ⟨hb, hW.block b (hD b hb)⟩)) (kv_to ⟨_, _, _, rfl, hn2, hk2'⟩ (fun b hb => ⟨hb, hW.block b (hD2 b hb)⟩))
 clear hn hnk hbt hbK hk' hk2' hD hD2 hn1 hn2 hA
 obtain ⟨kind, vk, vn, vs, vb, vc, row, col, fr, fc, row2, col2, fr2, fc2, txt⟩ := H
 have HB1 : Box ((w.alloc (.cells (hdC (⟨kind, vk, vn, vs, vb, vc, row, col, fr, fc, row2, col2, fr2, fc2, txt⟩ : Hd) (.slice a n cap)).toArray 33)).alloc (.cells (hdC (⟨kind, vk, vn, vs, vb, vc, row, col, fr, fc, row2, col2, fr2, fc2, txt⟩ : Hd) (.slice a2 n2 cap2)).toArray 33)) (w.heap.size + 1) (hdC (⟨kind, vk, vn, vs, vb, vc, row, col, fr, fc, row2, col2, fr2, fc2, txt⟩ : Hd) (.slice a2 n2 cap2)) := by
  have := Box.new (w.alloc (.cells (hdC (⟨kind, vk, vn, vs, vb, vc, row, col, fr, fc, row2, col2, fr2, fc2, txt⟩ : Hd) (.slice a n cap)).toArray 33)) (hdC (⟨kind, vk, vn, vs, vb, vc, row, col, fr, fc, row2, col2, fr2, fc2, txt⟩ : Hd) (.slice a2 n2 cap2))
  rw [World.size_alloc] at this
  exact this
 have HB0 : Hid (Below w.heap.size w ((w.alloc (.cells (hdC (⟨kind, vk, vn, vs, vb, vc, row, col, fr, fc, row2, col2, fr2, fc2, txt⟩ : Hd) (.slice a n cap)).toArray 33)).alloc (.cells (hdC (⟨kind, vk, vn, vs, vb, vc, row, col, fr, fc, row2, col2, fr2, fc2, txt⟩ : Hd) (.slice a2 n2 cap2)).toArray 33))) := hide (((Below.refl _ _).alloc (Nat.le_refl _) _).alloc (by simp) _)
 have B0 := ((Box.new w (hdC (⟨kind, vk, vn, vs, vb, vc, row, col, fr, fc, row2, col2, fr2, fc2, txt⟩ : Hd) (.slice a n cap))).alloc (.cells (hdC (⟨kind, vk, vn, vs, vb, vc, row, col, fr, fc, row2, col2, fr2, fc2, txt⟩ : Hd) (.slice a2 n2 cap2)).toArray 33))
 have p0 := B0.cell 0 (.int .i64 kind) rfl
 have p1 := B0.cell 1 (.int .i64 vk) rfl
 have p2 := B0.cell 2 (.int .i64 vn) rfl
 have p3 := B0.cell 3 (.string ⟨(vs : List UInt8).toArray⟩) rfl
 have p4 := B0.cell 4 (.bool vb) rfl
 have p5 := B0.cell 5 (.int .i64 vc) rfl
 have p6 := B0.cell 6 (.int .i64 row) rfl
 have p7 := B0.cell 7 (.int .i64 col) rfl
 have p8 := B0.cell 8 (.bool fr) rfl
 have p9 := B0.cell 9 (.bool fc) rfl
 have p10 := B0.cell 10 (.int .i64 row2) rfl
 have p11 := B0.cell 11 (.int .i64 col2) rfl
 have p12 := B0.cell 12 (.bool fr2) rfl
 have p13 := B0.cell 13 (.bool fc2) rfl
 have p14 := B0.cell 14 (.string ⟨(txt : List UInt8).toArray⟩) rfl
 have p15 := B0.cell 15 (.slice a n cap) rfl
 clear B0
 have q0 := HB1.cell 0 (.int .i64 kind) rfl
 have q1 := HB1.cell 1 (.int .i64 vk) rfl
 have q2 := HB1.cell 2 (.int .i64 vn) rfl
 have q3 := HB1.cell 3 (.string ⟨(vs : List UInt8).toArray⟩) rfl
 have q4 := HB1.cell 4 (.bool vb) rfl
 have q5 := HB1.cell 5 (.int .i64 vc) rfl
 have q6 := HB1.cell 6 (.int .i64 row) rfl
 have q7 := HB1.cell 7 (.int .i64 col) rfl
 have q8 := HB1.cell 8 (.bool fr) rfl
 have q9 := HB1.cell 9 (.bool fc) rfl
 have q10 := HB1.cell 10 (.int .i64 row2) rfl
 have q11 := HB1.cell 11 (.int .i64 col2) rfl
 have q12 := HB1.cell 12 (.bool fr2) rfl
 have q13 := HB1.cell 13 (.bool fc2) rfl
 have q14 := HB1.cell 14 (.string ⟨(txt : List UInt8).toArray⟩) rfl
 have q15 := HB1.cell 15 (.slice a2 n2 cap2) rfl
 clear HB1
 go_enter Tryz.func36, Tryz.ntmps36
 go_wp2_with (go_at_call 69; refine (HE.out _ HB0.out).mono ?_; rintro e w3 ⟨rfl, hb3⟩; have HB3 := hide (HB0.out.trans (hb3.mono HB0.out.size)); clear hb3)
 go_ret
 exact ⟨rfl, HB3.out⟩
theorem samep_all : ∀ (F : Fo), SamePA F
 | .nil => trivial
 | .cons _ k r => ⟨samep_step k (samep_all k), samep_all r⟩
theorem samep_any (k : Fo) : SamePC k := samep_step k (samep_all k)
end Go.Proofs.YtfpmmckpobpokaaGreat
set_option maxRecDepth 100000
set_option maxHeartbeats 4000000
namespace Go.Proofs.YtfpmmckpobpokaaGreat
open Go.RowKit
theorem rtouch_any (D : Nat → Prop) (h : Hd) (k : Fo) (a : Option Addr) (n cap : Nat) (ek ea en : Int) (w : World) (hf : Fine w D h k (.slice a n cap)) (hdp : k.deep + 1 ≤ 160) (b : Bool) (hb : b = true ↔ (remH (moveD ek ea en) h = h ∧ remK (moveD ek ea en) h k = k)) :
  Calls Tryz.prog 15 #[.agg (hdC h (.slice a n cap)).toArray, .agg #[.int .i64 ek, .int .i64 ea, .int .i64 en]] w fun e w' => e = .returned (.tuple #[.bool (decide ((doE (checkN h k) (Pla.editB ek ea en)) = 0) && !b), .int .i64 (doE (checkN h k) (Pla.editB ek ea en))]) ∧ Below w.heap.size w w' := by
 have HM : Hid (∀ W : World, Below w.heap.size w W → Calls Tryz.prog 13 #[.agg (hdC h (.slice a n cap)).toArray, .agg #[.int .i64 ek, .int .i64 ea, .int .i64 en]] W fun e w' => ∃ a' n' cap', e = .returned (.tuple #[.agg (hdC (doneH (moveD ek ea en) (doE (checkN h k) (Pla.editB ek ea en)) h) (.slice a' n' cap')).toArray, .int .i64 (doE (checkN h k) (Pla.editB ek ea en))]) ∧ Kv w' (fun c => c < w'.heap.size) (.slice a' n' cap') (doneK (moveD ek ea en) (doE (checkN h k) (Pla.editB ek ea en)) h k) ∧ Below W.heap.size W w') := fun W hW => rmove_all D h k a n cap ek ea en W (hf.below hW) hdp
 have HX0 := hide ((Box.new w (hdC h (.slice a n cap))).alloc (.cells #[.int .i64 ek, .int .i64 ea, .int .i64 en] 36))
 have HB0 := hide (((Below.refl _ w).alloc (Nat.le_refl _) (.cells (hdC h (.slice a n cap)).toArray 33)).alloc (by simp) (.cells #[.int .i64 ek, .int .i64 ea, .int .i64 en] 36))
 have HE0 : Hid (Pla.At3 ((w.alloc (.cells (hdC h (.slice a n cap)).toArray 33)).alloc (.cells #[.int .i64 ek, .int .i64 ea, .int .i64 en] 36)) (w.heap.size + 1) ek ea en) := by
  have := Pla.At3.new (w.alloc (.cells (hdC h (.slice a n cap)).toArray 33)) ek ea en 36
  exact hide (by simpa using this)
 have HG0 : Hid (0 = 0) := hide rfl
 have HKn : Hid (∀ W : World, Below w.heap.size w W → Kv W (fun c => c < W.heap.size) (.slice a n cap) k) := fun W hW => kv_to hf.kids (fun b hb => ⟨Nat.lt_of_lt_of_le (hf.blocks b hb) hW.size, hW.block b (hf.blocks b hb)⟩)
 by_cases hx : (doE (checkN h k) (Pla.editB ek ea en)) = 0
 ·
  have hr := check_rightN (doE_zero hx).1
  obtain ⟨q1, q2⟩ := near_kids ek ea en h k hr
  rw [hx, show doneH (moveD ek ea en) 0 h = remH (moveD ek ea en) h from rfl, show doneK (moveD ek ea en) 0 h k = remK (moveD ek ea en) h k from rfl] at HM
  rw [hx]
  have HS : Hid (∀ (W : World) (v v2 : Value), Kv W (fun c => c < W.heap.size) v k → Kv W (fun c => c < W.heap.size) v2 (remK (moveD ek ea en) h k) → Calls Tryz.prog 16 #[.agg (hdC h v).toArray, .agg (hdC (remH (moveD ek ea en) h) v2).toArray] W fun e w' => e = .returned (.bool b) ∧ Below W.heap.size W w') := fun W v v2 h1 h2 => sameb_any k _ _ h _ _ v v2 W b q1 q2 hb (fun _ hc => hc) (fun _ hc => hc) h1 h2
  generalize remH (moveD ek ea en) h = H1 at *
  generalize remK (moveD ek ea en) h k = K1 at *
  clear hf hx hr q1 q2 hb hdp
  have ⟨ez0, ez1, ez2, ez3⟩ := HE0.out
  go_enter Tryz.func15, Tryz.ntmps15
  go_wp2_with (first | (with_reducible refine wpl_id ?_; refine wpl_load rfl _ rfl _ rfl (by ((repeat' (first | with_reducible (first | exact Hid.out (by assumption) | apply Box.set | exact Box.new _ _ | apply Box.other | apply Box.alloc | apply Box.drew | apply Box.drewN) | omega)); done)) ?_) | (with_reducible refine wpl_id ?_; refine wpl_loadW rfl _ rfl _ rfl (by ((repeat' (first | with_reducible (first | exact Hid.out (by assumption) | apply Box.set | exact Box.new _ _ | apply Box.other | apply Box.alloc | apply Box.drew | apply Box.drewN) | omega)); done)) ?_) | (have hneed := HG0; go_at_call 13; refine (HM.out _ HB0.out).mono ?_; rintro e w1 ⟨a2, n2, c2, rfl, hk2, hb⟩; have HX1 := hide ((HX0.out.below hb).alloc (.cells (hdC H1 (.slice a2 n2 c2)).toArray 33)); have HE1 := hide ((HE0.out.below hb).alloc (.cells (hdC H1 (.slice a2 n2 c2)).toArray 33)); have HB1 := hide ((HB0.out.trans (hb.mono HB0.out.size)).alloc (HB0.out.trans (hb.mono HB0.out.size)).size (.cells (hdC H1 (.slice a2 n2 c2)).toArray 33)); have HN1 := hide (Nb.new (h := H1) hk2); clear hk2; clear hb hneed HG0 HB0 HX0 HE0 ez0 ez1 ez2 ez3; have ⟨ez0, ez1, ez2, ez3⟩ := HE1.out; have HNb1 := hide HN1.out.box; have HG1 : Hid (0 = 0) := hide rfl) | (have hneed := HG1; go_at_call 16; refine (HS.out _ _ _ (HKn.out _ HB1.out) HN1.out.kv).mono ?_; rintro e w2 ⟨rfl, hb⟩; have HX2 := hide (HX1.out.below hb); have HE2 := hide (HE1.out.below hb); have HN2 := hide (HN1.out.below hb); have HB2 := hide (HB1.out.trans (hb.mono HB1.out.size)); clear hb hneed HG1 HB1 HX1 HE1 ez0 ez1 ez2 ez3 HN1 HNb1; have ⟨ez0, ez1, ez2, ez3⟩ := HE2.out; have HNb2 := hide HN2.out.box; have HG2 : Hid (0 = 0) := hide rfl) | (with_reducible refine wpl_id ?_; refine wpl_newN rfl _ _ rfl rfl rfl rfl ?_))
  exact bodyPost_ret (v := .tuple #[.bool (!b), .int .i64 0]) (by simp [results, Tryz.results15, go_sem]) rfl ⟨by simp, HB2.out⟩
 ·
  have hx' : ((doE (checkN h k) (Pla.editB ek ea en)) != 0) = true := by simpa using hx
  rw [decide_eq_false hx]
  generalize (doE (checkN h k) (Pla.editB ek ea en)) = X at *
  generalize doneH (moveD ek ea en) X h = H1 at *
  generalize doneK (moveD ek ea en) X h k = K1 at *
  clear hf hx hb HKn hdp
  have ⟨ez0, ez1, ez2, ez3⟩ := HE0.out
  go_enter Tryz.func15, Tryz.ntmps15
  go_wp2_with (first | (with_reducible refine wpl_id ?_; refine wpl_load rfl _ rfl _ rfl (by ((repeat' (first | with_reducible (first | exact Hid.out (by assumption) | apply Box.set | exact Box.new _ _ | apply Box.other | apply Box.alloc | apply Box.drew | apply Box.drewN) | omega)); done)) ?_) | (with_reducible refine wpl_id ?_; refine wpl_loadW rfl _ rfl _ rfl (by ((repeat' (first | with_reducible (first | exact Hid.out (by assumption) | apply Box.set | exact Box.new _ _ | apply Box.other | apply Box.alloc | apply Box.drew | apply Box.drewN) | omega)); done)) ?_) | (have hneed := HG0; go_at_call 13; refine (HM.out _ HB0.out).mono ?_; rintro e w1 ⟨a2, n2, c2, rfl, hk2, hb⟩; have HX1 := hide ((HX0.out.below hb).alloc (.cells (hdC H1 (.slice a2 n2 c2)).toArray 33)); have HE1 := hide ((HE0.out.below hb).alloc (.cells (hdC H1 (.slice a2 n2 c2)).toArray 33)); have HB1 := hide ((HB0.out.trans (hb.mono HB0.out.size)).alloc (HB0.out.trans (hb.mono HB0.out.size)).size (.cells (hdC H1 (.slice a2 n2 c2)).toArray 33)); have HN1 := hide (Nb.new (h := H1) hk2); clear hk2; clear hb hneed HG0 HB0 HX0 HE0 ez0 ez1 ez2 ez3; have ⟨ez0, ez1, ez2, ez3⟩ := HE1.out; have HNb1 := hide HN1.out.box; have HG1 : Hid (0 = 0) := hide rfl) | (with_reducible refine wpl_id ?_; refine wpl_newN rfl _ _ rfl rfl rfl rfl ?_))
  exact bodyPost_ret (v := .tuple #[.bool false, .int .i64 X]) (by simp [results, Tryz.results15, go_sem]) rfl ⟨by simp, HB1.out⟩
theorem ptouch_any (D : Nat → Prop) (h : Hd) (k : Fo) (a : Option Addr) (n cap : Nat) (ek ea en : Int) (w : World) (hf : Fine w D h k (.slice a n cap)) (b : Bool) (hb : b = true ↔ (remH (moveD ek ea en) h = h ∧ remK (moveD ek ea en) h k = k)) :
  Calls Tryz.prog 14 #[.agg (hdC h (.slice a n cap)).toArray, .agg #[.int .i64 ek, .int .i64 ea, .int .i64 en]] w fun e w' => e = .returned (.tuple #[.bool (decide ((doE (checkN h k) (Pla.editB ek ea en)) = 0) && !b), .int .i64 (doE (checkN h k) (Pla.editB ek ea en))]) ∧ Below w.heap.size w w' := by
 have HM : Hid (∀ W : World, Below w.heap.size w W → Calls Tryz.prog 12 #[.agg (hdC h (.slice a n cap)).toArray, .agg #[.int .i64 ek, .int .i64 ea, .int .i64 en]] W fun e w' => ∃ a' n' cap', e = .returned (.tuple #[.agg (hdC (doneH (moveD ek ea en) (doE (checkN h k) (Pla.editB ek ea en)) h) (.slice a' n' cap')).toArray, .int .i64 (doE (checkN h k) (Pla.editB ek ea en))]) ∧ Kv w' (fun c => c < w'.heap.size) (.slice a' n' cap') (doneK (moveD ek ea en) (doE (checkN h k) (Pla.editB ek ea en)) h k) ∧ Below W.heap.size W w') := fun W hW => move_all D h k a n cap ek ea en W (hf.below hW)
 have HX0 := hide ((Box.new w (hdC h (.slice a n cap))).alloc (.cells #[.int .i64 ek, .int .i64 ea, .int .i64 en] 36))
 have HB0 := hide (((Below.refl _ w).alloc (Nat.le_refl _) (.cells (hdC h (.slice a n cap)).toArray 33)).alloc (by simp) (.cells #[.int .i64 ek, .int .i64 ea, .int .i64 en] 36))
 have HE0 : Hid (Pla.At3 ((w.alloc (.cells (hdC h (.slice a n cap)).toArray 33)).alloc (.cells #[.int .i64 ek, .int .i64 ea, .int .i64 en] 36)) (w.heap.size + 1) ek ea en) := by
  have := Pla.At3.new (w.alloc (.cells (hdC h (.slice a n cap)).toArray 33)) ek ea en 36
  exact hide (by simpa using this)
 have HG0 : Hid (0 = 0) := hide rfl
 have HKn : Hid (∀ W : World, Below w.heap.size w W → Kv W (fun c => c < W.heap.size) (.slice a n cap) k) := fun W hW => kv_to hf.kids (fun b hb => ⟨Nat.lt_of_lt_of_le (hf.blocks b hb) hW.size, hW.block b (hf.blocks b hb)⟩)
 by_cases hx : (doE (checkN h k) (Pla.editB ek ea en)) = 0
 ·
  have hr := check_rightN (doE_zero hx).1
  obtain ⟨q1, q2⟩ := near_kids ek ea en h k hr
  rw [hx, show doneH (moveD ek ea en) 0 h = remH (moveD ek ea en) h from rfl, show doneK (moveD ek ea en) 0 h k = remK (moveD ek ea en) h k from rfl] at HM
  rw [hx]
  have HS : Hid (∀ (W : World) (v v2 : Value), Kv W (fun c => c < W.heap.size) v k → Kv W (fun c => c < W.heap.size) v2 (remK (moveD ek ea en) h k) → Calls Tryz.prog 36 #[.agg (hdC h v).toArray, .agg (hdC (remH (moveD ek ea en) h) v2).toArray] W fun e w' => e = .returned (.bool b) ∧ Below W.heap.size W w') := fun W v v2 h1 h2 => samep_any k _ _ h _ _ v v2 W b q1 q2 hb (fun _ hc => hc) (fun _ hc => hc) h1 h2
  generalize remH (moveD ek ea en) h = H1 at *
  generalize remK (moveD ek ea en) h k = K1 at *
  clear hf hx hr q1 q2 hb
  have ⟨ez0, ez1, ez2, ez3⟩ := HE0.out
  go_enter Tryz.func14, Tryz.ntmps14
  go_wp2_with (first | (with_reducible refine wpl_id ?_; refine wpl_load rfl _ rfl _ rfl (by ((repeat' (first | with_reducible (first | exact Hid.out (by assumption) | apply Box.set | exact Box.new _ _ | apply Box.other | apply Box.alloc | apply Box.drew | apply Box.drewN) | omega)); done)) ?_) | (with_reducible refine wpl_id ?_; refine wpl_loadW rfl _ rfl _ rfl (by ((repeat' (first | with_reducible (first | exact Hid.out (by assumption) | apply Box.set | exact Box.new _ _ | apply Box.other | apply Box.alloc | apply Box.drew | apply Box.drewN) | omega)); done)) ?_) | (have hneed := HG0; go_at_call 12; refine (HM.out _ HB0.out).mono ?_; rintro e w1 ⟨a2, n2, c2, rfl, hk2, hb⟩; have HX1 := hide ((HX0.out.below hb).alloc (.cells (hdC H1 (.slice a2 n2 c2)).toArray 33)); have HE1 := hide ((HE0.out.below hb).alloc (.cells (hdC H1 (.slice a2 n2 c2)).toArray 33)); have HB1 := hide ((HB0.out.trans (hb.mono HB0.out.size)).alloc (HB0.out.trans (hb.mono HB0.out.size)).size (.cells (hdC H1 (.slice a2 n2 c2)).toArray 33)); have HN1 := hide (Nb.new (h := H1) hk2); clear hk2; clear hb hneed HG0 HB0 HX0 HE0 ez0 ez1 ez2 ez3; have ⟨ez0, ez1, ez2, ez3⟩ := HE1.out; have HNb1 := hide HN1.out.box; have HG1 : Hid (0 = 0) := hide rfl) | (have hneed := HG1; go_at_call 36; refine (HS.out _ _ _ (HKn.out _ HB1.out) HN1.out.kv).mono ?_; rintro e w2 ⟨rfl, hb⟩; have HX2 := hide (HX1.out.below hb); have HE2 := hide (HE1.out.below hb); have HN2 := hide (HN1.out.below hb); have HB2 := hide (HB1.out.trans (hb.mono HB1.out.size)); clear hb hneed HG1 HB1 HX1 HE1 ez0 ez1 ez2 ez3 HN1 HNb1; have ⟨ez0, ez1, ez2, ez3⟩ := HE2.out; have HNb2 := hide HN2.out.box; have HG2 : Hid (0 = 0) := hide rfl) | (with_reducible refine wpl_id ?_; refine wpl_newN rfl _ _ rfl rfl rfl rfl ?_))
  exact bodyPost_ret (v := .tuple #[.bool (!b), .int .i64 0]) (by simp [results, Tryz.results14, go_sem]) rfl ⟨by simp, HB2.out⟩
 ·
  have hx' : ((doE (checkN h k) (Pla.editB ek ea en)) != 0) = true := by simpa using hx
  rw [decide_eq_false hx]
  generalize (doE (checkN h k) (Pla.editB ek ea en)) = X at *
  generalize doneH (moveD ek ea en) X h = H1 at *
  generalize doneK (moveD ek ea en) X h k = K1 at *
  clear hf hx hb HKn
  have ⟨ez0, ez1, ez2, ez3⟩ := HE0.out
  go_enter Tryz.func14, Tryz.ntmps14
  go_wp2_with (first | (with_reducible refine wpl_id ?_; refine wpl_load rfl _ rfl _ rfl (by ((repeat' (first | with_reducible (first | exact Hid.out (by assumption) | apply Box.set | exact Box.new _ _ | apply Box.other | apply Box.alloc | apply Box.drew | apply Box.drewN) | omega)); done)) ?_) | (with_reducible refine wpl_id ?_; refine wpl_loadW rfl _ rfl _ rfl (by ((repeat' (first | with_reducible (first | exact Hid.out (by assumption) | apply Box.set | exact Box.new _ _ | apply Box.other | apply Box.alloc | apply Box.drew | apply Box.drewN) | omega)); done)) ?_) | (have hneed := HG0; go_at_call 12; refine (HM.out _ HB0.out).mono ?_; rintro e w1 ⟨a2, n2, c2, rfl, hk2, hb⟩; have HX1 := hide ((HX0.out.below hb).alloc (.cells (hdC H1 (.slice a2 n2 c2)).toArray 33)); have HE1 := hide ((HE0.out.below hb).alloc (.cells (hdC H1 (.slice a2 n2 c2)).toArray 33)); have HB1 := hide ((HB0.out.trans (hb.mono HB0.out.size)).alloc (HB0.out.trans (hb.mono HB0.out.size)).size (.cells (hdC H1 (.slice a2 n2 c2)).toArray 33)); have HN1 := hide (Nb.new (h := H1) hk2); clear hk2; clear hb hneed HG0 HB0 HX0 HE0 ez0 ez1 ez2 ez3; have ⟨ez0, ez1, ez2, ez3⟩ := HE1.out; have HNb1 := hide HN1.out.box; have HG1 : Hid (0 = 0) := hide rfl) | (with_reducible refine wpl_id ?_; refine wpl_newN rfl _ _ rfl rfl rfl rfl ?_))
  exact bodyPost_ret (v := .tuple #[.bool false, .int .i64 X]) (by simp [results, Tryz.results14, go_sem]) rfl ⟨by simp, HB1.out⟩
end Go.Proofs.YtfpmmckpobpokaaGreat
set_option maxRecDepth 100000
set_option maxHeartbeats 4000000
namespace Go.Proofs.YtfpmmckpobpokaaGreat
open Go.RowKit
theorem depth_bounds {k : Fo} (hd : depthN k ≠ 0) : k.many + 1 ≤ 4096 ∧ k.deep + 1 ≤ 160 := by
 unfold depthN at hd
 by_cases hq : k.many + 1 ≤ 4096 ∧ k.deep + 1 ≤ 160
 ·
  exact hq
 ·
  rw [if_neg hq] at hd
  exact absurd rfl hd
theorem same_all_of {W : World} (h : Hd) (k : Fo) (v v2 : Value) (h1 : Kv W (fun c => c < W.heap.size) v k) (h2 : Kv W (fun c => c < W.heap.size) v2 k) :
  Calls Tryz.prog 16 #[.agg (hdC h v).toArray, .agg (hdC h v2).toArray] W fun e w' => e = .returned (.bool true) ∧ Below W.heap.size W w' := same_any k _ _ h v v2 W (fun _ hc => hc) (fun _ hc => hc) h1 h2
theorem rewriteMoves_walk (D : Nat → Prop) (h : Hd) (k : Fo) (a : Option Addr) (n cap : Nat) (ek ea en : Int) (w : World) (hD : ∀ c, D c → c < w.heap.size) (hk : Kv w D (.slice a n cap) k) (hv : h.vs.length ≤ maxLen) (ht : h.txt.length ≤ maxLen) (ho : okF k) :
  Calls Tryz.prog 3 #[.agg (hdC h (.slice a n cap)).toArray, .agg #[.int .i64 ek, .int .i64 ea, .int .i64 en]] w fun e w' => e = .returned (.bool true) ∧ Below w.heap.size w w' := by
 have HDp : Hid (∀ W : World, Below w.heap.size w W → Calls Tryz.prog 9 #[.agg (hdC h (.slice a n cap)).toArray] W fun e w' => e = .returned (.bool (decide (depthN k = 0))) ∧ Below W.heap.size W w') := fun W hW => deep10_any D h k a n cap W (fun c hc => Nat.lt_of_lt_of_le (hD c hc) hW.size) (kv_to hk (fun b hb => ⟨hb, hW.block b (hD b hb)⟩))
 have HL : Hid (∀ W : World, Calls Tryz.prog 10 #[] W fun e w' => e = .returned (.bool true) ∧ Below W.heap.size W w') := fun W => lives10_any W
 have HX0 := hide ((Box.new w (hdC h (.slice a n cap))).alloc (.cells #[.int .i64 ek, .int .i64 ea, .int .i64 en] 36))
 have HB0 := hide (((Below.refl _ w).alloc (Nat.le_refl _) (.cells (hdC h (.slice a n cap)).toArray 33)).alloc (by simp) (.cells #[.int .i64 ek, .int .i64 ea, .int .i64 en] 36))
 have HE0 : Hid (Pla.At3 ((w.alloc (.cells (hdC h (.slice a n cap)).toArray 33)).alloc (.cells #[.int .i64 ek, .int .i64 ea, .int .i64 en] 36)) (w.heap.size + 1) ek ea en) := by
  have := Pla.At3.new (w.alloc (.cells (hdC h (.slice a n cap)).toArray 33)) ek ea en 36
  exact hide (by simpa using this)
 have HG0 : Hid (0 = 0) := hide rfl
 by_cases hd : depthN k = 0
 ·
  rw [hd] at HDp
  simp only [decide_true] at HDp
  clear hd hv ht ho hk hD
  have ⟨ez0, ez1, ez2, ez3⟩ := HE0.out
  go_enter Tryz.func3, Tryz.ntmps3
  go_wp2_with (first | (with_reducible refine wpl_id ?_; refine wpl_load rfl _ rfl _ rfl (by ((repeat' (first | with_reducible (first | exact Hid.out (by assumption) | apply Box.set | exact Box.new _ _ | apply Box.other | apply Box.alloc | apply Box.drew | apply Box.drewN) | omega)); done)) ?_) | (with_reducible refine wpl_id ?_; refine wpl_loadW rfl _ rfl _ rfl (by ((repeat' (first | with_reducible (first | exact Hid.out (by assumption) | apply Box.set | exact Box.new _ _ | apply Box.other | apply Box.alloc | apply Box.drew | apply Box.drewN) | omega)); done)) ?_) | (have hneed := HG0; go_at_call 9; refine (HDp.out _ HB0.out).mono ?_; rintro e w1 ⟨rfl, hb⟩; have HX1 := hide (HX0.out.below hb); have HE1 := hide (HE0.out.below hb); have HB1 := hide (HB0.out.trans (hb.mono HB0.out.size)); clear hb hneed HG0 HB0 HX0 HE0 ez0 ez1 ez2 ez3; have ⟨ez0, ez1, ez2, ez3⟩ := HE1.out; have HG1 : Hid (0 = 0) := hide rfl) | (have hneed := HG1; go_at_call 10; refine (HL.out _).mono ?_; rintro e w2 ⟨rfl, hb⟩; have HX2 := hide (HX1.out.below hb); have HE2 := hide (HE1.out.below hb); have HB2 := hide (HB1.out.trans (hb.mono HB1.out.size)); clear hb hneed HG1 HB1 HX1 HE1 ez0 ez1 ez2 ez3; have ⟨ez0, ez1, ez2, ez3⟩ := HE2.out; have HG2 : Hid (0 = 0) := hide rfl))
  go_ret
  exact ⟨rfl, HB2.out⟩
 have hde : decide (depthN k = 0) = false := by simpa using hd
 rw [hde] at HDp
 obtain ⟨hm, hdp⟩ := depth_bounds hd
 have hF : Fine w D h k (.slice a n cap) := ⟨hD, hk, hm, hv, ht, ho⟩
 obtain ⟨b, hb⟩ : ∃ b : Bool, b = true ↔ (remH (moveD ek ea en) h = h ∧ remK (moveD ek ea en) h k = k) := by
  by_cases q : remH (moveD ek ea en) h = h ∧ remK (moveD ek ea en) h k = k
  ·
   exact ⟨true, by simp [q]⟩
  ·
   exact ⟨false, by simp [q]⟩
 have HKn : Hid (∀ W : World, Below w.heap.size w W → Kv W (fun c => c < W.heap.size) (.slice a n cap) k) := fun W hW => kv_to hk (fun b hb => ⟨Nat.lt_of_lt_of_le (hD b hb) hW.size, hW.block b (hD b hb)⟩)
 have HCp : Hid (∀ W : World, Below w.heap.size w W → Calls Tryz.prog 11 #[.agg (hdC h (.slice a n cap)).toArray] W fun e w' => ∃ a' n' cap', e = .returned (.agg (hdC h (.slice a' n' cap')).toArray) ∧ Kv w' (fun c => c < w'.heap.size) (.slice a' n' cap') k ∧ Below W.heap.size W w') := fun W hW => (copy_any h k D (.slice a n cap) W hm (fun c hc => Nat.lt_of_lt_of_le (hD c hc) hW.size) (kv_to hk (fun b hb => ⟨hb, hW.block b (hD b hb)⟩))).mono (by rintro e w' ⟨a', n', cap', rfl, hk', hb⟩; exact ⟨a', n', cap', rfl, new_lt hk', hb⟩)
 have HM1 : Hid (∀ (W : World) (a2 : Option Addr) (n2 cap2 : Nat), Kv W (fun c => c < W.heap.size) (.slice a2 n2 cap2) k → Calls Tryz.prog 12 #[.agg (hdC h (.slice a2 n2 cap2)).toArray, .agg #[.int .i64 ek, .int .i64 ea, .int .i64 en]] W fun e w' => ∃ a' n' cap', e = .returned (.tuple #[.agg (hdC (doneH (moveD ek ea en) (doE (checkN h k) (Pla.editB ek ea en)) h) (.slice a' n' cap')).toArray, .int .i64 (doE (checkN h k) (Pla.editB ek ea en))]) ∧ Kv w' (fun c => c < w'.heap.size) (.slice a' n' cap') (doneK (moveD ek ea en) (doE (checkN h k) (Pla.editB ek ea en)) h k) ∧ Below W.heap.size W w') := fun W a2 n2 cap2 hk2 => move_all (fun c => c < W.heap.size) h k a2 n2 cap2 ek ea en W ⟨fun _ hc => hc, hk2, hm, hv, ht, ho⟩
 have HM2 : Hid (∀ W : World, Below w.heap.size w W → Calls Tryz.prog 13 #[.agg (hdC h (.slice a n cap)).toArray, .agg #[.int .i64 ek, .int .i64 ea, .int .i64 en]] W fun e w' => ∃ a' n' cap', e = .returned (.tuple #[.agg (hdC (doneH (moveD ek ea en) (doE (checkN h k) (Pla.editB ek ea en)) h) (.slice a' n' cap')).toArray, .int .i64 (doE (checkN h k) (Pla.editB ek ea en))]) ∧ Kv w' (fun c => c < w'.heap.size) (.slice a' n' cap') (doneK (moveD ek ea en) (doE (checkN h k) (Pla.editB ek ea en)) h k) ∧ Below W.heap.size W w') := fun W hW => rmove_all D h k a n cap ek ea en W (hF.below hW) hdp
 have HT1 : Hid (∀ (W : World) (a2 : Option Addr) (n2 cap2 : Nat), Kv W (fun c => c < W.heap.size) (.slice a2 n2 cap2) k → Calls Tryz.prog 14 #[.agg (hdC h (.slice a2 n2 cap2)).toArray, .agg #[.int .i64 ek, .int .i64 ea, .int .i64 en]] W fun e w' => e = .returned (.tuple #[.bool (decide ((doE (checkN h k) (Pla.editB ek ea en)) = 0) && !b), .int .i64 (doE (checkN h k) (Pla.editB ek ea en))]) ∧ Below W.heap.size W w') := fun W a2 n2 cap2 hk2 => ptouch_any (fun c => c < W.heap.size) h k a2 n2 cap2 ek ea en W ⟨fun _ hc => hc, hk2, hm, hv, ht, ho⟩ b hb
 have HT2 : Hid (∀ W : World, Below w.heap.size w W → Calls Tryz.prog 15 #[.agg (hdC h (.slice a n cap)).toArray, .agg #[.int .i64 ek, .int .i64 ea, .int .i64 en]] W fun e w' => e = .returned (.tuple #[.bool (decide ((doE (checkN h k) (Pla.editB ek ea en)) = 0) && !b), .int .i64 (doE (checkN h k) (Pla.editB ek ea en))]) ∧ Below W.heap.size W w') := fun W hW => rtouch_any D h k a n cap ek ea en W (hF.below hW) hdp b hb
 have HSm : Hid (∀ (W : World) (v v2 : Value), Kv W (fun c => c < W.heap.size) v k → Kv W (fun c => c < W.heap.size) v2 k → Calls Tryz.prog 16 #[.agg (hdC h v).toArray, .agg (hdC h v2).toArray] W fun e w' => e = .returned (.bool true) ∧ Below W.heap.size W w') := fun W v v2 h1 h2 => same_all_of h k v v2 h1 h2
 generalize (decide ((doE (checkN h k) (Pla.editB ek ea en)) = 0) && !b) = T at *
 generalize (doE (checkN h k) (Pla.editB ek ea en)) = X at *
 generalize doneH (moveD ek ea en) X h = H1 at *
 generalize doneK (moveD ek ea en) X h k = K1 at *
 have HSn : Hid (∀ (W : World) (v v2 : Value), Kv W (fun c => c < W.heap.size) v K1 → Kv W (fun c => c < W.heap.size) v2 K1 → Calls Tryz.prog 16 #[.agg (hdC H1 v).toArray, .agg (hdC H1 v2).toArray] W fun e w' => e = .returned (.bool true) ∧ Below W.heap.size W w') := fun W v v2 h1 h2 => same_all_of H1 K1 v v2 h1 h2
 have htt : (T == T) = true := by simp
 clear hd hv ht ho hk hD hde hm hdp hF hb
 have ⟨ez0, ez1, ez2, ez3⟩ := HE0.out
 go_enter Tryz.func3, Tryz.ntmps3
 go_wp2_with (first | (with_reducible refine wpl_id ?_; refine wpl_load rfl _ rfl _ rfl (by ((repeat' (first | with_reducible (first | exact Hid.out (by assumption) | apply Box.set | exact Box.new _ _ | apply Box.other | apply Box.alloc | apply Box.drew | apply Box.drewN) | omega)); done)) ?_) | (with_reducible refine wpl_id ?_; refine wpl_loadW rfl _ rfl _ rfl (by ((repeat' (first | with_reducible (first | exact Hid.out (by assumption) | apply Box.set | exact Box.new _ _ | apply Box.other | apply Box.alloc | apply Box.drew | apply Box.drewN) | omega)); done)) ?_) | (have hneed := HG0; go_at_call 9; refine (HDp.out _ HB0.out).mono ?_; rintro e w1 ⟨rfl, hb⟩; have HX1 := hide (HX0.out.below hb); have HE1 := hide (HE0.out.below hb); have HB1 := hide (HB0.out.trans (hb.mono HB0.out.size)); clear hb hneed HG0 HB0 HX0 HE0 ez0 ez1 ez2 ez3; have ⟨ez0, ez1, ez2, ez3⟩ := HE1.out; have HG1 : Hid (0 = 0) := hide rfl) | (have hneed := HG1; go_at_call 11; refine (HCp.out _ HB1.out).mono ?_; rintro e w2 ⟨a2, n2, c2, rfl, hk2, hb⟩; have HX2 := hide ((HX1.out.below hb).alloc (.cells (hdC h (.slice a2 n2 c2)).toArray 33)); have HE2 := hide ((HE1.out.below hb).alloc (.cells (hdC h (.slice a2 n2 c2)).toArray 33)); have HB2 := hide ((HB1.out.trans (hb.mono HB1.out.size)).alloc (HB1.out.trans (hb.mono HB1.out.size)).size (.cells (hdC h (.slice a2 n2 c2)).toArray 33)); have HI2 := hide (Nb.new (h := h) hk2); clear hk2; clear hb hneed HG1 HB1 HX1 HE1 ez0 ez1 ez2 ez3; have ⟨ez0, ez1, ez2, ez3⟩ := HE2.out; have HIb2 := hide HI2.out.box; have HG2 : Hid (0 = 0) := hide rfl) | (have hneed := HG2; go_at_call 12; refine (HM1.out _ _ _ _ HI2.out.kv).mono ?_; rintro e w3 ⟨a3, n3, c3, rfl, hk3, hb⟩; have HX3 := hide ((HX2.out.below hb).alloc (.cells (hdC H1 (.slice a3 n3 c3)).toArray 33)); have HE3 := hide ((HE2.out.below hb).alloc (.cells (hdC H1 (.slice a3 n3 c3)).toArray 33)); have HI3 := hide ((HI2.out.below hb).alloc (.cells (hdC H1 (.slice a3 n3 c3)).toArray 33)); have HB3 := hide ((HB2.out.trans (hb.mono HB2.out.size)).alloc (HB2.out.trans (hb.mono HB2.out.size)).size (.cells (hdC H1 (.slice a3 n3 c3)).toArray 33)); have HJ3 := hide (Nb.new (h := H1) hk3); clear hk3; clear hb hneed HG2 HB2 HX2 HE2 ez0 ez1 ez2 ez3 HI2 HIb2; have ⟨ez0, ez1, ez2, ez3⟩ := HE3.out; have HIb3 := hide HI3.out.box; have HJb3 := hide HJ3.out.box; have HG3 : Hid (0 = 0) := hide rfl) | (have hneed := HG3; go_at_call 13; refine (HM2.out _ HB3.out).mono ?_; rintro e w4 ⟨a4, n4, c4, rfl, hk4, hb⟩; have HX4 := hide ((HX3.out.below hb).alloc (.cells (hdC H1 (.slice a4 n4 c4)).toArray 33)); have HE4 := hide ((HE3.out.below hb).alloc (.cells (hdC H1 (.slice a4 n4 c4)).toArray 33)); have HI4 := hide ((HI3.out.below hb).alloc (.cells (hdC H1 (.slice a4 n4 c4)).toArray 33)); have HJ4 := hide ((HJ3.out.below hb).alloc (.cells (hdC H1 (.slice a4 n4 c4)).toArray 33)); have HB4 := hide ((HB3.out.trans (hb.mono HB3.out.size)).alloc (HB3.out.trans (hb.mono HB3.out.size)).size (.cells (hdC H1 (.slice a4 n4 c4)).toArray 33)); have HK4 := hide (Nb.new (h := H1) hk4); clear hk4; clear hb hneed HG3 HB3 HX3 HE3 ez0 ez1 ez2 ez3 HI3 HIb3 HJ3 HJb3; have ⟨ez0, ez1, ez2, ez3⟩ := HE4.out; have HIb4 := hide HI4.out.box; have HJb4 := hide HJ4.out.box; have HKb4 := hide HK4.out.box; have HG4 : Hid (0 = 0) := hide rfl) | (have hneed := HG4; go_at_call 14; refine (HT1.out _ _ _ _ HI4.out.kv).mono ?_; rintro e w5 ⟨rfl, hb⟩; have HX5 := hide (HX4.out.below hb); have HE5 := hide (HE4.out.below hb); have HI5 := hide (HI4.out.below hb); have HJ5 := hide (HJ4.out.below hb); have HK5 := hide (HK4.out.below hb); have HB5 := hide (HB4.out.trans (hb.mono HB4.out.size)); clear hb hneed HG4 HB4 HX4 HE4 ez0 ez1 ez2 ez3 HI4 HIb4 HJ4 HJb4 HK4 HKb4; have ⟨ez0, ez1, ez2, ez3⟩ := HE5.out; have HIb5 := hide HI5.out.box; have HJb5 := hide HJ5.out.box; have HKb5 := hide HK5.out.box; have HG5 : Hid (0 = 0) := hide rfl) | (have hneed := HG5; go_at_call 15; refine (HT2.out _ HB5.out).mono ?_; rintro e w6 ⟨rfl, hb⟩; have HX6 := hide (HX5.out.below hb); have HE6 := hide (HE5.out.below hb); have HI6 := hide (HI5.out.below hb); have HJ6 := hide (HJ5.out.below hb); have HK6 := hide (HK5.out.below hb); have HB6 := hide (HB5.out.trans (hb.mono HB5.out.size)); clear hb hneed HG5 HB5 HX5 HE5 ez0 ez1 ez2 ez3 HI5 HIb5 HJ5 HJb5 HK5 HKb5; have ⟨ez0, ez1, ez2, ez3⟩ := HE6.out; have HIb6 := hide HI6.out.box; have HJb6 := hide HJ6.out.box; have HKb6 := hide HK6.out.box; have HG6 : Hid (0 = 0) := hide rfl) | (have hneed := HG6; go_at_call 16; refine (HSn.out _ _ _ HJ6.out.kv HK6.out.kv).mono ?_; rintro e w7 ⟨rfl, hb⟩; have HX7 := hide (HX6.out.below hb); have HE7 := hide (HE6.out.below hb); have HI7 := hide (HI6.out.below hb); have HJ7 := hide (HJ6.out.below hb); have HK7 := hide (HK6.out.below hb); have HB7 := hide (HB6.out.trans (hb.mono HB6.out.size)); clear hb hneed HG6 HB6 HX6 HE6 ez0 ez1 ez2 ez3 HI6 HIb6 HJ6 HJb6 HK6 HKb6; have ⟨ez0, ez1, ez2, ez3⟩ := HE7.out; have HIb7 := hide HI7.out.box; have HJb7 := hide HJ7.out.box; have HKb7 := hide HK7.out.box; have HG7 : Hid (0 = 0) := hide rfl) | (have hneed := HG7; go_at_call 16; refine (HSm.out _ _ _ HI7.out.kv (HKn.out _ HB7.out)).mono ?_; rintro e w8 ⟨rfl, hb⟩; have HX8 := hide (HX7.out.below hb); have HE8 := hide (HE7.out.below hb); have HI8 := hide (HI7.out.below hb); have HJ8 := hide (HJ7.out.below hb); have HK8 := hide (HK7.out.below hb); have HB8 := hide (HB7.out.trans (hb.mono HB7.out.size)); clear hb hneed HG7 HB7 HX7 HE7 ez0 ez1 ez2 ez3 HI7 HIb7 HJ7 HJb7 HK7 HKb7; have ⟨ez0, ez1, ez2, ez3⟩ := HE8.out; have HIb8 := hide HI8.out.box; have HJb8 := hide HJ8.out.box; have HKb8 := hide HK8.out.box; have HG8 : Hid (0 = 0) := hide rfl) | (have hneed := HG8; go_at_call 10; refine (HL.out _).mono ?_; rintro e w9 ⟨rfl, hb⟩; have HX9 := hide (HX8.out.below hb); have HE9 := hide (HE8.out.below hb); have HI9 := hide (HI8.out.below hb); have HJ9 := hide (HJ8.out.below hb); have HK9 := hide (HK8.out.below hb); have HB9 := hide (HB8.out.trans (hb.mono HB8.out.size)); clear hb hneed HG8 HB8 HX8 HE8 ez0 ez1 ez2 ez3 HI8 HIb8 HJ8 HJb8 HK8 HKb8; have ⟨ez0, ez1, ez2, ez3⟩ := HE9.out; have HIb9 := hide HI9.out.box; have HJb9 := hide HJ9.out.box; have HKb9 := hide HK9.out.box; have HG9 : Hid (0 = 0) := hide rfl) | (with_reducible refine wpl_id ?_; refine wpl_newN rfl _ _ rfl rfl rfl rfl ?_))
 go_ret
 exact ⟨rfl, HB9.out⟩
end Go.Proofs.YtfpmmckpobpokaaGreat
set_option maxRecDepth 100000
set_option maxHeartbeats 4000000
namespace Go.Proofs.YtfpmmckpobpokaaGreat.RewriteMovesOwn
open Go.ChangeShapes Go.WideShapes Go.ChangeAt Go.RowKit
theorem own : ownKnob Tryz.prog.godebug = none := by kernel_rfl
theorem laidOut : laidOutB Tryz.prog = true := by kernel_rfl
theorem lifted (os : Os) (started : os.Started) (H : Type) (enc : TypeId × Value → H) :
  ReturnsInHanded {} Tryz.checked os 3 .any (Rows.rewriteMovesSpec.pre6 enc Tryz.prog Tryz.f3 Rows.rewriteMovesRow.domain false) (Rows.rewriteMovesSpec.post enc Tryz.prog Tryz.f3 false true false false) := by
 refine returnsInHanded_of_change (C := Tryz.checked) own started (by kernel_rfl) Tryz.func3
  (ChangeSpec.witness6 (enc := enc) (C := Tryz.checked) false ⟨#[], #[.agg (hdC zh (.slice none 0 0)).toArray, .agg #[.int .i64 0, .int .i64 0, .int .i64 0]], []⟩ 8 (by kernel_rfl) (by kernel_rfl) (by kernel_rfl) (by kernel_rfl)) ?_
 intro W base args ds gs before hval0 hW hcnd _
 have hval : ∀ (j : Nat) t v, Tryz.f3.params[j]? = some t → args[j]? = some v → Value.okWide Tryz.prog W .any base t v := hval0
 have hW' := hW
 obtain ⟨p, q, hA0, hV, rfl, hfz, hnd⟩ := hW
 have hA : DataW.TrodAll enc Tryz.prog W 0 (fun _ => true) true Tryz.f3.params.toList args.toList ds p := hA0
 rw [Tryz.params3] at hA hval
 obtain ⟨v0, vs0, d0, ds0, p0, q0, hargs, rfl, rfl, h0, r0⟩ := trodAll_cons hA
 obtain ⟨v1, vs1, d1, ds1, p1, q1, rfl, rfl, rfl, h1, r1⟩ := trodAll_cons r0
 obtain ⟨rfl, rfl, rfl⟩ := trodAll_nil r1
 obtain rfl : args = #[v0, v1] := by cases args; simp_all
 obtain ⟨rfl, rfl⟩ := trodVars_none hV
 have k0 := h0
 have lt0 : ∀ x ∈ p0, x.block < W.heap.size := by obtain ⟨m, hm⟩ := k0; exact DataW.trod_lt m _ _ _ hm
 obtain ⟨hd0, fo0, sa0, sn0, sc0, rfl, kv0, hv0, ht0, ho0⟩ := open_node (hval 0 33 v0 rfl rfl) h0
 have k1 := h1
 have lt1 : ∀ x ∈ p1, x.block < W.heap.size := by obtain ⟨m, hm⟩ := k1; exact DataW.trod_lt m _ _ _ hm
 obtain ⟨a1, b1, c1, rfl⟩ := open_edit (hval 1 36 v1 rfl rfl) h1
 clear hA0 hval0
 refine (rewriteMoves_walk (fun c => c < W.heap.size) hd0 fo0 sa0 sn0 sc0 a1 b1 c1 W (fun _ h => h) kv0 hv0 ht0 ho0).mono fun e W' ⟨he, hb⟩ => ?_
 subst he
 exact ⟨_, rfl, _, _, _, [], _, [], hW', trodAll_mk1 (shut_bool Tryz.underlying4 _), (trodAll_cons_mk (Below.trod laidOut (by kernel_rfl) (of_decide_eq_true (by kernel_rfl)) k0 hb lt0) (trodAll_cons_mk (Below.trod laidOut (by kernel_rfl) (of_decide_eq_true (by kernel_rfl)) k1 hb lt1) trodAll_mk0)), rfl, hb.frame _, fun h => by cases h⟩
theorem over : Rows.rewriteMovesRow.holds Tryz.pinned (OpenSpec.ofChange Rows.rewriteMovesSpec) :=
 OpenClaim.holds_of_wide 3 Tryz.f3 rfl rfl rfl rfl rfl rfl rfl ⟨rfl, rfl, rfl, rfl, rfl⟩ rfl rfl rfl rfl rfl (by kernel_rfl) Tryz.func3 (by kernel_rfl)
  (of_decide_eq_true (by kernel_rfl)) (by unfold Func.isWrapper; first | (rw [if_pos (by decide +kernel)]; kernel_rfl) | (rw [if_neg (by decide +kernel)]; exact ⟨rfl, rfl⟩))
  (fun os started H enc _ => lifted os started H enc)
end Go.Proofs.YtfpmmckpobpokaaGreat.RewriteMovesOwn
namespace Go.Proofs.YtfpmmckpobpokaaGreat
open Go
theorem rewriteMoves_said : Rows.RewriteMovesSaid := RewriteMovesOwn.over
#print axioms rewriteMoves_said
end Go.Proofs.YtfpmmckpobpokaaGreat
