/-
  The contract of the answer's slide at any right node (made by slide3gen.py).
-/
import Derived.Test.YtfpmmckpobpokaaGreatRRwS2
import Derived.Test.YtfpmmckpobpokaaGreatRRwA2
set_option maxRecDepth 100000
set_option maxHeartbeats 4000000
namespace Go.Proofs.YtfpmmckpobpokaaGreat
open Go.RowKit
theorem rem_other (D : Do) (h : Hd) (n : Nat) (ha : aloneB h n = true) (k2 : h.kind ≠ 2) (k3 : h.kind ≠ 3) : remH D h = h ∧ leafB h = false := by
  obtain ⟨kind, vk, vn, vs, vb, vc, row, col, fr, fc, row2, col2, fr2, fc2, txt⟩ := h
  simp only at k2 k3
  refine ⟨?_, by simp [leafB, k2, k3]⟩
  unfold aloneB noVal noCell noTo at ha
  simp only [k2, k3, if_false] at ha
  simp only [remH, k2, k3, if_false, bareH]
  by_cases k1 : kind = 1
  · subst k1
    simp at ha
    simp [ha]
  rw [if_neg k1] at ha
  by_cases k4 : kind = 4
  · subst k4
    simp at ha
    simp [ha]
  rw [if_neg k4] at ha
  by_cases k5 : kind = 5
  · subst k5
    simp at ha
    simp [ha]
  rw [if_neg k5] at ha
  by_cases k6 : kind = 6
  · subst k6
    simp at ha
    simp [ha]
  rw [if_neg k6] at ha
  cases ha
def SlideC (dr dc : Int) (h : Hd) (k : Fo) : Prop :=
 ∀ (D : Nat → Prop) (v : Value) (w : World), aloneB h k.len = true → allB k = true → k.many + 1 ≤ 4096 → (∀ c, D c → c < w.heap.size) → Kv w D v k →
  Calls Tryz.prog 39 #[.agg (hdC h v).toArray, .int .i64 dr, .int .i64 dc] w fun e w' => ∃ a n cap, e = .returned (.agg (hdC (remH (shiftD dr dc) h) (.slice a n cap)).toArray) ∧ Kv w' (New w w') (.slice a n cap) (remK (shiftD dr dc) h k) ∧ Below w.heap.size w w'
def SlideA (dr dc : Int) : Fo → Prop
 | .nil => True
 | .cons h k r => SlideC dr dc h k ∧ SlideA dr dc r
theorem slide_more (dr dc : Int) (h : Hd) (k : Fo) (hA : SlideA dr dc k) (h2 : (h.kind == 2) = false) (h3 : (h.kind == 3) = false) (R C R2 C2 : Int) (hR : slideI h.fr h.row dr = R) (hC : slideI h.fc h.col dc = C) (hR2 : slideI h.fr2 h.row2 dr = R2) (hC2 : slideI h.fc2 h.col2 dc = C2) (D : Nat → Prop) (a : Option Addr) (n cap : Nat) (w : World) (hr : allB k = true) (hm : k.many + 1 ≤ 4096) (hD : ∀ c, D c → c < w.heap.size) (hkv : Kv w D (.slice a n cap) k) :
    Calls Tryz.prog 39 #[.agg (hdC h (.slice a n cap)).toArray, .int .i64 dr, .int .i64 dc] w fun e w' => ∃ a n cap, e = .returned (.agg (hdC h (.slice a n cap)).toArray) ∧ Kv w' (New w w') (.slice a n cap) (remF (shiftD dr dc) k) ∧ Below w.heap.size w w' := by
  obtain ⟨i0, hinf, hz0, hz1, hz2⟩ := info_parts infoNode3
  obtain ⟨_, _, _, e0, hn, hkv⟩ := hkv
  cases e0
  subst hn
  have H1 : Hid (∀ W : World, Calls Tryz.prog 72 #[.agg #[.int .i64 h.row, .int .i64 h.col, .bool h.fr, .bool h.fc], .int .i64 dr, .int .i64 dc] W fun e w' => e = .returned (.tuple #[.agg #[.int .i64 R, .int .i64 C, .bool h.fr, .bool h.fc], .bool (Pla.placeB R C)]) ∧ Below W.heap.size W w') := fun W => by
    have := slid_any h.row h.col dr dc h.fr h.fc W
    rw [hR, hC] at this
    exact this
  have H2 : Hid (∀ W : World, Calls Tryz.prog 72 #[.agg #[.int .i64 h.row2, .int .i64 h.col2, .bool h.fr2, .bool h.fc2], .int .i64 dr, .int .i64 dc] W fun e w' => e = .returned (.tuple #[.agg #[.int .i64 R2, .int .i64 C2, .bool h.fr2, .bool h.fc2], .bool (Pla.placeB R2 C2)]) ∧ Below W.heap.size W w') := fun W => by
    have := slid_any h.row2 h.col2 dr dc h.fr2 h.fc2 W
    rw [hR2, hC2] at this
    exact this
  have HL : Hid (∀ W : World, Calls Tryz.prog 73 #[] W fun e w' => e = .returned (.agg (hdC lostH (.slice none 0 0)).toArray) ∧ Below W.heap.size W w') := fun W => rlost_ans W
  have hX := (Box.new w (hdC h (.slice a k.len cap))).alloc (.cells #[.int .i64 0, .int .i64 0, .int .i64 0, .string ⟨#[]⟩, .bool false, .int .i64 0, .int .i64 0, .int .i64 0, .bool false, .bool false, .int .i64 0, .int .i64 0, .bool false, .bool false, .string ⟨#[]⟩, .slice none 0 0] 33)
  have p6 := hX.cell 6 (.int .i64 h.row) rfl
  have p7 := hX.cell 7 (.int .i64 h.col) rfl
  have p8 := hX.cell 8 (.bool h.fr) rfl
  have p9 := hX.cell 9 (.bool h.fc) rfl
  have HX := hide hX
  have HG0 : Hid (0 = 0) := hide rfl
  have HKR := hide (rkids_any h (.slice a k.len cap))
  have HKv := hide hkv
  have HA := hide hA
  have hlm := len_many k
  have HRt := hide hr
  clear hX hR hC hR2 hC2 HL hkv hA hr
  generalize hkk : h.kind = kk at h2 h3
  have HK := hide hkk
  clear hkk
  go_enter Tryz.func39, Tryz.ntmps39
  go_wp2_with (first | (have hneed := HG0; go_at_call 72; refine (H1.out _).mono ?_; rintro e w1 ⟨rfl, hb1⟩; have HB1 : Hid (Below (w.heap.size + 2) ((w.alloc (.cells (hdC h (.slice a k.len cap)).toArray 33)).alloc (.cells #[.int .i64 0, .int .i64 0, .int .i64 0, .string ⟨#[]⟩, .bool false, .int .i64 0, .int .i64 0, .int .i64 0, .bool false, .bool false, .int .i64 0, .int .i64 0, .bool false, .bool false, .string ⟨#[]⟩, .slice none 0 0] 33)) w1) := hide (by simpa using hb1); have hX1 := (HX.out.below hb1).alloc (.cells #[.int .i64 R, .int .i64 C, .bool h.fr, .bool h.fc] 30); have q6 := hX1.cell 10 (.int .i64 h.row2) rfl; have q7 := hX1.cell 11 (.int .i64 h.col2) rfl; have q8 := hX1.cell 12 (.bool h.fr2) rfl; have q9 := hX1.cell 13 (.bool h.fc2) rfl; clear hb1 hX1 HX hneed HG0 p6 p7 p8 p9; have HG1 : Hid (0 = 0) := hide rfl) | (have hneed := HG1; go_at_call 72; refine (H2.out _).mono ?_; rintro e w2 ⟨rfl, hb2⟩; have HS := hide (slide_first (R := R) (C := C) (R2 := R2) (C2 := C2) HB1.out hb2); have k0 := HS.out.node.cell 0 (.int .i64 h.kind) rfl; rw [HK.out] at k0; have k15 := HS.out.node.cell 15 (.slice a k.len cap) rfl; have HS12 : Hid (w1.heap.size + 1 ≤ w2.heap.size) := hide (by have := hb2.size; simpa using this); clear hb2 hneed HG1 q6 q7 q8 q9 HB1; have HG2 : Hid (0 = 0) := hide rfl))
  have hge : w.heap.size + 2 ≤ (w2.alloc (.cells #[.int .i64 R2, .int .i64 C2, .bool h.fr2, .bool h.fc2] 30)).heap.size := by have h1 := HS.out.lt; have h2 := HS12.out; simp; omega
  generalize w2.alloc (.cells #[.int .i64 R2, .int .i64 C2, .bool h.fr2, .bool h.fc2] 30) = B at *
  clear h2 h3 HK k0
  go_loopw [11, 12] (fun uv ui wr => ∃ (i : Nat) (u : Value) (L : List (Hd × Value)) (G F : Fo), uv = u ∧ ui = .int .i64 (i : Int) ∧ L.length = i ∧ i + F.len = k.len ∧ RowAt B u L G wr ∧ joinF G (remF (shiftD dr dc) F) = remF (shiftD dr dc) k ∧ (F = .nil ∨ ∃ b' o', a = some ⟨b', o', none⟩ ∧ k.len ≤ cap ∧ cap ≤ maxLen ∧ Row w D F b' (o' + i * 16)) ∧ SlideA dr dc F ∧ allB F = true ∧ F.many ≤ k.many ∧ wr.cell? ⟨w.heap.size, 15, none⟩ = some (.slice a k.len cap)) (fun _ ui _ => k.len - (intOf ui).toNat)
  case atStart =>
    refine ⟨0, .slice none 0 0, [], .nil, k, rfl, rfl, rfl, by omega, RowAt.first B, rfl, ?_, HA.out, HRt.out, Nat.le_refl _, k15⟩
    rcases HKv.out with e | ⟨b', o', e1, e2, e3, e4⟩
    · exact .inl e
    · exact .inr ⟨b', o', e1, e2, e3, by simpa using e4⟩
  case round =>
    clear k15
    obtain ⟨i, u, L, G, F, rfl, rfl, hLi, hl, hRw, hj, hF, hAF, haF, hmF, c15⟩ := hrel
    have HR := hide hRw
    have hsz := hRw.below.size
    have hown := hRw.own
    have HJ := hide hj
    clear hRw hj
    match F, hl, hF, hAF, haF, hmF, HJ with
    | .nil, hl, _, _, _, _, HJ =>
      have hli : ¬ (i : Int) < (k.len : Int) := by simp [Fo.len] at hl; omega
      obtain ⟨a9, n9, c9, rfl, hkv9⟩ := HR.out.kv
      have HKV := hide hkv9
      have HX1 := hide (HS.out.node.below HR.out.below)
      have HZ1 := hide (HS.out.res.below HR.out.below)
      have HBz := hide (HS.out.below.trans (HR.out.below.mono HS.out.below.size))
      clear hkv9 hown hlm hm hmF
      go_wp2_with (first | (with_reducible refine wpl_id ?_; refine wpl_load rfl _ rfl _ rfl (by ((repeat' (first | with_reducible (first | exact Hid.out (by assumption) | apply Box.set | exact Box.new _ _ | apply Box.other | apply Box.alloc | apply Box.drew | apply Box.drewN) | omega)); done)) ?_) | (go_at_call 68; refine (HKR.out _ _ _ _ _ _ rfl _).mono ?_; rintro e w5 ⟨rfl, hb5⟩; have HZ5 := hide (HZ1.out.below hb5); have HB5 := hide (HBz.out.trans (hb5.mono HBz.out.size)); have HK5 := hide hb5; clear hb5 HZ1 HX1) | (with_reducible refine wpl_id ?_; refine wpl_store rfl _ _ rfl _ rfl rfl (by ((repeat' (first | with_reducible (first | exact Hid.out (by assumption) | apply Box.set | exact Box.new _ _ | apply Box.other | apply Box.alloc | apply Box.drew | apply Box.drewN) | omega)); done)) rfl ?_))
      refine bodyPost_ret (Box.ret rfl (HZ5.out.set _) rfl) rfl ⟨a9, n9, c9, rfl, ?_, below_set HB5.out (by omega) _⟩
      have hG : G = remF (shiftD dr dc) k := by have := HJ.out; rwa [show remF (shiftD dr dc) .nil = .nil from rfl, join_nil] at this
      rw [← hG]
      refine kv_to HKV.out (fun c hc => ?_)
      have q1 : B.heap.size ≤ c := hc.1
      have q2 : c < wr.heap.size := hc.2
      have q3 := HK5.out.size
      refine ⟨⟨by omega, by rw [setRow_size]; omega⟩, ?_⟩
      rw [setRow_heap _ _ _ _ (by omega), HK5.out.block c q2]
    | .cons h1 k1 r1, hl, hF, hAF, haF, hmF, HJ =>
      have hli : (i : Int) < (k.len : Int) := by simp [Fo.len] at hl; omega
      have hl2 : i + 1 + r1.len = k.len := by simp [Fo.len] at hl; omega
      have hm1 : k1.many + 1 ≤ 4096 ∧ r1.many ≤ k.many := by simp only [Fo.many] at hmF; omega
      simp only [allB, Bool.and_eq_true] at haF
      obtain ⟨⟨al1, al2⟩, al3⟩ := haF
      obtain ⟨b1, o1, rfl, hcap1, hcap2, hrw⟩ : ∃ b' o', a = some ⟨b', o', none⟩ ∧ k.len ≤ cap ∧ cap ≤ maxLen ∧ Row w D (.cons h1 k1 r1) b' (o' + i * 16) := by
        rcases hF with e | e
        · cases e
        · exact e
      obtain ⟨d1, ⟨v1, x1, y1⟩, z1⟩ := row_cons.1 hrw
      have hBw : Below w.heap.size w wr := HS.out.below.trans (HR.out.below.mono HS.out.below.size)
      have HR1 : Hid (Row w D r1 b1 (o1 + (i + 1) * 16)) := by rw [show o1 + (i + 1) * 16 = o1 + i * 16 + 16 by omega]; exact z1
      have HXc : Hid (∀ j, j < 16 → wr.cell? ⟨b1, o1 + i * 16 + j, none⟩ = (hdC h1 v1)[j]?) := fun j hj => by rw [hBw.cell (p := ⟨b1, o1 + i * 16 + j, none⟩) (hD b1 d1)]; exact x1 j hj
      obtain ⟨hA1, hA2⟩ := hAF
      have HA2 := hide hA2
      have HAl := hide al3
      have HCl : Hid (Calls Tryz.prog 39 #[.agg (hdC h1 v1).toArray, .int .i64 dr, .int .i64 dc] wr fun e w' => ∃ a n cap, e = .returned (.agg (hdC (remH (shiftD dr dc) h1) (.slice a n cap)).toArray) ∧ Kv w' (New wr w') (.slice a n cap) (remK (shiftD dr dc) h1 k1) ∧ Below wr.heap.size wr w') :=
        hA1 D v1 wr al1 al2 hm1.1 (fun c hc => Nat.lt_of_lt_of_le (hD c hc) hBw.size) (kv_to y1 (fun b hb => ⟨hb, hBw.block b (hD b hb)⟩))
      have HJ2 : Hid (joinF (G.snoc (remH (shiftD dr dc) h1) (remK (shiftD dr dc) h1 k1)) (remF (shiftD dr dc) r1) = remF (shiftD dr dc) k) := hide ((join_snoc G _ _ _).trans HJ.out)
      generalize remH (shiftD dr dc) h1 = H1' at *
      generalize remK (shiftD dr dc) h1 k1 = K1' at *
      have HM1 := hide hcap2
      have HM2 := hide hm1.2
      unfold maxLen at hcap2
      clear hrw d1 x1 y1 z1 hA1 hA2 hF hl hmF hm1 hBw al1 al2 al3 HJ
      go_wp2_with (first | (with_reducible refine wpl_id ?_; refine wpl_loadAt rfl _ rfl _ _ rfl HXc.out ?_) | (go_at_call 39; refine HCl.out.mono ?_; rintro e w3 ⟨a1, n1, c1, rfl, hk1, hb1⟩; have HKn := hide hk1; have HBr := hide hb1; have s1 := hb1.size; have HO3 := hide ((own_below hown hb1).alloc (.cells (hdC H1' (.slice a1 n1 c1)).toArray 33)); clear hk1 hb1) | (with_reducible refine wpl_id ?_; refine wpl_buildS rfl _ _ _ rfl (qs := #[(0, .agg (hdC H1' (.slice a1 n1 c1)).toArray)]) rfl (build1 H1' (.slice a1 n1 c1) _) ?_) | (at_builtin; go_loud (refine wpList_append_own_at _ rfl _ _ 31 rfl B.heap.size 33 i0 (.agg (hdC zh (.slice none 0 0)).toArray) 16 144 Tryz.underlying31 hinf hz0 hz1 hz2 rfl (by decide) _ _ _ rfl HO3.out ⟨w3.heap.size, 0, none⟩ 1 1 (hdC H1' (.slice a1 n1 c1)) rfl rfl ?c1 ?c2 ?c3 ?c4 ?c5 ?_)))
      case c1 =>
        intro j u hu
        have := cells_new w3 (hdC H1' (.slice a1 n1 c1)).toArray 33 j u (by simpa using hu)
        exact this
      case c2 =>
        have := hdC_one H1' (v := .slice a1 n1 c1) rfl
        rw [Array.all_eq_true_iff_forall_mem] at this
        exact fun u hu => this u (by simpa using hu)
      case c3 => unfold maxLen; omega
      case c4 => omega
      case c5 => simp; omega
      intro v' w4 hown4 hgr4 _ hwh4
      have hN := RowAt.more (h := H1') HR.out HBr.out HKn.out (by rw [hLi]; exact hown4) hgr4 (by simpa using hwh4)
      have HN := hide hN
      have k15 : w4.cell? ⟨w.heap.size, 15, none⟩ = some (.slice (some ⟨b1, o1, none⟩) k.len cap) := (HS.out.node.below hN.below).cell 15 (.slice (some ⟨b1, o1, none⟩) k.len cap) rfl
      clear hown4 hgr4 hwh4 hN HO3 hown
      go_wp2
      go_roundw
      case rel => exact ⟨i + 1, v', _, _, r1, rfl, by go_num, by simp [hLi], by omega, HN.out, HJ2.out, .inr ⟨b1, o1, rfl, hcap1, HM1.out, HR1.out⟩, HA2.out, HAl.out, HM2.out, k15⟩
      case measure => simp [intOf]; omega
theorem slide_step (dr dc : Int) (h : Hd) (k : Fo) (hA : SlideA dr dc k) : SlideC dr dc h k := by
  intro D v w ha hr hm hD hk
  obtain ⟨a, n, cap, rfl, hn, hk'⟩ := hk
  by_cases k2 : h.kind = 2
  · have hl := (kept_head (shiftD dr dc) h k.len ha).2 (by simp [leafB, k2])
    have := len_nil hl
    subst this
    have hrk : remK (shiftD dr dc) h .nil = .nil := by unfold remK; split <;> rfl
    rw [hrk]
    cases hp : Pla.placeB (slideI h.fr h.row dr) (slideI h.fc h.col dc)
    · refine (slide_cell_no h a n cap dr dc w k2 _ _ _ _ rfl rfl rfl rfl hp).mono ?_
      rintro e w' ⟨rfl, hb⟩
      exact ⟨none, 0, 0, by simp [remH, k2, shiftD, hp], kv_nil _ _ _ _, hb⟩
    · refine (slide_cell_ok h a n cap dr dc w k2 _ _ _ _ rfl rfl rfl rfl hp).mono ?_
      rintro e w' ⟨rfl, hb⟩
      refine ⟨a, n, cap, ?_, ⟨a, n, cap, rfl, hn, .inl rfl⟩, hb⟩
      obtain ⟨kind, vk, vn, vs, vb, vc, row, col, fr, fc, row2, col2, fr2, fc2, txt⟩ := h
      simp only at k2 hp
      subst k2
      simp [aloneB, noVal, noTo] at ha
      simp [remH, shiftD, hp, cellN, ha]
  by_cases k3 : h.kind = 3
  · have hl := (kept_head (shiftD dr dc) h k.len ha).2 (by simp [leafB, k3])
    have := len_nil hl
    subst this
    have hrk : remK (shiftD dr dc) h .nil = .nil := by unfold remK; split <;> rfl
    rw [hrk]
    cases hp : Pla.placeB (slideI h.fr h.row dr) (slideI h.fc h.col dc)
    · refine (slide_range_no h a n cap dr dc w k3 _ _ _ _ rfl rfl rfl rfl hp).mono ?_
      rintro e w' ⟨rfl, hb⟩
      exact ⟨none, 0, 0, by simp [remH, k3, shiftD, hp], kv_nil _ _ _ _, hb⟩
    · cases hp2 : Pla.placeB (slideI h.fr2 h.row2 dr) (slideI h.fc2 h.col2 dc)
      · refine (slide_range_no2 h a n cap dr dc w k3 _ _ _ _ rfl rfl rfl rfl hp hp2).mono ?_
        rintro e w' ⟨rfl, hb⟩
        exact ⟨none, 0, 0, by simp [remH, k3, shiftD, hp, hp2], kv_nil _ _ _ _, hb⟩
      · refine (slide_range_ok h a n cap dr dc w k3 _ _ _ _ rfl rfl rfl rfl hp hp2).mono ?_
        rintro e w' ⟨rfl, hb⟩
        refine ⟨a, n, cap, ?_, ⟨a, n, cap, rfl, hn, .inl rfl⟩, hb⟩
        obtain ⟨kind, vk, vn, vs, vb, vc, row, col, fr, fc, row2, col2, fr2, fc2, txt⟩ := h
        simp only at k3 hp hp2
        subst k3
        simp [aloneB, noVal] at ha
        simp [remH, shiftD, hp, hp2, rangeN, ha]
  obtain ⟨e1, e2⟩ := rem_other (shiftD dr dc) h k.len ha k2 k3
  have e3 : remK (shiftD dr dc) h k = remF (shiftD dr dc) k := by unfold remK; rw [e2]; rfl
  rw [e1, e3]
  exact slide_more dr dc h k hA (by simpa using k2) (by simpa using k3) _ _ _ _ rfl rfl rfl rfl D a n cap w hr hm hD ⟨a, n, cap, rfl, hn, hk'⟩
theorem slide_all (dr dc : Int) : ∀ (F : Fo), SlideA dr dc F
 | .nil => trivial
 | .cons h k r => ⟨slide_step dr dc h k (slide_all dr dc k), slide_all dr dc r⟩
theorem slide_any (dr dc : Int) (h : Hd) (k : Fo) : SlideC dr dc h k := slide_step dr dc h k (slide_all dr dc k)
end Go.Proofs.YtfpmmckpobpokaaGreat
