/-
  The contracts of the answer's named and called.
-/
import Derived.Test.YtijjnchedgllgaaDoorFmI1
import Derived.Test.YtijjnchedgllgaaDoorFmE0
import Derived.Test.YtijjnchedgllgaaDoorFmU
namespace Go.Proofs.YtijjnchedgllgaaDoor
open Go.RowKit Go.Shelf

/-- Rectangles, and those that some nodes name. -/
def namR (L : List (Int × Int × Int × Int)) (l : List (Hd × Fo)) : List (Int × Int × Int × Int) := l.foldl (fun acc x => if (rectH x.1).2 = true then addR acc (rectH x.1).1 else acc) L
theorem acc_app (L : List (Int × Int × Int × Int)) (l r : List (Hd × Fo)) : namR L (l ++ r) = namR (namR L l) r := by simp [namR]
theorem acc_node (L : List (Int × Int × Int × Int)) (h : Hd) (k : Fo) : namR L (preF (.cons h k .nil)) = namR (if (rectH h).2 = true then addR L (rectH h).1 else L) (preF k) := by
  simp [namR, preF]
theorem acc_kid (L : List (Int × Int × Int × Int)) (h : Hd) (k r : Fo) : namR L (preF (.cons h k r)) = namR (namR L (preF (.cons h k .nil))) (preF r) := by
  rw [← acc_app]
  simp [preF]
theorem addR_len (L : List (Int × Int × Int × Int)) (x : Int × Int × Int × Int) : L.length ≤ (addR L x).length ∧ (addR L x).length ≤ L.length + 1 := by
  unfold addR
  split
  · exact ⟨Nat.le_refl _, Nat.le_succ _⟩
  · simp
theorem acc_len : ∀ (l : List (Hd × Fo)) (L : List (Int × Int × Int × Int)), (namR L l).length ≤ L.length + l.length
  | [], L => by simp [namR]
  | x :: l, L => by
    have e : namR L (x :: l) = namR (if (rectH x.1).2 = true then addR L (rectH x.1).1 else L) l := by simp [namR]
    rw [e]
    have h1 := acc_len l (if (rectH x.1).2 = true then addR L (rectH x.1).1 else L)
    have h2 : (if (rectH x.1).2 = true then addR L (rectH x.1).1 else L).length ≤ L.length + 1 := by
      split
      · exact (addR_len _ _).2
      · omega
    simp only [List.length_cons]
    omega
theorem rects_acc (h : Hd) (k : Fo) (e : checkN h k = 0) : rectsN h k = namR [] (preF (.cons h k .nil)) := by
  unfold rectsN
  rw [if_pos e]
  rfl
/-- The contract of named, for kids. -/
def NamedC (k : Fo) : Prop :=
  ∀ (D : Nat → Prop) (h : Hd) (v rv : Value) (L : List (Int × Int × Int × Int)) (w : World), (∀ c, D c → c < w.heap.size ∧ rv.ownBlock ≠ some c) → Kv w D v k → rightN h k = true → L.length + k.many + 1 ≤ 5000 → w.ownsRow 0 74 4 rv L.length (L.flatMap rcC) →
    Calls Tryd.prog 32 #[rv, .agg (hdC h v).toArray] w fun e w' => ∃ rv', e = .returned rv' ∧ w'.ownsRow 0 74 4 rv' (namR L (preF (.cons h k .nil))).length ((namR L (preF (.cons h k .nil))).flatMap rcC) ∧ w.grownBy w' rv.ownBlock ∧ ∀ g, rv'.ownBlock = some g → rv.ownBlock = some g ∨ w.heap.size ≤ g
def NamedA : Fo → Prop
  | .nil => True
  | .cons _ k r => NamedC k ∧ NamedA r
set_option maxRecDepth 100000 in
set_option maxHeartbeats 8000000 in
theorem named_step (k : Fo) (hA : NamedA k) : NamedC k := by
  intro D h v rv L w hD hk hr hbd hown
  obtain ⟨a, n, cap, rfl, hn, hk⟩ := hk
  subst hn
  obtain ⟨R, hR⟩ : ∃ R, R = namR L (preF (.cons h k .nil)) := ⟨_, rfl⟩
  rw [← hR]
  have hr2 : aloneB h k.len = true ∧ allB k = true := by unfold rightN at hr; simpa using hr
  have hof := of_right hr2.1
  rw [acc_node] at hR
  have HAl := hide hr2.2
  have HK1 := hide hk
  have HA := hide hA
  have HO0 := hide hown
  have HRB : Hid (rv.ownBlock ≠ some w.heap.size) := fun e => by have := (hown.lt _ e).2; omega
  have hB0 : Below w.heap.size w (w.alloc (.cells (hdC h (.slice a k.len cap)).toArray 44)) := (Below.refl _ _).alloc (Nat.le_refl _) _
  have HB0 := hide hB0
  have hx := Box.new w (hdC h (.slice a k.len cap))
  have HX0 := hide hx
  have p0 := hx.cell 0 (.int .i64 h.kind) rfl
  have p6 := hx.cell 6 (.int .i64 h.row) rfl
  have p7 := hx.cell 7 (.int .i64 h.col) rfl
  have p10 := hx.cell 10 (.int .i64 h.row2) rfl
  have p11 := hx.cell 11 (.int .i64 h.col2) rfl
  have p15 := hx.cell 15 (.slice a k.len cap) rfl
  clear hk hA hown hr hr2 hB0 hx
  by_cases h23 : h.kind = 2 ∨ h.kind = 3
  · have hrt : (rectH h).2 = true := by
      rcases h23 with e | e
      · rw [hof.1 e]
      · exact hof.2.1 e
    rw [if_pos hrt] at hR
    have hlen := addR_len L (rectH h).1
    obtain ⟨x1, x2, x3, x4, x5, HOR⟩ : ∃ x1 x2 x3 x4 x5, Hid (ofH h = (x1, x2, x3, x4, x5)) := ⟨_, _, _, _, _, rfl⟩
    have hRe : (rectH h).1 = (x1, x2, x3, x4) := by
      unfold rectH
      rw [if_pos (by unfold rangeB; rcases h23 with e | e <;> simp [e]), HOR.out]
    rw [hRe] at hR hlen
    have HWi : Hid (∀ W : World, w.grownBy W none → Calls Tryd.prog 47 #[rv, .agg #[.int .i64 x1, .int .i64 x2, .int .i64 x3, .int .i64 x4]] W fun e w' => ∃ rv', e = .returned rv' ∧ w'.ownsRow 0 74 4 rv' (addR L (x1, x2, x3, x4)).length ((addR L (x1, x2, x3, x4)).flatMap rcC) ∧ W.grownBy w' rv.ownBlock ∧ ∀ g, rv'.ownBlock = some g → rv.ownBlock = some g ∨ W.heap.size ≤ g) := fun W hW => with_any L x1 x2 x3 x4 rv W (by omega) (HO0.out.kept hW (by cases rv.ownBlock <;> simp))
    have HQ0 := hide hR
    clear hR hRe hrt hof
    generalize addR L (x1, x2, x3, x4) = L1 at *
    rcases h23 with e | e
    · have hq : ofH h = Pla.ofR h.row h.col h.row h.col := by unfold ofH; rw [if_pos e]
      have HOR2 : Hid (Pla.ofR h.row h.col h.row h.col = (x1, x2, x3, x4, x5)) := hq.symm.trans HOR.out
      clear hq HOR
      rw [e] at p0
      clear e
      have HOf : Hid (∀ W : World, Calls Tryd.prog 46 #[.agg #[.int .i64 h.row, .int .i64 h.col], .agg #[.int .i64 h.row, .int .i64 h.col]] W fun e w' => e = .returned (.tuple #[.agg #[.int .i64 x1, .int .i64 x2, .int .i64 x3, .int .i64 x4], .int .i64 x5]) ∧ Below W.heap.size W w') := fun W => by
        have := Pla.rof_any h.row h.col h.row h.col W
        rw [HOR2.out] at this
        exact this
      clear HOR2
      go_enter Tryd.func32, Tryd.ntmps32
      go_wp2_with (first | (go_at_call 46; refine (HOf.out _).mono ?_; rintro e w1 ⟨rfl, hb1⟩; have hg1 : w.grownBy w1 none := grown_of (HB0.out.trans (hb1.mono HB0.out.size)) none; have q15 : w1.cell? ⟨w.heap.size, 15, none⟩ = some (.slice a k.len cap) := (HX0.out.below hb1).cell 15 (.slice a k.len cap) rfl; have HG1 := hide hg1; have hz1 : w.heap.size < w1.heap.size := (by have := hb1.size; simp at this; omega); clear hb1 hg1) | (go_at_call 47; refine (HWi.out _ (grown_trans HG1.out (World.grownBy_alloc _ _ none) (fun g hg => by cases hg))).mono ?_; rintro e w3 ⟨rv3, rfl, ho3, hg3, hw3⟩; have HO3 := hide ho3; have HG3 := hide hg3; have HW3 := hide hw3; have s15 : w3.cell? ⟨w.heap.size, 15, none⟩ = some (.slice a k.len cap) := hg3.cell (World.grownBy.cell (World.grownBy_alloc w1 _ none) q15 (by simp)) (fun e => HRB.out e.symm); have hz3 : w1.heap.size < w3.heap.size := (by have := hg3.size; simp at this; omega); clear ho3 hg3 hw3))
      go_loopw [0, 9] (fun ul ui wr => ∃ (i : Nat) (F : Fo) (L2 : List (Int × Int × Int × Int)), ui = .int .i64 (i : Int) ∧ i + F.len = k.len ∧ (F = .nil ∨ ∃ b' o', a = some ⟨b', o', none⟩ ∧ k.len ≤ cap ∧ cap ≤ maxLen ∧ Row w D F b' (o' + i * 16)) ∧ NamedA F ∧ allB F = true ∧ wr.ownsRow 0 74 4 ul L2.length (L2.flatMap rcC) ∧ w.grownBy wr rv.ownBlock ∧ (∀ g, ul.ownBlock = some g → rv.ownBlock = some g ∨ w.heap.size + 1 ≤ g) ∧ w.heap.size < wr.heap.size ∧ wr.cell? ⟨w.heap.size, 15, none⟩ = some (.slice a k.len cap) ∧ L2.length + F.many ≤ 5000 ∧ R = namR L2 (preF F)) (fun _ ui _ => k.len - (intOf ui).toNat)
      case atStart =>
        refine ⟨0, k, L1, rfl, by omega, ?_, HA.out, HAl.out, HO3.out, grown_trans (grown_none (grown_trans HG1.out (World.grownBy_alloc w1 _ none) (fun g hg => by cases hg)) _) HG3.out (fun g hg => .inl hg), fun g hg => (HW3.out g hg).elim .inl (fun h2 => .inr (by simp at h2; omega)), by omega, s15, by omega, HQ0.out⟩
        rcases HK1.out with e | ⟨b', o', e1, e2, e3, e4⟩
        · exact .inl e
        · exact .inr ⟨b', o', e1, e2, e3, by simpa using e4⟩
      case round =>
        clear p0 p6 p7 p10 p11 p15 s15 q15
        obtain ⟨i, F, L2, rfl, hl, hF, hAF, hal, hown, hgr, hwh, hz, c15, hbd, hq⟩ := hrel
        have HO := hide hown
        have HG := hide hgr
        have HW := hide hwh
        have HQ := hide hq
        clear hown hgr hwh hq
        match F, hl, hF, hAF, hal, hbd, HQ with
        | .nil, hl, _, _, _, _, HQ =>
          have hli : ¬ (i : Int) < (k.len : Int) := by simp [Fo.len] at hl; omega
          go_wp2
          go_ret
          refine ⟨_, rfl, ?_, HG.out, fun g hg => ?_⟩
          · rw [HQ.out]; exact HO.out
          · rcases HW.out g hg with h1 | h1
            · exact .inl h1
            · exact .inr (by omega)
        | .cons h1 k1 r1, hl, hF, hAF, hal, hbd, HQ =>
          have hli : (i : Int) < (k.len : Int) := by simp [Fo.len] at hl; omega
          have hl2 : i + 1 + r1.len = k.len := by simp [Fo.len] at hl; omega
          rw [Fo.many] at hbd
          obtain ⟨b1, o1, rfl, hcap1, hcap2, hrw⟩ : ∃ b' o', a = some ⟨b', o', none⟩ ∧ k.len ≤ cap ∧ cap ≤ maxLen ∧ Row w D (.cons h1 k1 r1) b' (o' + i * 16) := by
            rcases hF with e | e
            · cases e
            · exact e
          obtain ⟨d1, ⟨v1, x1, y1⟩, z1⟩ := row_cons.1 hrw
          have HR1 : Hid (Row w D r1 b1 (o1 + (i + 1) * 16)) := by rw [show o1 + (i + 1) * 16 = o1 + i * 16 + 16 by omega]; exact z1
          have HBk : Hid (∀ c, D c → wr.heap[c]? = w.heap[c]?) := fun c hc => HG.out.block c (hD c hc).1 (fun e => (hD c hc).2 e.symm)
          have HX : Hid (∀ j, j < 16 → wr.cell? ⟨b1, o1 + i * 16 + j, none⟩ = (hdC h1 v1)[j]?) := fun j hj => by rw [World.cell?_of_block (w := w) (HBk.out b1 d1)]; exact x1 j hj
          obtain ⟨hA1, hA2⟩ := hAF
          have HA2 := hide hA2
          have hal2 : rightN h1 k1 = true ∧ allB r1 = true := by
            have e : (rightN h1 k1 && allB r1) = true := hal
            simpa using e
          have hne : ∀ c, D c → u0.ownBlock ≠ some c := fun c hc e => by
            rcases HW.out c e with h2 | h2
            · exact (hD c hc).2 h2
            · have := (hD c hc).1; omega
          have HC : Hid (Calls Tryd.prog 32 #[u0, .agg (hdC h1 v1).toArray] wr fun e w' => ∃ rv', e = .returned rv' ∧ w'.ownsRow 0 74 4 rv' (namR L2 (preF (.cons h1 k1 .nil))).length ((namR L2 (preF (.cons h1 k1 .nil))).flatMap rcC) ∧ wr.grownBy w' u0.ownBlock ∧ ∀ g, rv'.ownBlock = some g → u0.ownBlock = some g ∨ wr.heap.size ≤ g) :=
            hA1 D h1 v1 u0 L2 wr (fun c hc => ⟨by have := (hD c hc).1; omega, hne c hc⟩) (kv_to y1 (fun c hc => ⟨hc, HBk.out c hc⟩)) hal2.1 (by omega) HO.out
          have HA3 := hide hal2.2
          have hbl : (namR L2 (preF (.cons h1 k1 .nil))).length ≤ L2.length + (k1.many + 1) := by
            have := acc_len (preF (.cons h1 k1 .nil)) L2
            rw [preF_len, Fo.many, Fo.many] at this
            omega
          have HQ2 : Hid (R = namR (namR L2 (preF (.cons h1 k1 .nil))) (preF r1)) := HQ.out.trans (acc_kid _ _ _ _)
          have hn0 : u0.ownBlock ≠ some w.heap.size := fun e => by
            rcases HW.out _ e with h2 | h2
            · exact HRB.out h2
            · omega
          have HN0 := hide hn0
          have HM := hide hcap2
          unfold maxLen at hcap2
          clear HQ hrw d1 x1 y1 z1 hA1 hA2 hF hl hal hal2 hne HBk hn0
          generalize namR L2 (preF (.cons h1 k1 .nil)) = L3 at *
          go_wp2_with (first | (with_reducible refine wpl_id ?_; refine wpl_loadAt rfl _ rfl _ _ rfl HX.out ?_) | (go_at_call 32; refine HC.out.mono ?_; rintro e w2 ⟨rv2, rfl, ho2, hg2, hw2⟩; have HO2 := hide ho2; have HG2 := hide hg2; have HW2 := hide hw2; have k15 := hg2.cell c15 (fun e => HN0.out e.symm); have hz2 : w.heap.size < w2.heap.size := Nat.lt_of_lt_of_le hz hg2.size; clear ho2 hg2 hw2))
          go_roundw
          case rel =>
            refine ⟨i + 1, r1, L3, by go_num, by omega, .inr ⟨b1, o1, rfl, hcap1, HM.out, HR1.out⟩, HA2.out, HA3.out, HO2.out, grown_trans HG.out HG2.out (fun g hg => ?_), fun g hg => ?_, hz2, k15, by omega, HQ2.out⟩
            · rcases HW.out g hg with h2 | h2
              · exact .inl h2
              · exact .inr (by omega)
            · rcases HW2.out g hg with h2 | h2
              · exact HW.out g h2
              · exact .inr (by omega)
          case measure => simp [intOf]; omega
    · have hq : ofH h = Pla.ofR h.row h.col h.row2 h.col2 := by unfold ofH; rw [if_neg (by omega)]
      have HOR2 : Hid (Pla.ofR h.row h.col h.row2 h.col2 = (x1, x2, x3, x4, x5)) := hq.symm.trans HOR.out
      clear hq HOR
      rw [e] at p0
      clear e
      have HOf : Hid (∀ W : World, Calls Tryd.prog 46 #[.agg #[.int .i64 h.row, .int .i64 h.col], .agg #[.int .i64 h.row2, .int .i64 h.col2]] W fun e w' => e = .returned (.tuple #[.agg #[.int .i64 x1, .int .i64 x2, .int .i64 x3, .int .i64 x4], .int .i64 x5]) ∧ Below W.heap.size W w') := fun W => by
        have := Pla.rof_any h.row h.col h.row2 h.col2 W
        rw [HOR2.out] at this
        exact this
      clear HOR2
      go_enter Tryd.func32, Tryd.ntmps32
      go_wp2_with (first | (go_at_call 46; refine (HOf.out _).mono ?_; rintro e w1 ⟨rfl, hb1⟩; have hg1 : w.grownBy w1 none := grown_of (HB0.out.trans (hb1.mono HB0.out.size)) none; have q15 : w1.cell? ⟨w.heap.size, 15, none⟩ = some (.slice a k.len cap) := (HX0.out.below hb1).cell 15 (.slice a k.len cap) rfl; have HG1 := hide hg1; have hz1 : w.heap.size < w1.heap.size := (by have := hb1.size; simp at this; omega); clear hb1 hg1) | (go_at_call 47; refine (HWi.out _ (grown_trans HG1.out (World.grownBy_alloc _ _ none) (fun g hg => by cases hg))).mono ?_; rintro e w3 ⟨rv3, rfl, ho3, hg3, hw3⟩; have HO3 := hide ho3; have HG3 := hide hg3; have HW3 := hide hw3; have s15 : w3.cell? ⟨w.heap.size, 15, none⟩ = some (.slice a k.len cap) := hg3.cell (World.grownBy.cell (World.grownBy_alloc w1 _ none) q15 (by simp)) (fun e => HRB.out e.symm); have hz3 : w1.heap.size < w3.heap.size := (by have := hg3.size; simp at this; omega); clear ho3 hg3 hw3))
      go_loopw [0, 9] (fun ul ui wr => ∃ (i : Nat) (F : Fo) (L2 : List (Int × Int × Int × Int)), ui = .int .i64 (i : Int) ∧ i + F.len = k.len ∧ (F = .nil ∨ ∃ b' o', a = some ⟨b', o', none⟩ ∧ k.len ≤ cap ∧ cap ≤ maxLen ∧ Row w D F b' (o' + i * 16)) ∧ NamedA F ∧ allB F = true ∧ wr.ownsRow 0 74 4 ul L2.length (L2.flatMap rcC) ∧ w.grownBy wr rv.ownBlock ∧ (∀ g, ul.ownBlock = some g → rv.ownBlock = some g ∨ w.heap.size + 1 ≤ g) ∧ w.heap.size < wr.heap.size ∧ wr.cell? ⟨w.heap.size, 15, none⟩ = some (.slice a k.len cap) ∧ L2.length + F.many ≤ 5000 ∧ R = namR L2 (preF F)) (fun _ ui _ => k.len - (intOf ui).toNat)
      case atStart =>
        refine ⟨0, k, L1, rfl, by omega, ?_, HA.out, HAl.out, HO3.out, grown_trans (grown_none (grown_trans HG1.out (World.grownBy_alloc w1 _ none) (fun g hg => by cases hg)) _) HG3.out (fun g hg => .inl hg), fun g hg => (HW3.out g hg).elim .inl (fun h2 => .inr (by simp at h2; omega)), by omega, s15, by omega, HQ0.out⟩
        rcases HK1.out with e | ⟨b', o', e1, e2, e3, e4⟩
        · exact .inl e
        · exact .inr ⟨b', o', e1, e2, e3, by simpa using e4⟩
      case round =>
        clear p0 p6 p7 p10 p11 p15 s15 q15
        obtain ⟨i, F, L2, rfl, hl, hF, hAF, hal, hown, hgr, hwh, hz, c15, hbd, hq⟩ := hrel
        have HO := hide hown
        have HG := hide hgr
        have HW := hide hwh
        have HQ := hide hq
        clear hown hgr hwh hq
        match F, hl, hF, hAF, hal, hbd, HQ with
        | .nil, hl, _, _, _, _, HQ =>
          have hli : ¬ (i : Int) < (k.len : Int) := by simp [Fo.len] at hl; omega
          go_wp2
          go_ret
          refine ⟨_, rfl, ?_, HG.out, fun g hg => ?_⟩
          · rw [HQ.out]; exact HO.out
          · rcases HW.out g hg with h1 | h1
            · exact .inl h1
            · exact .inr (by omega)
        | .cons h1 k1 r1, hl, hF, hAF, hal, hbd, HQ =>
          have hli : (i : Int) < (k.len : Int) := by simp [Fo.len] at hl; omega
          have hl2 : i + 1 + r1.len = k.len := by simp [Fo.len] at hl; omega
          rw [Fo.many] at hbd
          obtain ⟨b1, o1, rfl, hcap1, hcap2, hrw⟩ : ∃ b' o', a = some ⟨b', o', none⟩ ∧ k.len ≤ cap ∧ cap ≤ maxLen ∧ Row w D (.cons h1 k1 r1) b' (o' + i * 16) := by
            rcases hF with e | e
            · cases e
            · exact e
          obtain ⟨d1, ⟨v1, x1, y1⟩, z1⟩ := row_cons.1 hrw
          have HR1 : Hid (Row w D r1 b1 (o1 + (i + 1) * 16)) := by rw [show o1 + (i + 1) * 16 = o1 + i * 16 + 16 by omega]; exact z1
          have HBk : Hid (∀ c, D c → wr.heap[c]? = w.heap[c]?) := fun c hc => HG.out.block c (hD c hc).1 (fun e => (hD c hc).2 e.symm)
          have HX : Hid (∀ j, j < 16 → wr.cell? ⟨b1, o1 + i * 16 + j, none⟩ = (hdC h1 v1)[j]?) := fun j hj => by rw [World.cell?_of_block (w := w) (HBk.out b1 d1)]; exact x1 j hj
          obtain ⟨hA1, hA2⟩ := hAF
          have HA2 := hide hA2
          have hal2 : rightN h1 k1 = true ∧ allB r1 = true := by
            have e : (rightN h1 k1 && allB r1) = true := hal
            simpa using e
          have hne : ∀ c, D c → u0.ownBlock ≠ some c := fun c hc e => by
            rcases HW.out c e with h2 | h2
            · exact (hD c hc).2 h2
            · have := (hD c hc).1; omega
          have HC : Hid (Calls Tryd.prog 32 #[u0, .agg (hdC h1 v1).toArray] wr fun e w' => ∃ rv', e = .returned rv' ∧ w'.ownsRow 0 74 4 rv' (namR L2 (preF (.cons h1 k1 .nil))).length ((namR L2 (preF (.cons h1 k1 .nil))).flatMap rcC) ∧ wr.grownBy w' u0.ownBlock ∧ ∀ g, rv'.ownBlock = some g → u0.ownBlock = some g ∨ wr.heap.size ≤ g) :=
            hA1 D h1 v1 u0 L2 wr (fun c hc => ⟨by have := (hD c hc).1; omega, hne c hc⟩) (kv_to y1 (fun c hc => ⟨hc, HBk.out c hc⟩)) hal2.1 (by omega) HO.out
          have HA3 := hide hal2.2
          have hbl : (namR L2 (preF (.cons h1 k1 .nil))).length ≤ L2.length + (k1.many + 1) := by
            have := acc_len (preF (.cons h1 k1 .nil)) L2
            rw [preF_len, Fo.many, Fo.many] at this
            omega
          have HQ2 : Hid (R = namR (namR L2 (preF (.cons h1 k1 .nil))) (preF r1)) := HQ.out.trans (acc_kid _ _ _ _)
          have hn0 : u0.ownBlock ≠ some w.heap.size := fun e => by
            rcases HW.out _ e with h2 | h2
            · exact HRB.out h2
            · omega
          have HN0 := hide hn0
          have HM := hide hcap2
          unfold maxLen at hcap2
          clear HQ hrw d1 x1 y1 z1 hA1 hA2 hF hl hal hal2 hne HBk hn0
          generalize namR L2 (preF (.cons h1 k1 .nil)) = L3 at *
          go_wp2_with (first | (with_reducible refine wpl_id ?_; refine wpl_loadAt rfl _ rfl _ _ rfl HX.out ?_) | (go_at_call 32; refine HC.out.mono ?_; rintro e w2 ⟨rv2, rfl, ho2, hg2, hw2⟩; have HO2 := hide ho2; have HG2 := hide hg2; have HW2 := hide hw2; have k15 := hg2.cell c15 (fun e => HN0.out e.symm); have hz2 : w.heap.size < w2.heap.size := Nat.lt_of_lt_of_le hz hg2.size; clear ho2 hg2 hw2))
          go_roundw
          case rel =>
            refine ⟨i + 1, r1, L3, by go_num, by omega, .inr ⟨b1, o1, rfl, hcap1, HM.out, HR1.out⟩, HA2.out, HA3.out, HO2.out, grown_trans HG.out HG2.out (fun g hg => ?_), fun g hg => ?_, hz2, k15, by omega, HQ2.out⟩
            · rcases HW.out g hg with h2 | h2
              · exact .inl h2
              · exact .inr (by omega)
            · rcases HW2.out g hg with h2 | h2
              · exact HW.out g h2
              · exact .inr (by omega)
          case measure => simp [intOf]; omega
  · have hrf : (rectH h).2 = false := hof.2.2 (fun e => h23 (.inl e)) (fun e => h23 (.inr e))
    rw [if_neg (by rw [hrf]; simp)] at hR
    have e2 : (h.kind == 2) = false := by simpa using fun e => h23 (.inl e)
    have e3 : (h.kind == 3) = false := by simpa using fun e => h23 (.inr e)
    have HQ0 := hide hR
    clear hR hrf hof h23
    go_enter Tryd.func32, Tryd.ntmps32
    go_wp2
    go_loopw [0, 9] (fun ul ui wr => ∃ (i : Nat) (F : Fo) (L2 : List (Int × Int × Int × Int)), ui = .int .i64 (i : Int) ∧ i + F.len = k.len ∧ (F = .nil ∨ ∃ b' o', a = some ⟨b', o', none⟩ ∧ k.len ≤ cap ∧ cap ≤ maxLen ∧ Row w D F b' (o' + i * 16)) ∧ NamedA F ∧ allB F = true ∧ wr.ownsRow 0 74 4 ul L2.length (L2.flatMap rcC) ∧ w.grownBy wr rv.ownBlock ∧ (∀ g, ul.ownBlock = some g → rv.ownBlock = some g ∨ w.heap.size + 1 ≤ g) ∧ w.heap.size < wr.heap.size ∧ wr.cell? ⟨w.heap.size, 15, none⟩ = some (.slice a k.len cap) ∧ L2.length + F.many ≤ 5000 ∧ R = namR L2 (preF F)) (fun _ ui _ => k.len - (intOf ui).toNat)
    case atStart =>
      refine ⟨0, k, L, rfl, by omega, ?_, HA.out, HAl.out, HO0.out.kept (World.grownBy_alloc w _ none) (by cases rv.ownBlock <;> simp), grown_of HB0.out _, fun g hg => .inl hg, by simp, p15, by omega, HQ0.out⟩
      rcases HK1.out with e | ⟨b', o', e1, e2, e3, e4⟩
      · exact .inl e
      · exact .inr ⟨b', o', e1, e2, e3, by simpa using e4⟩
    case round =>
      clear p0 p6 p7 p10 p11 p15
      obtain ⟨i, F, L2, rfl, hl, hF, hAF, hal, hown, hgr, hwh, hz, c15, hbd, hq⟩ := hrel
      have HO := hide hown
      have HG := hide hgr
      have HW := hide hwh
      have HQ := hide hq
      clear hown hgr hwh hq
      match F, hl, hF, hAF, hal, hbd, HQ with
      | .nil, hl, _, _, _, _, HQ =>
        have hli : ¬ (i : Int) < (k.len : Int) := by simp [Fo.len] at hl; omega
        go_wp2
        go_ret
        refine ⟨_, rfl, ?_, HG.out, fun g hg => ?_⟩
        · rw [HQ.out]; exact HO.out
        · rcases HW.out g hg with h1 | h1
          · exact .inl h1
          · exact .inr (by omega)
      | .cons h1 k1 r1, hl, hF, hAF, hal, hbd, HQ =>
        have hli : (i : Int) < (k.len : Int) := by simp [Fo.len] at hl; omega
        have hl2 : i + 1 + r1.len = k.len := by simp [Fo.len] at hl; omega
        rw [Fo.many] at hbd
        obtain ⟨b1, o1, rfl, hcap1, hcap2, hrw⟩ : ∃ b' o', a = some ⟨b', o', none⟩ ∧ k.len ≤ cap ∧ cap ≤ maxLen ∧ Row w D (.cons h1 k1 r1) b' (o' + i * 16) := by
          rcases hF with e | e
          · cases e
          · exact e
        obtain ⟨d1, ⟨v1, x1, y1⟩, z1⟩ := row_cons.1 hrw
        have HR1 : Hid (Row w D r1 b1 (o1 + (i + 1) * 16)) := by rw [show o1 + (i + 1) * 16 = o1 + i * 16 + 16 by omega]; exact z1
        have HBk : Hid (∀ c, D c → wr.heap[c]? = w.heap[c]?) := fun c hc => HG.out.block c (hD c hc).1 (fun e => (hD c hc).2 e.symm)
        have HX : Hid (∀ j, j < 16 → wr.cell? ⟨b1, o1 + i * 16 + j, none⟩ = (hdC h1 v1)[j]?) := fun j hj => by rw [World.cell?_of_block (w := w) (HBk.out b1 d1)]; exact x1 j hj
        obtain ⟨hA1, hA2⟩ := hAF
        have HA2 := hide hA2
        have hal2 : rightN h1 k1 = true ∧ allB r1 = true := by
          have e : (rightN h1 k1 && allB r1) = true := hal
          simpa using e
        have hne : ∀ c, D c → u0.ownBlock ≠ some c := fun c hc e => by
          rcases HW.out c e with h2 | h2
          · exact (hD c hc).2 h2
          · have := (hD c hc).1; omega
        have HC : Hid (Calls Tryd.prog 32 #[u0, .agg (hdC h1 v1).toArray] wr fun e w' => ∃ rv', e = .returned rv' ∧ w'.ownsRow 0 74 4 rv' (namR L2 (preF (.cons h1 k1 .nil))).length ((namR L2 (preF (.cons h1 k1 .nil))).flatMap rcC) ∧ wr.grownBy w' u0.ownBlock ∧ ∀ g, rv'.ownBlock = some g → u0.ownBlock = some g ∨ wr.heap.size ≤ g) :=
          hA1 D h1 v1 u0 L2 wr (fun c hc => ⟨by have := (hD c hc).1; omega, hne c hc⟩) (kv_to y1 (fun c hc => ⟨hc, HBk.out c hc⟩)) hal2.1 (by omega) HO.out
        have HA3 := hide hal2.2
        have hbl : (namR L2 (preF (.cons h1 k1 .nil))).length ≤ L2.length + (k1.many + 1) := by
          have := acc_len (preF (.cons h1 k1 .nil)) L2
          rw [preF_len, Fo.many, Fo.many] at this
          omega
        have HQ2 : Hid (R = namR (namR L2 (preF (.cons h1 k1 .nil))) (preF r1)) := HQ.out.trans (acc_kid _ _ _ _)
        have hn0 : u0.ownBlock ≠ some w.heap.size := fun e => by
          rcases HW.out _ e with h2 | h2
          · exact HRB.out h2
          · omega
        have HN0 := hide hn0
        have HM := hide hcap2
        unfold maxLen at hcap2
        clear HQ hrw d1 x1 y1 z1 hA1 hA2 hF hl hal hal2 hne HBk hn0
        generalize namR L2 (preF (.cons h1 k1 .nil)) = L3 at *
        go_wp2_with (first | (with_reducible refine wpl_id ?_; refine wpl_loadAt rfl _ rfl _ _ rfl HX.out ?_) | (go_at_call 32; refine HC.out.mono ?_; rintro e w2 ⟨rv2, rfl, ho2, hg2, hw2⟩; have HO2 := hide ho2; have HG2 := hide hg2; have HW2 := hide hw2; have k15 := hg2.cell c15 (fun e => HN0.out e.symm); have hz2 : w.heap.size < w2.heap.size := Nat.lt_of_lt_of_le hz hg2.size; clear ho2 hg2 hw2))
        go_roundw
        case rel =>
          refine ⟨i + 1, r1, L3, by go_num, by omega, .inr ⟨b1, o1, rfl, hcap1, HM.out, HR1.out⟩, HA2.out, HA3.out, HO2.out, grown_trans HG.out HG2.out (fun g hg => ?_), fun g hg => ?_, hz2, k15, by omega, HQ2.out⟩
          · rcases HW.out g hg with h2 | h2
            · exact .inl h2
            · exact .inr (by omega)
          · rcases HW2.out g hg with h2 | h2
            · exact HW.out g h2
            · exact .inr (by omega)
        case measure => simp [intOf]; omega
theorem named_all : ∀ (F : Fo), NamedA F
  | .nil => trivial
  | .cons _ k r => ⟨named_step k (named_all k), named_all r⟩
end Go.Proofs.YtijjnchedgllgaaDoor
