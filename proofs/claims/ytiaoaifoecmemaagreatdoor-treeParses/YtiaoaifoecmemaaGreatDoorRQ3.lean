/-
  How deep and how many: the contracts of size.fits, size.add and measure.
  The contracts of tree's isGreat, isDigit, isName, isCell, isConstant, isEmpty.
  The contracts of tree's isCell, isConstant, isEmpty.
-/
import Derived.Test.YtiaoaifoecmemaaGreatDoorRQ2
import Derived.Test.YtiaoaifoecmemaaGreatDoorRXPla6
set_option maxRecDepth 100000
set_option maxHeartbeats 4000000
namespace Go.Proofs.YtiaoaifoecmemaaGreatDoor
open Go.RowKit
def fitsZ (z : Nat × Nat) : Bool := decide (z.1 ≤ 160) && decide (z.2 ≤ 4096)
def addF : Nat × Nat → Fo → Nat → Nat × Nat
 | z, .nil, _ => z
 | z, .cons _ k r, d => if fitsZ z then addF (addF (max z.1 d, z.2 + 1) k (d + 1)) r d else z
def addN (z : Nat × Nat) (k : Fo) (d : Nat) : Nat × Nat := addF (max z.1 d, z.2 + 1) k (d + 1)
theorem addF_stop {z : Nat × Nat} (h : fitsZ z = false) : ∀ (F : Fo) (d : Nat), addF z F d = z
 | .nil, _ => rfl
 | .cons _ _ _, _ => by rw [addF, if_neg (by rw [h]; simp)]
theorem addF_ge : ∀ (F : Fo) (z : Nat × Nat) (d : Nat), z.1 ≤ (addF z F d).1
  | .nil, _, _ => Nat.le_refl _
  | .cons _ k r, z, d => by
    rw [addF]
    split
    · have h1 := addF_ge k (max z.1 d, z.2 + 1) (d + 1)
      have h2 := addF_ge r (addF (max z.1 d, z.2 + 1) k (d + 1)) d
      have h3 : z.1 ≤ max z.1 d := Nat.le_max_left _ _
      simp only at h1
      omega
    · exact Nat.le_refl _
theorem addF_bd : ∀ (F : Fo) (z : Nat × Nat) (d : Nat), z.1 ≤ 161 → z.2 ≤ 4097 → d ≤ z.1 + 1 → (addF z F d).1 ≤ 161 ∧ (addF z F d).2 ≤ 4097
  | .nil, _, _, h1, h2, _ => ⟨h1, h2⟩
  | .cons _ k r, z, d, h1, h2, h3 => by
    rw [addF]
    split
    · rename_i hf
      simp [fitsZ] at hf
      have m1 : max z.1 d ≤ 161 := by omega
      have a := addF_bd k (max z.1 d, z.2 + 1) (d + 1) m1 (by simp only; omega) (by simp only; omega)
      have g := addF_ge k (max z.1 d, z.2 + 1) (d + 1)
      simp only at g
      exact addF_bd r _ d a.1 a.2 (by omega)
    · exact ⟨h1, h2⟩
def Zed (w : World) (b : Nat) (z : Nat × Nat) : Prop := b < w.heap.size ∧ w.cell? ⟨b, 0, none⟩ = some (.int .i64 z.1) ∧ w.cell? ⟨b, 1, none⟩ = some (.int .i64 z.2) ∧ w.frozen? ⟨b, 0, none⟩ = false ∧ w.frozen? ⟨b, 1, none⟩ = false
theorem fits_any' (b : Nat) (z : Nat × Nat) (w : World) (h : Zed w b z) :
    Calls Tryz.prog 44 #[.pointer (some ⟨b, 0, none⟩)] w fun e w' => e = .returned (.bool (fitsZ z)) ∧ w' = w := by
  obtain ⟨h1, h2, h3, h4, h5⟩ := h
  obtain ⟨d, n⟩ := z
  simp only at *
  by_cases hd : d ≤ 160
  · have hd' : (d : Int) ≤ 160 := by omega
    go_enter Tryz.func44, Tryz.ntmps44
    go_wp2
    go_ret
    exact ⟨by simp [fitsZ, hd]; omega, rfl⟩
  · have hd' : ¬ (d : Int) ≤ 160 := by omega
    go_enter Tryz.func44, Tryz.ntmps44
    go_wp2
    go_ret
    exact ⟨by simp [fitsZ, hd], rfl⟩
theorem row_kids {w : World} {D : Nat → Prop} {h : Hd} {k r : Fo} {b o : Nat} (hr : Row w D (.cons h k r) b o) : ∃ a n cap, w.cell? ⟨b, o + 15, none⟩ = some (.slice a n cap) ∧ n = k.len ∧ D b ∧ (k = .nil ∨ ∃ b' o', a = some ⟨b', o', none⟩ ∧ n ≤ cap ∧ cap ≤ maxLen ∧ Row w D k b' o') := by
 obtain ⟨h1, ⟨v, hv, a, n, cap, rfl, e2, e3⟩, _⟩ := hr
 exact ⟨a, n, cap, hv 15 (by omega), e2, h1, e3⟩
def AddC (zb : Nat) (k : Fo) : Prop :=
 ∀ (D : Nat → Prop), (∀ b, D b → b < zb) → ∀ (h : Hd) (b o : Nat) (w : World) (z : Nat × Nat) (d : Nat), Row w D (.cons h k .nil) b o → Zed w zb z → z.1 ≤ 160 → z.2 ≤ 4096 → d ≤ 161 →
  Calls Tryz.prog 43 #[.pointer (some ⟨zb, 0, none⟩), .pointer (some ⟨b, o, none⟩), .int .i64 (d : Int)] w fun e w' => e = .returned (.tuple #[]) ∧ Zed w' zb (addN z k d) ∧ Below zb w w' ∧ w'.heap.size = w.heap.size
def AddA (zb : Nat) : Fo → Prop
 | .nil => True
 | .cons _ k r => AddC zb k ∧ AddA zb r
theorem Zed.set {w : World} {b : Nat} {z : Nat × Nat} (h : Zed w b z) (d : Nat) : Zed (w.setCell ⟨b, 0, none⟩ (.int .i64 (d : Int))) b (d, z.2) := by
  obtain ⟨h1, h2, h3, h4, h5⟩ := h
  refine ⟨by simpa using h1, ?_, ?_, by rw [World.frozen?_setCell]; exact h4, by rw [World.frozen?_setCell]; exact h5⟩
  · rw [World.cell?_setCell_same _ _ _ (by rw [h2])]
  · rw [World.cell?_setCell_other _ _ _ _ (by intro e; have := congrArg Addr.off e; simp at this)]; exact h3
theorem Zed.set1 {w : World} {b : Nat} {z : Nat × Nat} (h : Zed w b z) (d : Nat) : Zed (w.setCell ⟨b, 1, none⟩ (.int .i64 (d : Int))) b (z.1, d) := by
  obtain ⟨h1, h2, h3, h4, h5⟩ := h
  refine ⟨by simpa using h1, ?_, ?_, by rw [World.frozen?_setCell]; exact h4, by rw [World.frozen?_setCell]; exact h5⟩
  · rw [World.cell?_setCell_other _ _ _ _ (by intro e; have := congrArg Addr.off e; simp at this)]; exact h2
  · rw [World.cell?_setCell_same _ _ _ (by rw [h3])]
theorem add_step (zb : Nat) (k : Fo) (hA : AddA zb k) : AddC zb k := by
  intro D hD h b o w z d hrow hz hz1 hz2 hd
  obtain ⟨a, n, cap, hc, hn, hDb, hk⟩ := row_kids hrow
  subst hn
  have HZ2 : Hid (Zed ((w.setCell ⟨zb, 0, none⟩ (.int .i64 ((max z.1 d : Nat) : Int))).setCell ⟨zb, 1, none⟩ (.int .i64 ((z.2 + 1 : Nat) : Int))) zb (max z.1 d, z.2 + 1)) := (hz.set (max z.1 d)).set1 (z.2 + 1)
  have hbz := hD b hDb
  have HB2 : Hid (Below zb w ((w.setCell ⟨zb, 0, none⟩ (.int .i64 ((max z.1 d : Nat) : Int))).setCell ⟨zb, 1, none⟩ (.int .i64 ((z.2 + 1 : Nat) : Int)))) := (((Below.refl zb w).setCell (p := ⟨zb, 0, none⟩) (Nat.le_refl _) _).setCell (p := ⟨zb, 1, none⟩) (Nat.le_refl _) _ : Below _ _ _)
  obtain ⟨g1, g2, g3, g4, g5⟩ := hz
  obtain ⟨z1, z2⟩ := z
  simp only at *
  have hmx : max (z1 : Int) (d : Int) = ((max z1 d : Nat) : Int) := by omega
  have hne : ¬ b = zb := by omega
  have HKi := hide hk
  have HA := hide hA
  have hm : max z1 d ≤ 161 := by omega
  have HM := hide hm
  have hdm : d ≤ max z1 d := Nat.le_max_right _ _
  have hg : addN (z1, z2) k d = addF (max z1 d, z2 + 1) k (d + 1) := rfl
  rw [hg]
  generalize max z1 d = m at *
  go_enter Tryz.func43, Tryz.ntmps43
  go_wp2
  go_loopw [28, 6] (fun u _ wr => ∃ (i : Nat) (F : Fo) (z : Nat × Nat), u = .int .i64 (i : Int) ∧ i + F.len = k.len ∧ (F = .nil ∨ ∃ b' o', a = some ⟨b', o', none⟩ ∧ k.len ≤ cap ∧ cap ≤ maxLen ∧ Row w D F b' (o' + i * 16)) ∧ AddA zb F ∧ Zed wr zb z ∧ Below zb w wr ∧ wr.heap.size = w.heap.size ∧ z.1 ≤ 161 ∧ z.2 ≤ 4097 ∧ d ≤ z.1 ∧ addF (m, z2 + 1) k (d + 1) = addF z F (d + 1)) (fun u _ _ => k.len - (intOf u).toNat)
  case atStart =>
    refine ⟨0, k, (m, z2 + 1), rfl, by omega, ?_, HA.out, HZ2.out, HB2.out, by simp, HM.out, by simp only; omega, hdm, rfl⟩
    rcases HKi.out with e | ⟨b', o', e1, e2, e3, e4⟩
    · exact .inl e
    · exact .inr ⟨b', o', e1, e2, e3, by simpa using e4⟩
  case round =>
    obtain ⟨i, F, z, rfl, hl, hF, hAF, hZ, hB, hsz, q1, q2, q3, hq⟩ := hrel
    have HQ := hide hq
    have HZ := hide hZ
    have HB := hide hB
    have hcb : wr.cell? ⟨b, o + 15, none⟩ = some (.slice a k.len cap) := by rw [hB.cell (p := ⟨b, o + 15, none⟩) hbz]; exact hc
    clear hq hB
    have HFi : Hid (∀ W : World, Zed W zb z → Calls Tryz.prog 44 #[.pointer (some ⟨zb, 0, none⟩)] W fun e w' => e = .returned (.bool (fitsZ z)) ∧ w' = W) := fun W hW => fits_any' zb z W hW
    match F, hl, hF, hAF, HQ with
    | .nil, hl, _, _, HQ =>
      have hli : ¬ (i : Int) < (k.len : Int) := by simp [Fo.len] at hl; omega
      go_wp2
      refine bodyPost_end (v := .tuple #[]) (by simp [results, Tryz.results43, go_sem]) rfl ⟨rfl, ?_, HB.out, hsz⟩
      rw [HQ.out]
      exact HZ.out
    | .cons h1 k1 r1, hl, hF, hAF, HQ =>
      have hli : (i : Int) < (k.len : Int) := by simp [Fo.len] at hl; omega
      have hl2 : i + 1 + r1.len = k.len := by simp [Fo.len] at hl; omega
      obtain ⟨b', o', rfl, hcap1, hcap2, hrw⟩ : ∃ b' o', a = some ⟨b', o', none⟩ ∧ k.len ≤ cap ∧ cap ≤ maxLen ∧ Row w D (.cons h1 k1 r1) b' (o' + i * 16) := by
        rcases hF with e | e
        · cases e
        · exact e
      have hrw' := hrw
      obtain ⟨p1, p2, p3⟩ := hrw
      have HR1 : Hid (Row wr D (.cons h1 k1 .nil) b' (o' + i * 16)) := row_to (fun c hc => ⟨hc, HB.out.block c (hD c hc)⟩) _ _ _ (show Row w D (.cons h1 k1 .nil) b' (o' + i * 16) from ⟨p1, p2, trivial⟩)
      have HR2 : Hid (Row w D r1 b' (o' + (i + 1) * 16)) := by rw [show o' + (i + 1) * 16 = o' + i * 16 + 16 by omega]; exact p3
      unfold maxLen at hcap2
      obtain ⟨hA1, hA2⟩ := hAF
      have HA2 := hide hA2
      have hwd : IntKind.i64.wrap ((d : Int) + 1) = ((d + 1 : Nat) : Int) := by rw [wrap_le (by omega) (by omega)]; omega
      clear p1 p2 p3 hrw' hF hl
      cases hf : fitsZ z with
      | false =>
        rw [hf] at HFi
        go_wp2_with (first | (go_at_call 44; refine (HFi.out _ HZ.out).mono ?_; rintro e wz ⟨rfl, hz⟩; subst wz))
        refine bodyPost_ret (v := .tuple #[]) (by simp [results, Tryz.results43, go_sem]) rfl ⟨rfl, ?_, HB.out, hsz⟩
        rw [HQ.out, addF_stop hf]
        exact HZ.out
      | true =>
        rw [hf] at HFi
        have hf2 := hf
        simp [fitsZ] at hf2
        have HC : Hid (∀ W : World, Row W D (.cons h1 k1 .nil) b' (o' + i * 16) → Zed W zb z → Calls Tryz.prog 43 #[.pointer (some ⟨zb, 0, none⟩), .pointer (some ⟨b', o' + i * 16, none⟩), .int .i64 ((d : Int) + 1)] W fun e w' => e = .returned (.tuple #[]) ∧ Zed w' zb (addN z k1 (d + 1)) ∧ Below zb W w' ∧ w'.heap.size = W.heap.size) := fun W hW hZW => by
          have := hA1 D hD h1 b' (o' + i * 16) W z (d + 1) hW hZW (by omega) (by omega) (by omega)
          simpa using this
        have HN : Hid (addF (m, z2 + 1) k (d + 1) = addF (addN z k1 (d + 1)) r1 (d + 1)) := by
          have := HQ.out
          rw [addF, if_pos hf] at this
          exact this
        have hbd := addF_bd k1 (max z.1 (d + 1), z.2 + 1) (d + 1 + 1) (by simp only; omega) (by simp only; omega) (by simp only; omega)
        have hge := addF_ge k1 (max z.1 (d + 1), z.2 + 1) (d + 1 + 1)
        have HBd : Hid ((addN z k1 (d + 1)).1 ≤ 161 ∧ (addN z k1 (d + 1)).2 ≤ 4097 ∧ d ≤ (addN z k1 (d + 1)).1) := ⟨hbd.1, hbd.2, by unfold addN; simp only at hge; omega⟩
        clear hA1 hf hbd hge HQ
        generalize addN z k1 (d + 1) = zn at *
        go_wp2_with (first | (go_at_call 44; refine (HFi.out _ HZ.out).mono ?_; rintro e wz ⟨rfl, hz⟩; subst wz) | (go_at_call 43; refine (HC.out _ HR1.out HZ.out).mono ?_; rintro e w2 ⟨rfl, hz2, hb2, hs2⟩; have HZ3 := hide hz2; have HB3 := hide hb2; clear hz2 hb2))
        go_roundw
        case rel => exact ⟨i + 1, r1, zn, by go_num, by omega, .inr ⟨b', o', rfl, hcap1, by unfold maxLen; exact hcap2, HR2.out⟩, HA2.out, HZ3.out, HB.out.trans HB3.out, by omega, HBd.out.1, HBd.out.2.1, HBd.out.2.2, HN.out⟩
        case measure => simp [intOf]; omega
theorem add_all (zb : Nat) : ∀ (F : Fo), AddA zb F
 | .nil => trivial
 | .cons _ k r => ⟨add_step zb k (add_all zb k), add_all zb r⟩
def top : Fo → Nat → Nat
 | .nil, _ => 0
 | .cons _ k r, d => max (max d (top k (d + 1))) (top r d)
theorem top_deep : ∀ (F : Fo) (d : Nat), max d (top F (d + 1)) = d + F.deep
 | .nil, d => by simp [top, Fo.deep]
 | .cons _ k r, d => by
  have h1 := top_deep k (d + 1)
  have h2 := top_deep r d
  rw [top, Fo.deep]
  omega
theorem addF_all : ∀ (F : Fo) (z : Nat × Nat) (d : Nat), z.1 ≤ 160 → top F d ≤ 160 → z.2 + F.many ≤ 4096 → addF z F d = (max z.1 (top F d), z.2 + F.many)
  | .nil, z, _, _, _, _ => by simp [addF, top, Fo.many]
  | .cons _ k r, z, d, h1, h2, h3 => by
    rw [top] at h2
    rw [Fo.many] at h3
    rw [addF, if_pos (by simp [fitsZ]; omega), addF_all k (max z.1 d, z.2 + 1) (d + 1) (by simp only; omega) (by omega) (by simp only; omega)]
    rw [addF_all r _ d (by simp only; omega) (by omega) (by simp only; omega), top, Fo.many]
    simp only
    refine Prod.ext ?_ ?_
    · simp only; omega
    · simp only; omega
theorem addF_over : ∀ (F : Fo) (z : Nat × Nat) (d : Nat), 160 < top F d → z.2 + F.many ≤ 4096 → 160 < (addF z F d).1
  | .nil, _, _, h, _ => by simp [top] at h
  | .cons _ k r, z, d, h, h3 => by
    by_cases hz : z.1 ≤ 160
    · rw [top] at h
      rw [Fo.many] at h3
      rw [addF, if_pos (by simp [fitsZ]; omega)]
      have g := addF_ge k (max z.1 d, z.2 + 1) (d + 1)
      have g2 := addF_ge r (addF (max z.1 d, z.2 + 1) k (d + 1)) d
      simp only at g
      by_cases hd : 160 < d
      · omega
      · by_cases hk : 160 < top k (d + 1)
        · have := addF_over k (max z.1 d, z.2 + 1) (d + 1) hk (by simp only; omega)
          omega
        · rw [addF_all k (max z.1 d, z.2 + 1) (d + 1) (by simp only; omega) (by omega) (by simp only; omega)]
          exact addF_over r _ d (by omega) (by simp only; omega)
    · have := addF_ge (.cons ‹_› k r) z d
      omega
theorem add_fits {k : Fo} (h : k.many + 1 ≤ 4096) (hd : k.deep + 1 ≤ 160) : addN (0, 0) k 1 = (k.deep + 1, k.many + 1) := by
  have ht := top_deep k 1
  unfold addN
  rw [addF_all k _ 2 (by simp) (by simp only [Nat.reduceAdd] at ht; omega) (by simp only; omega)]
  simp only [Nat.reduceAdd] at ht ⊢
  refine Prod.ext ?_ ?_
  · simp only; omega
  · simp only; omega
theorem add_over {k : Fo} (h : k.many + 1 ≤ 4096) (hd : 160 < k.deep + 1) : 160 < (addN (0, 0) k 1).1 := by
 have ht := top_deep k 1
 unfold addN
 exact addF_over k _ 2 (by simp only [Nat.reduceAdd] at ht; omega) (by simp only; omega)
theorem measure_any (D : Nat → Prop) (h : Hd) (k : Fo) (b o : Nat) (w : World) (hD : ∀ c, D c → c < w.heap.size) (hr : Row w D (.cons h k .nil) b o) (hm : k.many + 1 ≤ 4096) :
    Calls Tryz.prog 28 #[.pointer (some ⟨b, o, none⟩)] w fun e w' => e = .returned (.tuple #[.int .i64 ((if k.deep + 1 ≤ 160 then k.deep + 1 else 0 : Nat) : Int), .int .i64 ((if k.deep + 1 ≤ 160 then 0 else 6 : Nat) : Int)]) ∧ Below w.heap.size w w' := by
  have HA : Hid (∀ W : World, Row W D (.cons h k .nil) b o → Zed W w.heap.size (0, 0) → Calls Tryz.prog 43 #[.pointer (some ⟨w.heap.size, 0, none⟩), .pointer (some ⟨b, o, none⟩), .int .i64 1] W fun e w' => e = .returned (.tuple #[]) ∧ Zed w' w.heap.size (addN (0, 0) k 1) ∧ Below w.heap.size W w' ∧ w'.heap.size = W.heap.size) := fun W hW hZ => add_step w.heap.size k (add_all _ k) D hD h b o W (0, 0) 1 hW hZ (by simp) (by simp) (by omega)
  have HR : Hid (∀ o', Row (w.alloc o') D (.cons h k .nil) b o) := fun o' => row_to (fun c hc => ⟨hc, Below.heap_alloc _ _ _ (hD c hc)⟩) _ _ _ hr
  have HZ : Hid (Zed (w.alloc (.cells #[.int .i64 0, .int .i64 0] 98)) w.heap.size (0, 0)) := ⟨by simp, by simp [go_sem], by simp [go_sem], by simp [go_sem], by simp [go_sem]⟩
  have HFi : Hid (∀ W : World, ∀ z, Zed W w.heap.size z → Calls Tryz.prog 44 #[.pointer (some ⟨w.heap.size, 0, none⟩)] W fun e w' => e = .returned (.bool (fitsZ z)) ∧ w' = W) := fun W z hW => fits_any' _ z W hW
  by_cases hd : k.deep + 1 ≤ 160
  · rw [if_pos hd, if_pos hd]
    rw [add_fits hm hd] at HA
    have hfz : fitsZ (k.deep + 1, k.many + 1) = true := by simp [fitsZ]; omega
    have HF2 : Hid (∀ W : World, Zed W w.heap.size (k.deep + 1, k.many + 1) → Calls Tryz.prog 44 #[.pointer (some ⟨w.heap.size, 0, none⟩)] W fun e w' => e = .returned (.bool true) ∧ w' = W) := fun W hW => by
      have := HFi.out W _ hW
      rw [hfz] at this
      exact this
    clear hr hm HFi hfz
    generalize k.deep + 1 = dd at *
    generalize k.many + 1 = mm at *
    go_enter Tryz.func28, Tryz.ntmps28
    go_wp2_with (first | (go_at_call 43; refine (HA.out _ (HR.out _) HZ.out).mono ?_; rintro e w2 ⟨rfl, hz2, hb2, hs2⟩; have HZ2 := hide hz2; have HB2 := hide hb2; obtain ⟨y1, y2, y3, y4, y5⟩ := hz2; clear hb2) | (go_at_call 44; refine (HF2.out _ HZ2.out).mono ?_; rintro e wz ⟨rfl, hz⟩; subst wz))
    go_ret2
    exact ⟨rfl, ((Below.refl _ _).alloc (Nat.le_refl _) _).trans HB2.out⟩
  · rw [if_neg hd, if_neg hd]
    have ho := add_over hm (by omega : 160 < k.deep + 1)
    generalize addN (0, 0) k 1 = z at *
    have hfz : fitsZ z = false := by simp [fitsZ]; omega
    have HF2 : Hid (∀ W : World, Zed W w.heap.size z → Calls Tryz.prog 44 #[.pointer (some ⟨w.heap.size, 0, none⟩)] W fun e w' => e = .returned (.bool false) ∧ w' = W) := fun W hW => by
      have := HFi.out W _ hW
      rw [hfz] at this
      exact this
    obtain ⟨za, zc⟩ := z
    have hgt : (160 : Int) < (za : Int) := by simp only at ho; omega
    clear hr hm HFi hfz ho hd
    go_enter Tryz.func28, Tryz.ntmps28
    go_wp2_with (first | (go_at_call 43; refine (HA.out _ (HR.out _) HZ.out).mono ?_; rintro e w2 ⟨rfl, hz2, hb2, hs2⟩; have HZ2 := hide hz2; have HB2 := hide hb2; obtain ⟨y1, y2, y3, y4, y5⟩ := hz2; clear hb2) | (go_at_call 44; refine (HF2.out _ HZ2.out).mono ?_; rintro e wz ⟨rfl, hz⟩; subst wz))
    go_ret2
    exact ⟨rfl, ((Below.refl _ _).alloc (Nat.le_refl _) _).trans HB2.out⟩
theorem great_yes {c : UInt8} (h : 65 ≤ c.toNat ∧ c.toNat ≤ 90) : greatB c = true := by unfold greatB; simp; omega
theorem great_no {c : UInt8} (h : ¬ (65 ≤ c.toNat ∧ c.toNat ≤ 90)) : greatB c = false := by unfold greatB; simp; omega
theorem digit_yes {c : UInt8} (h : 48 ≤ c.toNat ∧ c.toNat ≤ 57) : digitB c = true := by unfold digitB; simp; omega
theorem digit_no {c : UInt8} (h : ¬ (48 ≤ c.toNat ∧ c.toNat ≤ 57)) : digitB c = false := by unfold digitB; simp; omega
theorem tgreat_any (c : UInt8) (w : World) : Calls Tryz.prog 109 #[.int .u8 (c.toNat : Int)] w fun e w' => e = .returned (.bool (greatB c)) ∧ w' = w := by
 have hu : c.toNat < 256 := UInt8.toNat_lt _
 by_cases a1 : (65 : Int) ≤ c.toNat <;> by_cases a2 : (c.toNat : Int) ≤ 90
 all_goals first | (exfalso; omega) | skip
 all_goals first | rw [great_yes (by omega)] | rw [great_no (by omega)]
 all_goals (go_enter Tryz.func109, Tryz.ntmps109; go_wp2; go_ret; exact ⟨rfl, rfl⟩)
theorem tdigit_any (c : UInt8) (w : World) : Calls Tryz.prog 110 #[.int .u8 (c.toNat : Int)] w fun e w' => e = .returned (.bool (digitB c)) ∧ w' = w := by
 have hu : c.toNat < 256 := UInt8.toNat_lt _
 by_cases a1 : (48 : Int) ≤ c.toNat <;> by_cases a2 : (c.toNat : Int) ≤ 57
 all_goals first | (exfalso; omega) | skip
 all_goals first | rw [digit_yes (by omega)] | rw [digit_no (by omega)]
 all_goals (go_enter Tryz.func110, Tryz.ntmps110; go_wp2; go_ret; exact ⟨rfl, rfl⟩)
theorem name_long {l : List UInt8} (h : 20 < l.length) : nameOk l = false := by
 unfold nameOk
 rw [show decide (l.length ≤ 20) = false by simp; omega]
 simp
theorem name_all {l : List UInt8} (h0 : l ≠ []) (h1 : l.length ≤ 20) (h2 : greatB (l.headD 0) = true) : nameOk l = l.all nameC := by
 unfold nameOk
 rw [h2, show decide (l.length ≤ 20) = true by simp; omega, show l.isEmpty = false by simpa using h0]
 simp
theorem all_take2 {l : List UInt8} {p : UInt8 → Bool} {i : Nat} (hi : i < l.length) (h : (l.take i).all p = true) (hc : p l[i] = true) : (l.take (i + 1)).all p = true := by
 rw [List.take_succ_eq_append_getElem hi, List.all_append, h]; simp [hc]
theorem all_no {l : List UInt8} {p : UInt8 → Bool} {i : Nat} (hi : i < l.length) (hc : p l[i] = false) : l.all p = false := by
 rw [List.all_eq_false]; exact ⟨l[i], List.getElem_mem hi, by simp [hc]⟩
theorem isName_any (s : ByteArray) (w : World) (hs : s.size ≤ maxLen) :
    Calls Tryz.prog 80 #[.string s] w fun e w' => e = .returned (.bool (nameOk s.data.toList)) ∧ Below w.heap.size w w' := by
  have hl : s.data.toList.length = s.size := by simp
  unfold maxLen at hs
  by_cases h0 : s.data.toList = []
  · have hs0 := str_of h0
    subst hs0
    rw [show nameOk ((⟨([] : List UInt8).toArray⟩ : ByteArray).data.toList) = false from rfl]
    have e0 : ((⟨#[]⟩ : ByteArray).toList == []) = true := by kernel_rfl
    go_enter Tryz.func80, Tryz.ntmps80
    go_wp2
    go_ret
    exact ⟨rfl, Below.refl _ _⟩
  have e0 : (s.toList == []) = false := by rw [toList_data]; simpa using h0
  by_cases h1 : 20 < s.size
  · have h1' : (20 : Int) < (s.size : Int) := by omega
    rw [name_long (by omega)]
    clear h0
    go_enter Tryz.func80, Tryz.ntmps80
    go_wp2
    go_ret
    exact ⟨rfl, Below.refl _ _⟩
  have h1' : ¬ (20 : Int) < (s.size : Int) := by omega
  have hp : 0 < s.size := by have := List.length_pos_iff.2 h0; omega
  have HG : Hid (∀ (c : UInt8) (W : World), Calls Tryz.prog 109 #[.int .u8 (c.toNat : Int)] W fun e w' => e = .returned (.bool (greatB c)) ∧ w' = W) := tgreat_any
  have hh : s.data.toList.headD 0 = s[0]'hp := by
    rw [List.headD_eq_head?_getD, List.head?_eq_getElem?, List.getElem?_eq_getElem (by omega)]
    rfl
  have HH := hide hh
  clear hh
  cases hg : greatB (s[0]'hp) with
  | false =>
    have HG0 : Hid (∀ (W : World), Calls Tryz.prog 109 #[.int .u8 ((s[0]'hp).toNat : Int)] W fun e w' => e = .returned (.bool false) ∧ w' = W) := fun W => by have := HG.out (s[0]'hp) W; rw [hg] at this; exact this
    have HN : Hid (nameOk s.data.toList = false) := by
      show nameOk s.data.toList = false
      unfold nameOk
      rw [HH.out, hg]
      simp
    clear hg h0
    go_enter Tryz.func80, Tryz.ntmps80
    go_wp2_with (first | (go_at_call 109; refine (HG0.out _).mono ?_; rintro e wz ⟨rfl, hz⟩; subst wz))
    go_ret
    exact ⟨by rw [HN.out]; rfl, Below.refl _ _⟩
  | true =>
    have HG0 : Hid (∀ (W : World), Calls Tryz.prog 109 #[.int .u8 ((s[0]'hp).toNat : Int)] W fun e w' => e = .returned (.bool true) ∧ w' = W) := fun W => by have := HG.out (s[0]'hp) W; rw [hg] at this; exact this
    have HN : Hid (nameOk s.data.toList = s.data.toList.all nameC) := name_all h0 (by omega) (by rw [HH.out]; exact hg)
    obtain ⟨cap, w1, hconv, hb1, hr1, hz1⟩ := bytes_conv s w
    have HB1 := hide hb1
    have HR1 := hide hr1
    have HLL := hide hl
    clear hg h0 hb1 hr1 hl
    go_enter Tryz.func80, Tryz.ntmps80
    go_wp2_with (first | (go_at_call 109; refine (HG0.out _).mono ?_; rintro e wz ⟨rfl, hz⟩; subst wz))
    go_loopw [21, 4] (fun u _ wr => ∃ i : Nat, u = .int .i64 (i : Int) ∧ i ≤ s.size ∧ wr = w1 ∧ (s.data.toList.take i).all nameC = true) (fun u _ _ => s.size - (intOf u).toNat)
    case atStart => exact ⟨0, rfl, by omega, rfl, rfl⟩
    case round =>
      obtain ⟨i, rfl, hi, rfl, hal⟩ := hrel
      by_cases hlt : i < s.size
      · have hlt' : (i : Int) < (s.size : Int) := by omega
        have hil : i < s.data.toList.length := by rw [HLL.out]; exact hlt
        have hcell := (HR1.out.2 i hil).1
        have HAl := hide hal
        have HC := hide (all_take2 (p := nameC) hil hal)
        have HNo := hide (all_no (p := nameC) hil)
        have HD : Hid (∀ (c : UInt8) (W : World), Calls Tryz.prog 110 #[.int .u8 (c.toNat : Int)] W fun e w' => e = .returned (.bool (digitB c)) ∧ w' = W) := tdigit_any
        have hcu : (s.data.toList[i]).toNat < 256 := UInt8.toNat_lt _
        have hnc : nameC (s.data.toList[i]) = (greatB s.data.toList[i] || digitB s.data.toList[i] || decide (s.data.toList[i].toNat = 46) || decide (s.data.toList[i].toNat = 95)) := rfl
        clear hal hconv
        generalize s.data.toList[i] = c at *
        have HG1 := HG.out c
        have HD1 := HD.out c
        generalize greatB c = bg at *
        generalize digitB c = bd at *
        have HG2 := hide HG1
        have HD2 := hide HD1
        have HNC := hide hnc
        clear HG1 HD1 hnc HG HD
        by_cases hok : bg = true ∨ bd = true ∨ c.toNat = 46 ∨ c.toNat = 95
        · have HOk : Hid ((s.data.toList.take (i + 1)).all nameC = true) := HC.out (by rw [HNC.out]; rcases hok with h | h | h | h <;> simp [h])
          rcases hok with rfl | hok
          · go_wp2_with (first | (go_at_call 109; refine (HG2.out _).mono ?_; rintro e wz ⟨rfl, hz⟩; subst wz) | (go_at_call 110; refine (HD2.out _).mono ?_; rintro e wz ⟨rfl, hz⟩; subst wz))
            go_roundw
            case rel => exact ⟨i + 1, by go_num, by omega, trivial, HOk.out⟩
            case measure => simp [intOf]; omega
          cases bg with
          | true =>
            go_wp2_with (first | (go_at_call 109; refine (HG2.out _).mono ?_; rintro e wz ⟨rfl, hz⟩; subst wz) | (go_at_call 110; refine (HD2.out _).mono ?_; rintro e wz ⟨rfl, hz⟩; subst wz))
            go_roundw
            case rel => exact ⟨i + 1, by go_num, by omega, trivial, HOk.out⟩
            case measure => simp [intOf]; omega
          | false =>
          cases bd with
          | true =>
            go_wp2_with (first | (go_at_call 109; refine (HG2.out _).mono ?_; rintro e wz ⟨rfl, hz⟩; subst wz) | (go_at_call 110; refine (HD2.out _).mono ?_; rintro e wz ⟨rfl, hz⟩; subst wz))
            go_roundw
            case rel => exact ⟨i + 1, by go_num, by omega, trivial, HOk.out⟩
            case measure => simp [intOf]; omega
          | false =>
          by_cases h46 : c.toNat = 46
          · have q1 : ((c.toNat : Int) != 46) = false := by simp [h46]
            clear hok h46
            go_wp2_with (first | (go_at_call 109; refine (HG2.out _).mono ?_; rintro e wz ⟨rfl, hz⟩; subst wz) | (go_at_call 110; refine (HD2.out _).mono ?_; rintro e wz ⟨rfl, hz⟩; subst wz))
            go_roundw
            case rel => exact ⟨i + 1, by go_num, by omega, trivial, HOk.out⟩
            case measure => simp [intOf]; omega
          · have q1 : ((c.toNat : Int) != 46) = true := by simp; omega
            have q2 : ((c.toNat : Int) != 95) = false := by
              rcases hok with h | h | h
              · cases h
              · exact absurd h h46
              · simp [h]
            clear hok h46
            go_wp2_with (first | (go_at_call 109; refine (HG2.out _).mono ?_; rintro e wz ⟨rfl, hz⟩; subst wz) | (go_at_call 110; refine (HD2.out _).mono ?_; rintro e wz ⟨rfl, hz⟩; subst wz))
            go_roundw
            case rel => exact ⟨i + 1, by go_num, by omega, trivial, HOk.out⟩
            case measure => simp [intOf]; omega
        · have hb1 : bg = false := by cases bg with
            | true => exact absurd (Or.inl rfl) hok
            | false => rfl
          have hb2 : bd = false := by cases bd with
            | true => exact absurd (Or.inr (Or.inl rfl)) hok
            | false => rfl
          have h46 : c.toNat ≠ 46 := fun e => hok (Or.inr (Or.inr (Or.inl e)))
          have h95 : c.toNat ≠ 95 := fun e => hok (Or.inr (Or.inr (Or.inr e)))
          subst hb1 hb2
          have HF : Hid (s.data.toList.all nameC = false) := HNo.out (by rw [HNC.out]; simp [h46, h95])
          have q1 : ((c.toNat : Int) != 46) = true := by simp; omega
          have q2 : ((c.toNat : Int) != 95) = true := by simp; omega
          clear hok h46 h95
          go_wp2_with (first | (go_at_call 109; refine (HG2.out _).mono ?_; rintro e wz ⟨rfl, hz⟩; subst wz) | (go_at_call 110; refine (HD2.out _).mono ?_; rintro e wz ⟨rfl, hz⟩; subst wz))
          go_ret
          exact ⟨by rw [HN.out, HF.out]; rfl, HB1.out⟩
      · have hlt' : ¬ (i : Int) < (s.size : Int) := by omega
        have HF : Hid (s.data.toList.all nameC = true) := by
          show s.data.toList.all nameC = true
          rw [List.take_of_length_le (by rw [HLL.out]; omega)] at hal
          exact hal
        clear hal
        go_wp2
        go_ret
        exact ⟨by rw [HN.out, HF.out]; rfl, HB1.out⟩
theorem isCell_any (r c : Int) (x y : Bool) (w : World) :
    Calls Tryz.prog 79 #[.agg #[.int .i64 r, .int .i64 c, .bool x, .bool y]] w fun e w' => e = .returned (.bool (Pla.placeB r c)) ∧ Below w.heap.size w w' := by
  have HO : Hid (∀ W : World, Calls Tryz.prog 108 #[.agg #[.int .i64 r, .int .i64 c], .agg #[.int .i64 r, .int .i64 c]] W fun e w' => e = .returned (.tuple #[.agg #[.int .i64 (Pla.ofR r c r c).1, .int .i64 (Pla.ofR r c r c).2.1, .int .i64 (Pla.ofR r c r c).2.2.1, .int .i64 (Pla.ofR r c r c).2.2.2.1], .int .i64 (Pla.ofR r c r c).2.2.2.2]) ∧ Below W.heap.size W w') := fun W => Pla.of_any r c r c W
  have hE : ((Pla.ofR r c r c).2.2.2.2 == 0) = Pla.placeB r c := by
    unfold Pla.ofR
    cases Pla.placeB r c <;> rfl
  have HE := hide hE
  clear hE
  generalize Pla.ofR r c r c = q at *
  obtain ⟨q1, q2, q3, q4, q5⟩ := q
  simp only at *
  go_enter Tryz.func79, Tryz.ntmps79
  go_wp2_with (first | (go_at_call 108; refine (HO.out _).mono ?_; rintro e w1 ⟨rfl, hb1⟩; obtain ⟨c1, f1⟩ := bcell hb1))
  go_ret
  refine ⟨?_, ?_⟩
  · rw [← HE.out]; rfl
  · repeat' (first | with_reducible (first | exact Below.refl _ _ | refine Below.setCell ?_ ?_ _ | refine Below.alloc ?_ ?_ _ | refine below_drewN ?_ _ | refine Below.drew ?_ | refine Below.trans ?_ (Below.mono (by assumption) ?_) | exact Nat.le_refl _ | refine Nat.le_trans ?_ (Below.size (by assumption)) | refine zzA ?_ | refine zzB ?_ | refine zzC ?_ | refine zzD ?_) | (simp; done) | (simp; omega) | omega)
theorem isConstant_any (h : Hd) (w : World) (hs : h.vs.length ≤ maxLen) :
    Calls Tryz.prog 78 #[.agg #[.int .i64 h.vk, .int .i64 h.vn, .string ⟨h.vs.toArray⟩, .bool h.vb, .int .i64 h.vc]] w fun e w' => e = .returned (.bool (constB h)) ∧ Below w.heap.size w w' := by
  obtain ⟨hk, vk, vn, vs, vb, vc, row, col, fr, fc, row2, col2, fr2, fc2, txt⟩ := h
  simp only at *
  have HC : Hid (∀ W : World, Calls Tryz.prog 107 #[.agg #[.int .i64 vk, .int .i64 vn, .string ⟨vs.toArray⟩, .bool vb, .int .i64 vc]] W fun e w' => e = .returned (.int .i64 (checkV vk vn ⟨vs.toArray⟩ vb vc)) ∧ Below W.heap.size W w') := fun W => checkV_any vk vn ⟨vs.toArray⟩ vb vc W (by show vs.toArray.size ≤ _; simpa using hs)
  have hB : constB ⟨hk, vk, vn, vs, vb, vc, row, col, fr, fc, row2, col2, fr2, fc2, txt⟩ = (rightB vk vn ⟨vs.toArray⟩ vb vc && decide (vk ≠ 0) && decide (0 ≤ vn)) := rfl
  rw [hB]
  unfold checkV at HC
  clear hB hs
  generalize (⟨vs.toArray⟩ : ByteArray) = S at *
  cases hr : rightB vk vn S vb vc with
  | false =>
    rw [hr] at HC
    have HC2 : Hid (∀ W : World, Calls Tryz.prog 107 #[.agg #[.int .i64 vk, .int .i64 vn, .string S, .bool vb, .int .i64 vc]] W fun e w' => e = .returned (.int .i64 2) ∧ Below W.heap.size W w') := HC
    clear HC hr
    go_enter Tryz.func78, Tryz.ntmps78
    go_wp2_with (first | (go_at_call 107; refine (HC2.out _).mono ?_; rintro e w1 ⟨rfl, hb1⟩; obtain ⟨c1, f1⟩ := bcell hb1))
    go_ret
    exact ⟨by simp, by repeat' (first | with_reducible (first | exact Below.refl _ _ | refine Below.setCell ?_ ?_ _ | refine Below.alloc ?_ ?_ _ | refine below_drewN ?_ _ | refine Below.drew ?_ | refine Below.trans ?_ (Below.mono (by assumption) ?_) | exact Nat.le_refl _ | refine Nat.le_trans ?_ (Below.size (by assumption)) | refine zzA ?_ | refine zzB ?_ | refine zzC ?_ | refine zzD ?_) | (simp; done) | (simp; omega) | omega)⟩
  | true =>
    rw [hr] at HC
    have HC2 : Hid (∀ W : World, Calls Tryz.prog 107 #[.agg #[.int .i64 vk, .int .i64 vn, .string S, .bool vb, .int .i64 vc]] W fun e w' => e = .returned (.int .i64 0) ∧ Below W.heap.size W w') := HC
    clear HC hr
    by_cases hk0 : vk = 0
    · have q : (vk != 0) = false := by simp [hk0]
      rw [show decide (vk ≠ 0) = false by simp [hk0]]
      clear hk0
      go_enter Tryz.func78, Tryz.ntmps78
      go_wp2_with (first | (go_at_call 107; refine (HC2.out _).mono ?_; rintro e w1 ⟨rfl, hb1⟩; obtain ⟨c1, f1⟩ := bcell hb1))
      go_ret
      exact ⟨by simp, by repeat' (first | with_reducible (first | exact Below.refl _ _ | refine Below.setCell ?_ ?_ _ | refine Below.alloc ?_ ?_ _ | refine below_drewN ?_ _ | refine Below.drew ?_ | refine Below.trans ?_ (Below.mono (by assumption) ?_) | exact Nat.le_refl _ | refine Nat.le_trans ?_ (Below.size (by assumption)) | refine zzA ?_ | refine zzB ?_ | refine zzC ?_ | refine zzD ?_) | (simp; done) | (simp; omega) | omega)⟩
    · have q : (vk != 0) = true := by simp [hk0]
      rw [show decide (vk ≠ 0) = true by simp [hk0]]
      clear hk0
      go_enter Tryz.func78, Tryz.ntmps78
      go_wp2_with (first | (go_at_call 107; refine (HC2.out _).mono ?_; rintro e w1 ⟨rfl, hb1⟩; obtain ⟨c1, f1⟩ := bcell hb1))
      go_ret
      exact ⟨by simp, by repeat' (first | with_reducible (first | exact Below.refl _ _ | refine Below.setCell ?_ ?_ _ | refine Below.alloc ?_ ?_ _ | refine below_drewN ?_ _ | refine Below.drew ?_ | refine Below.trans ?_ (Below.mono (by assumption) ?_) | exact Nat.le_refl _ | refine Nat.le_trans ?_ (Below.size (by assumption)) | refine zzA ?_ | refine zzB ?_ | refine zzC ?_ | refine zzD ?_) | (simp; done) | (simp; omega) | omega)⟩
def emptyB (h : Hd) (n : Nat) : Bool := noVal h && noCell h && noTo h && h.txt.isEmpty && decide (n = 0)
theorem Box.cell {w : World} {b : Nat} {h : Hd} {v : Value} (k : Box w b (hdC h v)) (j : Nat) (u : Value) (hu : (hdC h v)[j]? = some u) : w.cell? ⟨b, j, none⟩ = some u := by
 rw [cell_of_row w b j _ _ _ k]; simpa using hu
theorem empty_vk (kind : Int) (vk : Int) (vn : Int) (vs : List UInt8) (vb : Bool) (vc : Int) (row : Int) (col : Int) (fr : Bool) (fc : Bool) (row2 : Int) (col2 : Int) (fr2 : Bool) (fc2 : Bool) (txt : List UInt8) (q : (vk == 0) = false) (a : Option Addr) (n cap : Nat) (w : World) :
  Calls Tryz.prog 81 #[.agg (hdC ⟨kind, vk, vn, vs, vb, vc, row, col, fr, fc, row2, col2, fr2, fc2, txt⟩ (.slice a n cap)).toArray] w fun e w' => e = .returned (.bool false) ∧ Below w.heap.size w w' := by
 have B0 := (Box.new w (hdC ⟨kind, vk, vn, vs, vb, vc, row, col, fr, fc, row2, col2, fr2, fc2, txt⟩ (.slice a n cap)))
 have d1 := B0.cell 1 (.int .i64 vk) rfl
 have d2 := B0.cell 2 (.int .i64 vn) rfl
 have d3 := B0.cell 3 (.string ⟨(vs : List UInt8).toArray⟩) rfl
 have d4 := B0.cell 4 (.bool vb) rfl
 have d5 := B0.cell 5 (.int .i64 vc) rfl
 have d6 := B0.cell 6 (.int .i64 row) rfl
 have d7 := B0.cell 7 (.int .i64 col) rfl
 have d8 := B0.cell 8 (.bool fr) rfl
 have d9 := B0.cell 9 (.bool fc) rfl
 have d10 := B0.cell 10 (.int .i64 row2) rfl
 have d11 := B0.cell 11 (.int .i64 col2) rfl
 have d12 := B0.cell 12 (.bool fr2) rfl
 have d13 := B0.cell 13 (.bool fc2) rfl
 have d14 := B0.cell 14 (.string ⟨(txt : List UInt8).toArray⟩) rfl
 have d15 := B0.cell 15 (.slice a n cap) rfl
 clear B0
 go_enter Tryz.func81, Tryz.ntmps81
 go_wp2
 go_ret
 exact ⟨rfl, (Below.refl _ _).alloc (Nat.le_refl _) _⟩
theorem empty_vn (kind : Int) (vn : Int) (vs : List UInt8) (vb : Bool) (vc : Int) (row : Int) (col : Int) (fr : Bool) (fc : Bool) (row2 : Int) (col2 : Int) (fr2 : Bool) (fc2 : Bool) (txt : List UInt8) (q : (vn == 0) = false) (a : Option Addr) (n cap : Nat) (w : World) :
  Calls Tryz.prog 81 #[.agg (hdC ⟨kind, 0, vn, vs, vb, vc, row, col, fr, fc, row2, col2, fr2, fc2, txt⟩ (.slice a n cap)).toArray] w fun e w' => e = .returned (.bool false) ∧ Below w.heap.size w w' := by
 have B0 := (Box.new w (hdC ⟨kind, 0, vn, vs, vb, vc, row, col, fr, fc, row2, col2, fr2, fc2, txt⟩ (.slice a n cap)))
 have d1 := B0.cell 1 (.int .i64 0) rfl
 have d2 := B0.cell 2 (.int .i64 vn) rfl
 have d3 := B0.cell 3 (.string ⟨(vs : List UInt8).toArray⟩) rfl
 have d4 := B0.cell 4 (.bool vb) rfl
 have d5 := B0.cell 5 (.int .i64 vc) rfl
 have d6 := B0.cell 6 (.int .i64 row) rfl
 have d7 := B0.cell 7 (.int .i64 col) rfl
 have d8 := B0.cell 8 (.bool fr) rfl
 have d9 := B0.cell 9 (.bool fc) rfl
 have d10 := B0.cell 10 (.int .i64 row2) rfl
 have d11 := B0.cell 11 (.int .i64 col2) rfl
 have d12 := B0.cell 12 (.bool fr2) rfl
 have d13 := B0.cell 13 (.bool fc2) rfl
 have d14 := B0.cell 14 (.string ⟨(txt : List UInt8).toArray⟩) rfl
 have d15 := B0.cell 15 (.slice a n cap) rfl
 clear B0
 go_enter Tryz.func81, Tryz.ntmps81
 go_wp2
 go_ret
 exact ⟨rfl, (Below.refl _ _).alloc (Nat.le_refl _) _⟩
theorem empty_vs (kind : Int) (vs : List UInt8) (vb : Bool) (vc : Int) (row : Int) (col : Int) (fr : Bool) (fc : Bool) (row2 : Int) (col2 : Int) (fr2 : Bool) (fc2 : Bool) (txt : List UInt8) (q : (vs == []) = false) (a : Option Addr) (n cap : Nat) (w : World) :
  Calls Tryz.prog 81 #[.agg (hdC ⟨kind, 0, 0, vs, vb, vc, row, col, fr, fc, row2, col2, fr2, fc2, txt⟩ (.slice a n cap)).toArray] w fun e w' => e = .returned (.bool false) ∧ Below w.heap.size w w' := by
 have B0 := (Box.new w (hdC ⟨kind, 0, 0, vs, vb, vc, row, col, fr, fc, row2, col2, fr2, fc2, txt⟩ (.slice a n cap)))
 have d1 := B0.cell 1 (.int .i64 0) rfl
 have d2 := B0.cell 2 (.int .i64 0) rfl
 have d3 := B0.cell 3 (.string ⟨(vs : List UInt8).toArray⟩) rfl
 have d4 := B0.cell 4 (.bool vb) rfl
 have d5 := B0.cell 5 (.int .i64 vc) rfl
 have d6 := B0.cell 6 (.int .i64 row) rfl
 have d7 := B0.cell 7 (.int .i64 col) rfl
 have d8 := B0.cell 8 (.bool fr) rfl
 have d9 := B0.cell 9 (.bool fc) rfl
 have d10 := B0.cell 10 (.int .i64 row2) rfl
 have d11 := B0.cell 11 (.int .i64 col2) rfl
 have d12 := B0.cell 12 (.bool fr2) rfl
 have d13 := B0.cell 13 (.bool fc2) rfl
 have d14 := B0.cell 14 (.string ⟨(txt : List UInt8).toArray⟩) rfl
 have d15 := B0.cell 15 (.slice a n cap) rfl
 clear B0
 go_enter Tryz.func81, Tryz.ntmps81
 go_wp2
 go_ret
 exact ⟨rfl, (Below.refl _ _).alloc (Nat.le_refl _) _⟩
theorem empty_vb (kind : Int) (vc : Int) (row : Int) (col : Int) (fr : Bool) (fc : Bool) (row2 : Int) (col2 : Int) (fr2 : Bool) (fc2 : Bool) (txt : List UInt8) (a : Option Addr) (n cap : Nat) (w : World) :
  Calls Tryz.prog 81 #[.agg (hdC ⟨kind, 0, 0, [], true, vc, row, col, fr, fc, row2, col2, fr2, fc2, txt⟩ (.slice a n cap)).toArray] w fun e w' => e = .returned (.bool false) ∧ Below w.heap.size w w' := by
 have B0 := (Box.new w (hdC ⟨kind, 0, 0, [], true, vc, row, col, fr, fc, row2, col2, fr2, fc2, txt⟩ (.slice a n cap)))
 have d1 := B0.cell 1 (.int .i64 0) rfl
 have d2 := B0.cell 2 (.int .i64 0) rfl
 have d3 := B0.cell 3 (.string ⟨([] : List UInt8).toArray⟩) rfl
 have d4 := B0.cell 4 (.bool true) rfl
 have d5 := B0.cell 5 (.int .i64 vc) rfl
 have d6 := B0.cell 6 (.int .i64 row) rfl
 have d7 := B0.cell 7 (.int .i64 col) rfl
 have d8 := B0.cell 8 (.bool fr) rfl
 have d9 := B0.cell 9 (.bool fc) rfl
 have d10 := B0.cell 10 (.int .i64 row2) rfl
 have d11 := B0.cell 11 (.int .i64 col2) rfl
 have d12 := B0.cell 12 (.bool fr2) rfl
 have d13 := B0.cell 13 (.bool fc2) rfl
 have d14 := B0.cell 14 (.string ⟨(txt : List UInt8).toArray⟩) rfl
 have d15 := B0.cell 15 (.slice a n cap) rfl
 clear B0
 go_enter Tryz.func81, Tryz.ntmps81
 go_wp2
 go_ret
 exact ⟨rfl, (Below.refl _ _).alloc (Nat.le_refl _) _⟩
theorem empty_vc (kind : Int) (vc : Int) (row : Int) (col : Int) (fr : Bool) (fc : Bool) (row2 : Int) (col2 : Int) (fr2 : Bool) (fc2 : Bool) (txt : List UInt8) (q : (vc == 0) = false) (a : Option Addr) (n cap : Nat) (w : World) :
  Calls Tryz.prog 81 #[.agg (hdC ⟨kind, 0, 0, [], false, vc, row, col, fr, fc, row2, col2, fr2, fc2, txt⟩ (.slice a n cap)).toArray] w fun e w' => e = .returned (.bool false) ∧ Below w.heap.size w w' := by
 have B0 := (Box.new w (hdC ⟨kind, 0, 0, [], false, vc, row, col, fr, fc, row2, col2, fr2, fc2, txt⟩ (.slice a n cap)))
 have d1 := B0.cell 1 (.int .i64 0) rfl
 have d2 := B0.cell 2 (.int .i64 0) rfl
 have d3 := B0.cell 3 (.string ⟨([] : List UInt8).toArray⟩) rfl
 have d4 := B0.cell 4 (.bool false) rfl
 have d5 := B0.cell 5 (.int .i64 vc) rfl
 have d6 := B0.cell 6 (.int .i64 row) rfl
 have d7 := B0.cell 7 (.int .i64 col) rfl
 have d8 := B0.cell 8 (.bool fr) rfl
 have d9 := B0.cell 9 (.bool fc) rfl
 have d10 := B0.cell 10 (.int .i64 row2) rfl
 have d11 := B0.cell 11 (.int .i64 col2) rfl
 have d12 := B0.cell 12 (.bool fr2) rfl
 have d13 := B0.cell 13 (.bool fc2) rfl
 have d14 := B0.cell 14 (.string ⟨(txt : List UInt8).toArray⟩) rfl
 have d15 := B0.cell 15 (.slice a n cap) rfl
 clear B0
 go_enter Tryz.func81, Tryz.ntmps81
 go_wp2
 go_ret
 exact ⟨rfl, (Below.refl _ _).alloc (Nat.le_refl _) _⟩
theorem empty_row (kind : Int) (row : Int) (col : Int) (fr : Bool) (fc : Bool) (row2 : Int) (col2 : Int) (fr2 : Bool) (fc2 : Bool) (txt : List UInt8) (q : (row == 0) = false) (a : Option Addr) (n cap : Nat) (w : World) :
  Calls Tryz.prog 81 #[.agg (hdC ⟨kind, 0, 0, [], false, 0, row, col, fr, fc, row2, col2, fr2, fc2, txt⟩ (.slice a n cap)).toArray] w fun e w' => e = .returned (.bool false) ∧ Below w.heap.size w w' := by
 have B0 := (Box.new w (hdC ⟨kind, 0, 0, [], false, 0, row, col, fr, fc, row2, col2, fr2, fc2, txt⟩ (.slice a n cap)))
 have d1 := B0.cell 1 (.int .i64 0) rfl
 have d2 := B0.cell 2 (.int .i64 0) rfl
 have d3 := B0.cell 3 (.string ⟨([] : List UInt8).toArray⟩) rfl
 have d4 := B0.cell 4 (.bool false) rfl
 have d5 := B0.cell 5 (.int .i64 0) rfl
 have d6 := B0.cell 6 (.int .i64 row) rfl
 have d7 := B0.cell 7 (.int .i64 col) rfl
 have d8 := B0.cell 8 (.bool fr) rfl
 have d9 := B0.cell 9 (.bool fc) rfl
 have d10 := B0.cell 10 (.int .i64 row2) rfl
 have d11 := B0.cell 11 (.int .i64 col2) rfl
 have d12 := B0.cell 12 (.bool fr2) rfl
 have d13 := B0.cell 13 (.bool fc2) rfl
 have d14 := B0.cell 14 (.string ⟨(txt : List UInt8).toArray⟩) rfl
 have d15 := B0.cell 15 (.slice a n cap) rfl
 clear B0
 go_enter Tryz.func81, Tryz.ntmps81
 go_wp2
 go_ret
 exact ⟨rfl, (Below.refl _ _).alloc (Nat.le_refl _) _⟩
theorem empty_col (kind : Int) (col : Int) (fr : Bool) (fc : Bool) (row2 : Int) (col2 : Int) (fr2 : Bool) (fc2 : Bool) (txt : List UInt8) (q : (col == 0) = false) (a : Option Addr) (n cap : Nat) (w : World) :
  Calls Tryz.prog 81 #[.agg (hdC ⟨kind, 0, 0, [], false, 0, 0, col, fr, fc, row2, col2, fr2, fc2, txt⟩ (.slice a n cap)).toArray] w fun e w' => e = .returned (.bool false) ∧ Below w.heap.size w w' := by
 have B0 := (Box.new w (hdC ⟨kind, 0, 0, [], false, 0, 0, col, fr, fc, row2, col2, fr2, fc2, txt⟩ (.slice a n cap)))
 have d1 := B0.cell 1 (.int .i64 0) rfl
 have d2 := B0.cell 2 (.int .i64 0) rfl
 have d3 := B0.cell 3 (.string ⟨([] : List UInt8).toArray⟩) rfl
 have d4 := B0.cell 4 (.bool false) rfl
 have d5 := B0.cell 5 (.int .i64 0) rfl
 have d6 := B0.cell 6 (.int .i64 0) rfl
 have d7 := B0.cell 7 (.int .i64 col) rfl
 have d8 := B0.cell 8 (.bool fr) rfl
 have d9 := B0.cell 9 (.bool fc) rfl
 have d10 := B0.cell 10 (.int .i64 row2) rfl
 have d11 := B0.cell 11 (.int .i64 col2) rfl
 have d12 := B0.cell 12 (.bool fr2) rfl
 have d13 := B0.cell 13 (.bool fc2) rfl
 have d14 := B0.cell 14 (.string ⟨(txt : List UInt8).toArray⟩) rfl
 have d15 := B0.cell 15 (.slice a n cap) rfl
 clear B0
 go_enter Tryz.func81, Tryz.ntmps81
 go_wp2
 go_ret
 exact ⟨rfl, (Below.refl _ _).alloc (Nat.le_refl _) _⟩
theorem empty_fr (kind : Int) (fc : Bool) (row2 : Int) (col2 : Int) (fr2 : Bool) (fc2 : Bool) (txt : List UInt8) (a : Option Addr) (n cap : Nat) (w : World) :
  Calls Tryz.prog 81 #[.agg (hdC ⟨kind, 0, 0, [], false, 0, 0, 0, true, fc, row2, col2, fr2, fc2, txt⟩ (.slice a n cap)).toArray] w fun e w' => e = .returned (.bool false) ∧ Below w.heap.size w w' := by
 have B0 := (Box.new w (hdC ⟨kind, 0, 0, [], false, 0, 0, 0, true, fc, row2, col2, fr2, fc2, txt⟩ (.slice a n cap)))
 have d1 := B0.cell 1 (.int .i64 0) rfl
 have d2 := B0.cell 2 (.int .i64 0) rfl
 have d3 := B0.cell 3 (.string ⟨([] : List UInt8).toArray⟩) rfl
 have d4 := B0.cell 4 (.bool false) rfl
 have d5 := B0.cell 5 (.int .i64 0) rfl
 have d6 := B0.cell 6 (.int .i64 0) rfl
 have d7 := B0.cell 7 (.int .i64 0) rfl
 have d8 := B0.cell 8 (.bool true) rfl
 have d9 := B0.cell 9 (.bool fc) rfl
 have d10 := B0.cell 10 (.int .i64 row2) rfl
 have d11 := B0.cell 11 (.int .i64 col2) rfl
 have d12 := B0.cell 12 (.bool fr2) rfl
 have d13 := B0.cell 13 (.bool fc2) rfl
 have d14 := B0.cell 14 (.string ⟨(txt : List UInt8).toArray⟩) rfl
 have d15 := B0.cell 15 (.slice a n cap) rfl
 clear B0
 go_enter Tryz.func81, Tryz.ntmps81
 go_wp2
 go_ret
 exact ⟨rfl, (Below.refl _ _).alloc (Nat.le_refl _) _⟩
theorem empty_fc (kind : Int) (row2 : Int) (col2 : Int) (fr2 : Bool) (fc2 : Bool) (txt : List UInt8) (a : Option Addr) (n cap : Nat) (w : World) :
  Calls Tryz.prog 81 #[.agg (hdC ⟨kind, 0, 0, [], false, 0, 0, 0, false, true, row2, col2, fr2, fc2, txt⟩ (.slice a n cap)).toArray] w fun e w' => e = .returned (.bool false) ∧ Below w.heap.size w w' := by
 have B0 := (Box.new w (hdC ⟨kind, 0, 0, [], false, 0, 0, 0, false, true, row2, col2, fr2, fc2, txt⟩ (.slice a n cap)))
 have d1 := B0.cell 1 (.int .i64 0) rfl
 have d2 := B0.cell 2 (.int .i64 0) rfl
 have d3 := B0.cell 3 (.string ⟨([] : List UInt8).toArray⟩) rfl
 have d4 := B0.cell 4 (.bool false) rfl
 have d5 := B0.cell 5 (.int .i64 0) rfl
 have d6 := B0.cell 6 (.int .i64 0) rfl
 have d7 := B0.cell 7 (.int .i64 0) rfl
 have d8 := B0.cell 8 (.bool false) rfl
 have d9 := B0.cell 9 (.bool true) rfl
 have d10 := B0.cell 10 (.int .i64 row2) rfl
 have d11 := B0.cell 11 (.int .i64 col2) rfl
 have d12 := B0.cell 12 (.bool fr2) rfl
 have d13 := B0.cell 13 (.bool fc2) rfl
 have d14 := B0.cell 14 (.string ⟨(txt : List UInt8).toArray⟩) rfl
 have d15 := B0.cell 15 (.slice a n cap) rfl
 clear B0
 go_enter Tryz.func81, Tryz.ntmps81
 go_wp2
 go_ret
 exact ⟨rfl, (Below.refl _ _).alloc (Nat.le_refl _) _⟩
theorem empty_row2 (kind : Int) (row2 : Int) (col2 : Int) (fr2 : Bool) (fc2 : Bool) (txt : List UInt8) (q : (row2 == 0) = false) (a : Option Addr) (n cap : Nat) (w : World) :
  Calls Tryz.prog 81 #[.agg (hdC ⟨kind, 0, 0, [], false, 0, 0, 0, false, false, row2, col2, fr2, fc2, txt⟩ (.slice a n cap)).toArray] w fun e w' => e = .returned (.bool false) ∧ Below w.heap.size w w' := by
 have B0 := (Box.new w (hdC ⟨kind, 0, 0, [], false, 0, 0, 0, false, false, row2, col2, fr2, fc2, txt⟩ (.slice a n cap)))
 have d1 := B0.cell 1 (.int .i64 0) rfl
 have d2 := B0.cell 2 (.int .i64 0) rfl
 have d3 := B0.cell 3 (.string ⟨([] : List UInt8).toArray⟩) rfl
 have d4 := B0.cell 4 (.bool false) rfl
 have d5 := B0.cell 5 (.int .i64 0) rfl
 have d6 := B0.cell 6 (.int .i64 0) rfl
 have d7 := B0.cell 7 (.int .i64 0) rfl
 have d8 := B0.cell 8 (.bool false) rfl
 have d9 := B0.cell 9 (.bool false) rfl
 have d10 := B0.cell 10 (.int .i64 row2) rfl
 have d11 := B0.cell 11 (.int .i64 col2) rfl
 have d12 := B0.cell 12 (.bool fr2) rfl
 have d13 := B0.cell 13 (.bool fc2) rfl
 have d14 := B0.cell 14 (.string ⟨(txt : List UInt8).toArray⟩) rfl
 have d15 := B0.cell 15 (.slice a n cap) rfl
 clear B0
 go_enter Tryz.func81, Tryz.ntmps81
 go_wp2
 go_ret
 exact ⟨rfl, (Below.refl _ _).alloc (Nat.le_refl _) _⟩
theorem empty_col2 (kind : Int) (col2 : Int) (fr2 : Bool) (fc2 : Bool) (txt : List UInt8) (q : (col2 == 0) = false) (a : Option Addr) (n cap : Nat) (w : World) :
  Calls Tryz.prog 81 #[.agg (hdC ⟨kind, 0, 0, [], false, 0, 0, 0, false, false, 0, col2, fr2, fc2, txt⟩ (.slice a n cap)).toArray] w fun e w' => e = .returned (.bool false) ∧ Below w.heap.size w w' := by
 have B0 := (Box.new w (hdC ⟨kind, 0, 0, [], false, 0, 0, 0, false, false, 0, col2, fr2, fc2, txt⟩ (.slice a n cap)))
 have d1 := B0.cell 1 (.int .i64 0) rfl
 have d2 := B0.cell 2 (.int .i64 0) rfl
 have d3 := B0.cell 3 (.string ⟨([] : List UInt8).toArray⟩) rfl
 have d4 := B0.cell 4 (.bool false) rfl
 have d5 := B0.cell 5 (.int .i64 0) rfl
 have d6 := B0.cell 6 (.int .i64 0) rfl
 have d7 := B0.cell 7 (.int .i64 0) rfl
 have d8 := B0.cell 8 (.bool false) rfl
 have d9 := B0.cell 9 (.bool false) rfl
 have d10 := B0.cell 10 (.int .i64 0) rfl
 have d11 := B0.cell 11 (.int .i64 col2) rfl
 have d12 := B0.cell 12 (.bool fr2) rfl
 have d13 := B0.cell 13 (.bool fc2) rfl
 have d14 := B0.cell 14 (.string ⟨(txt : List UInt8).toArray⟩) rfl
 have d15 := B0.cell 15 (.slice a n cap) rfl
 clear B0
 go_enter Tryz.func81, Tryz.ntmps81
 go_wp2
 go_ret
 exact ⟨rfl, (Below.refl _ _).alloc (Nat.le_refl _) _⟩
theorem empty_fr2 (kind : Int) (fc2 : Bool) (txt : List UInt8) (a : Option Addr) (n cap : Nat) (w : World) :
  Calls Tryz.prog 81 #[.agg (hdC ⟨kind, 0, 0, [], false, 0, 0, 0, false, false, 0, 0, true, fc2, txt⟩ (.slice a n cap)).toArray] w fun e w' => e = .returned (.bool false) ∧ Below w.heap.size w w' := by
 have B0 := (Box.new w (hdC ⟨kind, 0, 0, [], false, 0, 0, 0, false, false, 0, 0, true, fc2, txt⟩ (.slice a n cap)))
 have d1 := B0.cell 1 (.int .i64 0) rfl
 have d2 := B0.cell 2 (.int .i64 0) rfl
 have d3 := B0.cell 3 (.string ⟨([] : List UInt8).toArray⟩) rfl
 have d4 := B0.cell 4 (.bool false) rfl
 have d5 := B0.cell 5 (.int .i64 0) rfl
 have d6 := B0.cell 6 (.int .i64 0) rfl
 have d7 := B0.cell 7 (.int .i64 0) rfl
 have d8 := B0.cell 8 (.bool false) rfl
 have d9 := B0.cell 9 (.bool false) rfl
 have d10 := B0.cell 10 (.int .i64 0) rfl
 have d11 := B0.cell 11 (.int .i64 0) rfl
 have d12 := B0.cell 12 (.bool true) rfl
 have d13 := B0.cell 13 (.bool fc2) rfl
 have d14 := B0.cell 14 (.string ⟨(txt : List UInt8).toArray⟩) rfl
 have d15 := B0.cell 15 (.slice a n cap) rfl
 clear B0
 go_enter Tryz.func81, Tryz.ntmps81
 go_wp2
 go_ret
 exact ⟨rfl, (Below.refl _ _).alloc (Nat.le_refl _) _⟩
theorem empty_fc2 (kind : Int) (txt : List UInt8) (a : Option Addr) (n cap : Nat) (w : World) :
  Calls Tryz.prog 81 #[.agg (hdC ⟨kind, 0, 0, [], false, 0, 0, 0, false, false, 0, 0, false, true, txt⟩ (.slice a n cap)).toArray] w fun e w' => e = .returned (.bool false) ∧ Below w.heap.size w w' := by
 have B0 := (Box.new w (hdC ⟨kind, 0, 0, [], false, 0, 0, 0, false, false, 0, 0, false, true, txt⟩ (.slice a n cap)))
 have d1 := B0.cell 1 (.int .i64 0) rfl
 have d2 := B0.cell 2 (.int .i64 0) rfl
 have d3 := B0.cell 3 (.string ⟨([] : List UInt8).toArray⟩) rfl
 have d4 := B0.cell 4 (.bool false) rfl
 have d5 := B0.cell 5 (.int .i64 0) rfl
 have d6 := B0.cell 6 (.int .i64 0) rfl
 have d7 := B0.cell 7 (.int .i64 0) rfl
 have d8 := B0.cell 8 (.bool false) rfl
 have d9 := B0.cell 9 (.bool false) rfl
 have d10 := B0.cell 10 (.int .i64 0) rfl
 have d11 := B0.cell 11 (.int .i64 0) rfl
 have d12 := B0.cell 12 (.bool false) rfl
 have d13 := B0.cell 13 (.bool true) rfl
 have d14 := B0.cell 14 (.string ⟨(txt : List UInt8).toArray⟩) rfl
 have d15 := B0.cell 15 (.slice a n cap) rfl
 clear B0
 go_enter Tryz.func81, Tryz.ntmps81
 go_wp2
 go_ret
 exact ⟨rfl, (Below.refl _ _).alloc (Nat.le_refl _) _⟩
theorem empty_txt (kind : Int) (txt : List UInt8) (q : (txt == []) = false) (a : Option Addr) (n cap : Nat) (w : World) :
  Calls Tryz.prog 81 #[.agg (hdC ⟨kind, 0, 0, [], false, 0, 0, 0, false, false, 0, 0, false, false, txt⟩ (.slice a n cap)).toArray] w fun e w' => e = .returned (.bool false) ∧ Below w.heap.size w w' := by
 have B0 := (Box.new w (hdC ⟨kind, 0, 0, [], false, 0, 0, 0, false, false, 0, 0, false, false, txt⟩ (.slice a n cap)))
 have d1 := B0.cell 1 (.int .i64 0) rfl
 have d2 := B0.cell 2 (.int .i64 0) rfl
 have d3 := B0.cell 3 (.string ⟨([] : List UInt8).toArray⟩) rfl
 have d4 := B0.cell 4 (.bool false) rfl
 have d5 := B0.cell 5 (.int .i64 0) rfl
 have d6 := B0.cell 6 (.int .i64 0) rfl
 have d7 := B0.cell 7 (.int .i64 0) rfl
 have d8 := B0.cell 8 (.bool false) rfl
 have d9 := B0.cell 9 (.bool false) rfl
 have d10 := B0.cell 10 (.int .i64 0) rfl
 have d11 := B0.cell 11 (.int .i64 0) rfl
 have d12 := B0.cell 12 (.bool false) rfl
 have d13 := B0.cell 13 (.bool false) rfl
 have d14 := B0.cell 14 (.string ⟨(txt : List UInt8).toArray⟩) rfl
 have d15 := B0.cell 15 (.slice a n cap) rfl
 clear B0
 go_enter Tryz.func81, Tryz.ntmps81
 go_wp2
 go_ret
 exact ⟨rfl, (Below.refl _ _).alloc (Nat.le_refl _) _⟩
theorem empty_kids (kind : Int) (a : Option Addr) (n cap : Nat) (w : World) (q : ((n : Int) == 0) = false) :
  Calls Tryz.prog 81 #[.agg (hdC ⟨kind, 0, 0, [], false, 0, 0, 0, false, false, 0, 0, false, false, []⟩ (.slice a n cap)).toArray] w fun e w' => e = .returned (.bool false) ∧ Below w.heap.size w w' := by
 have B0 := (Box.new w (hdC ⟨kind, 0, 0, [], false, 0, 0, 0, false, false, 0, 0, false, false, []⟩ (.slice a n cap)))
 have d1 := B0.cell 1 (.int .i64 0) rfl
 have d2 := B0.cell 2 (.int .i64 0) rfl
 have d3 := B0.cell 3 (.string ⟨([] : List UInt8).toArray⟩) rfl
 have d4 := B0.cell 4 (.bool false) rfl
 have d5 := B0.cell 5 (.int .i64 0) rfl
 have d6 := B0.cell 6 (.int .i64 0) rfl
 have d7 := B0.cell 7 (.int .i64 0) rfl
 have d8 := B0.cell 8 (.bool false) rfl
 have d9 := B0.cell 9 (.bool false) rfl
 have d10 := B0.cell 10 (.int .i64 0) rfl
 have d11 := B0.cell 11 (.int .i64 0) rfl
 have d12 := B0.cell 12 (.bool false) rfl
 have d13 := B0.cell 13 (.bool false) rfl
 have d14 := B0.cell 14 (.string ⟨([] : List UInt8).toArray⟩) rfl
 have d15 := B0.cell 15 (.slice a n cap) rfl
 clear B0
 go_enter Tryz.func81, Tryz.ntmps81
 go_wp2
 go_ret
 exact ⟨rfl, (Below.refl _ _).alloc (Nat.le_refl _) _⟩
theorem empty_yes (kind : Int) (a : Option Addr) (cap : Nat) (w : World) :
  Calls Tryz.prog 81 #[.agg (hdC ⟨kind, 0, 0, [], false, 0, 0, 0, false, false, 0, 0, false, false, []⟩ (.slice a 0 cap)).toArray] w fun e w' => e = .returned (.bool true) ∧ Below w.heap.size w w' := by
 have B0 := (Box.new w (hdC ⟨kind, 0, 0, [], false, 0, 0, 0, false, false, 0, 0, false, false, []⟩ (.slice a 0 cap)))
 have d1 := B0.cell 1 (.int .i64 0) rfl
 have d2 := B0.cell 2 (.int .i64 0) rfl
 have d3 := B0.cell 3 (.string ⟨([] : List UInt8).toArray⟩) rfl
 have d4 := B0.cell 4 (.bool false) rfl
 have d5 := B0.cell 5 (.int .i64 0) rfl
 have d6 := B0.cell 6 (.int .i64 0) rfl
 have d7 := B0.cell 7 (.int .i64 0) rfl
 have d8 := B0.cell 8 (.bool false) rfl
 have d9 := B0.cell 9 (.bool false) rfl
 have d10 := B0.cell 10 (.int .i64 0) rfl
 have d11 := B0.cell 11 (.int .i64 0) rfl
 have d12 := B0.cell 12 (.bool false) rfl
 have d13 := B0.cell 13 (.bool false) rfl
 have d14 := B0.cell 14 (.string ⟨([] : List UInt8).toArray⟩) rfl
 have d15 := B0.cell 15 (.slice a 0 cap) rfl
 clear B0
 go_enter Tryz.func81, Tryz.ntmps81
 go_wp2
 go_ret
 exact ⟨rfl, (Below.refl _ _).alloc (Nat.le_refl _) _⟩
theorem isEmpty_any (h : Hd) (a : Option Addr) (n cap : Nat) (w : World) :
    Calls Tryz.prog 81 #[.agg (hdC h (.slice a n cap)).toArray] w fun e w' => e = .returned (.bool (emptyB h n)) ∧ Below w.heap.size w w' := by
  obtain ⟨kind, vk, vn, vs, vb, vc, row, col, fr, fc, row2, col2, fr2, fc2, txt⟩ := h
  by_cases h_vk : vk = 0
  case neg =>
    rw [show emptyB _ n = false by simp [emptyB, noVal, noCell, noTo, h_vk]]
    exact empty_vk kind vk vn vs vb vc row col fr fc row2 col2 fr2 fc2 txt (by simpa using h_vk) a n cap w
  subst h_vk
  by_cases h_vn : vn = 0
  case neg =>
    rw [show emptyB _ n = false by simp [emptyB, noVal, noCell, noTo, h_vn]]
    exact empty_vn kind vn vs vb vc row col fr fc row2 col2 fr2 fc2 txt (by simpa using h_vn) a n cap w
  subst h_vn
  by_cases h_vs : vs = []
  case neg =>
    rw [show emptyB _ n = false by simp [emptyB, noVal, noCell, noTo, h_vs]]
    exact empty_vs kind vs vb vc row col fr fc row2 col2 fr2 fc2 txt (by simpa using h_vs) a n cap w
  subst h_vs
  cases vb with
  | true =>
    rw [show emptyB _ n = false by simp [emptyB, noVal, noCell, noTo]]
    exact empty_vb kind vc row col fr fc row2 col2 fr2 fc2 txt a n cap w
  | false =>
  by_cases h_vc : vc = 0
  case neg =>
    rw [show emptyB _ n = false by simp [emptyB, noVal, noCell, noTo, h_vc]]
    exact empty_vc kind vc row col fr fc row2 col2 fr2 fc2 txt (by simpa using h_vc) a n cap w
  subst h_vc
  by_cases h_row : row = 0
  case neg =>
    rw [show emptyB _ n = false by simp [emptyB, noVal, noCell, noTo, h_row]]
    exact empty_row kind row col fr fc row2 col2 fr2 fc2 txt (by simpa using h_row) a n cap w
  subst h_row
  by_cases h_col : col = 0
  case neg =>
    rw [show emptyB _ n = false by simp [emptyB, noVal, noCell, noTo, h_col]]
    exact empty_col kind col fr fc row2 col2 fr2 fc2 txt (by simpa using h_col) a n cap w
  subst h_col
  cases fr with
  | true =>
    rw [show emptyB _ n = false by simp [emptyB, noVal, noCell, noTo]]
    exact empty_fr kind fc row2 col2 fr2 fc2 txt a n cap w
  | false =>
  cases fc with
  | true =>
    rw [show emptyB _ n = false by simp [emptyB, noVal, noCell, noTo]]
    exact empty_fc kind row2 col2 fr2 fc2 txt a n cap w
  | false =>
  by_cases h_row2 : row2 = 0
  case neg =>
    rw [show emptyB _ n = false by simp [emptyB, noVal, noCell, noTo, h_row2]]
    exact empty_row2 kind row2 col2 fr2 fc2 txt (by simpa using h_row2) a n cap w
  subst h_row2
  by_cases h_col2 : col2 = 0
  case neg =>
    rw [show emptyB _ n = false by simp [emptyB, noVal, noCell, noTo, h_col2]]
    exact empty_col2 kind col2 fr2 fc2 txt (by simpa using h_col2) a n cap w
  subst h_col2
  cases fr2 with
  | true =>
    rw [show emptyB _ n = false by simp [emptyB, noVal, noCell, noTo]]
    exact empty_fr2 kind fc2 txt a n cap w
  | false =>
  cases fc2 with
  | true =>
    rw [show emptyB _ n = false by simp [emptyB, noVal, noCell, noTo]]
    exact empty_fc2 kind txt a n cap w
  | false =>
  by_cases h_txt : txt = []
  case neg =>
    rw [show emptyB _ n = false by simp [emptyB, noVal, noCell, noTo, h_txt]]
    exact empty_txt kind txt (by simpa using h_txt) a n cap w
  subst h_txt
  by_cases hn : n = 0
  · subst hn
    exact empty_yes kind a cap w
  · rw [show emptyB _ n = false by simp [emptyB, noVal, noCell, noTo, hn]]
    exact empty_kids kind a n cap w (by simpa using hn)
end Go.Proofs.YtiaoaifoecmemaaGreatDoor
