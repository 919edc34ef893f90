/-
  PROVED: Any node is checked as the document says: forms.Check tells the same error as the answer, for every node that is not too great to be gone through. Conditions: none beyond the row's own (the listed variables lie as the program's text lays them, which the card ties).
  The contracts of the answer's Lost and calls.
  The contract of the answer's Check.
  The walk of FormsChecks.
-/
import Derived.Test.YtijjnchedgllgaaDoorFmE0b
import Derived.Test.YtijjnchedgllgaaDoorFmB2
import Derived.Test.YtijjnchedgllgaaDoorFmSm
import Derived.Test.YtijjnchedgllgaaDoorFmE4
import Derived.Test.YtijjnchedgllgaaDoorFmV
import Derived.Test.YtijjnchedgllgaaDoorZ7
import Derived.Test.YtijjnchedgllgaaDoorCards
import Derived.Test.YtijjnchedgllgaaDoorTie
import Derived.Test.YtijjnchedgllgaaDoorFmLaid
import Derived.Deep.RegionHeld3
import Derived.ShutString
import Derived.ProofKit
import Derived.OpenShut
import Derived.ChangeOld
import Derived.Carry
import Derived.LaidMore
import Derived.Lay
import Derived.SevenTiedAt
import Derived.Stop.Joined
namespace Go.Proofs.YtijjnchedgllgaaDoor
open Go.RowKit Go.Shelf

set_option maxHeartbeats 2000000 in
theorem rlost_any (h : Hd) (a : Option Addr) (n cap : Nat) (w : World) :
    Calls Tryd.prog 44 #[.agg (hdC h (.slice a n cap)).toArray] w fun e w' => e = .returned (.bool (decide (h.kind = 1) && (decide (h.vk = 4) && decide (h.vc = 3)))) ∧ Below w.heap.size w w' := by
  obtain ⟨c0, c1, c2, c3, c4, c5, c6, c7, c8, c9, c10, c11, c12, c13, c14⟩ := node_cells (Box.new w (hdC h (.slice a n cap)))
  by_cases h1 : h.kind = 1
  · rw [h1] at c0
    by_cases h4 : h.vk = 4
    · rw [h4] at c1
      have HS : Hid ((decide (h.kind = 1) && (decide (h.vk = 4) && decide (h.vc = 3))) = (h.vc == 3)) := by
        show _ = _
        rw [Bool.eq_iff_iff]
        simp [h1, h4]
      clear h1 h4
      go_enter Tryd.func44, Tryd.ntmps44
      go_wp2
      go_ret
      exact ⟨by rw [HS.out]; rfl, by repeat' (first | with_reducible exact Below.refl _ _ | with_reducible refine Below.setCell ?_ ?_ _ | with_reducible refine Below.alloc ?_ ?_ _ | with_reducible refine below_drewN ?_ _ | with_reducible refine Below.drew ?_ | with_reducible refine Below.trans ?_ (Below.mono (by assumption) ?_) | with_reducible exact Nat.le_refl _ | with_reducible refine Nat.le_trans ?_ (Below.size (by assumption)) | with_reducible refine Nat.le_trans ?_ (size_alloc _ _) | with_reducible refine Nat.le_trans ?_ (size_set _ _ _) | with_reducible refine Nat.le_trans ?_ (size_drewN _ _) | with_reducible refine Nat.le_trans ?_ (size_drew _) | (simp; done) | (simp; omega) | omega)⟩
    · have e4 : (h.vk == 4) = false := by simpa using h4
      have HS : Hid ((decide (h.kind = 1) && (decide (h.vk = 4) && decide (h.vc = 3))) = false) := by show _ = _; simp [h4]
      clear h1 h4
      go_enter Tryd.func44, Tryd.ntmps44
      go_wp2
      go_ret
      exact ⟨by rw [HS.out]; rfl, by repeat' (first | with_reducible exact Below.refl _ _ | with_reducible refine Below.setCell ?_ ?_ _ | with_reducible refine Below.alloc ?_ ?_ _ | with_reducible refine below_drewN ?_ _ | with_reducible refine Below.drew ?_ | with_reducible refine Below.trans ?_ (Below.mono (by assumption) ?_) | with_reducible exact Nat.le_refl _ | with_reducible refine Nat.le_trans ?_ (Below.size (by assumption)) | with_reducible refine Nat.le_trans ?_ (size_alloc _ _) | with_reducible refine Nat.le_trans ?_ (size_set _ _ _) | with_reducible refine Nat.le_trans ?_ (size_drewN _ _) | with_reducible refine Nat.le_trans ?_ (size_drew _) | (simp; done) | (simp; omega) | omega)⟩
  · have e1 : (h.kind == 1) = false := by simpa using h1
    have HS : Hid ((decide (h.kind = 1) && (decide (h.vk = 4) && decide (h.vc = 3))) = false) := by show _ = _; simp [h1]
    clear h1
    go_enter Tryd.func44, Tryd.ntmps44
    go_wp2
    go_ret
    exact ⟨by rw [HS.out]; rfl, by repeat' (first | with_reducible exact Below.refl _ _ | with_reducible refine Below.setCell ?_ ?_ _ | with_reducible refine Below.alloc ?_ ?_ _ | with_reducible refine below_drewN ?_ _ | with_reducible refine Below.drew ?_ | with_reducible refine Below.trans ?_ (Below.mono (by assumption) ?_) | with_reducible exact Nat.le_refl _ | with_reducible refine Nat.le_trans ?_ (Below.size (by assumption)) | with_reducible refine Nat.le_trans ?_ (size_alloc _ _) | with_reducible refine Nat.le_trans ?_ (size_set _ _ _) | with_reducible refine Nat.le_trans ?_ (size_drewN _ _) | with_reducible refine Nat.le_trans ?_ (size_drew _) | (simp; done) | (simp; omega) | omega)⟩
theorem want_min (ws : ByteArray) (i : Nat) : wantAt ws (min i (ws.size - 1)) = wantAt ws i := by
  unfold wantAt
  rw [show min (min i (ws.size - 1)) (ws.size - 1) = min i (ws.size - 1) by omega]
/-- The contract of calls, for kids. -/
def CallsC (k : Fo) : Prop :=
  ∀ (D : Nat → Prop) (h : Hd) (v : Value) (w : World), (∀ c, D c → c < w.heap.size) → Kv w D v k → allB k = true →
    Calls Tryd.prog 30 #[.agg (hdC h v).toArray] w fun e w' => e = .returned (.int .i64 (firstE (preF (.cons h k .nil)))) ∧ Below w.heap.size w w'
def CallsA : Fo → Prop
  | .nil => True
  | .cons _ k r => CallsC k ∧ CallsA r
set_option maxRecDepth 100000 in
set_option maxHeartbeats 8000000 in
theorem calls_step (k : Fo) (hA : CallsA k) : CallsC k := by
  intro D h v w hD hk hall
  obtain ⟨a, n, cap, rfl, hn, hk⟩ := hk
  subst hn
  obtain ⟨R, hR⟩ : ∃ R, R = firstE (preF (.cons h k .nil)) := ⟨_, rfl⟩
  rw [← hR]
  rw [first_node] at hR
  have HX0 := hide (Box.new w (hdC h (.slice a k.len cap)))
  have HB0 := hide ((Below.refl w.heap.size w).alloc (Nat.le_refl _) (.cells (hdC h (.slice a k.len cap)).toArray 44))
  have c0 := HX0.out.cell 0 (.int .i64 h.kind) rfl
  have c14 := HX0.out.cell 14 (.string ⟨h.txt.toArray⟩) rfl
  have c15 := HX0.out.cell 15 (.slice a k.len cap) rfl
  have HK1 := hide hk
  have HA := hide hA
  have HAl := hide hall
  clear hk hA hall
  by_cases h6 : h.kind = 6
  · have hcp : callP (h, k) = callE h k := by unfold callP; rw [if_pos h6]
    rw [hcp] at hR
    rw [h6] at c0
    clear hcp
    have HF : Hid (∀ W : World, Calls Tryd.prog 8 #[.string ⟨h.txt.toArray⟩] W fun e w' => ∃ v, e = .returned (.tuple #[.agg #[.string ((findF ⟨h.txt.toArray⟩).getD zf).name, .int .i64 ((findF ⟨h.txt.toArray⟩).getD zf).least, .int .i64 ((findF ⟨h.txt.toArray⟩).getD zf).most, v], .int .i64 (findE (findF ⟨h.txt.toArray⟩))]) ∧ Wts w' v (wantsI ((findF ⟨h.txt.toArray⟩).getD zf).wants ((findF ⟨h.txt.toArray⟩).getD zf).wants.size) ∧ Below W.heap.size W w') := fun W => by
      refine (rfind_any ⟨h.txt.toArray⟩ W).mono ?_
      rintro e w' ⟨v, he, ho, hb⟩
      exact ⟨v, he, Wts.of ho, hb⟩
    have hcE : callE h k = match findF ⟨h.txt.toArray⟩ with | none => 8 | some f => if (k.len : Int) < f.least ∨ f.most < (k.len : Int) then 10 else if badArg f.wants 0 k = true then 2 else 0 := rfl
    cases hf : findF ⟨h.txt.toArray⟩ with
    | none =>
      rw [hf] at HF hcE
      simp only at hcE
      have HR : Hid (R = 8) := by show _ = _; rw [hR, hcE]; rfl
      simp only [Option.getD_none, zf, findE, Option.isSome_none] at HF
      clear hR hcE hf
      go_enter Tryd.func30, Tryd.ntmps30
      go_wp2_with (go_at_call 8; refine (HF.out _).mono ?_; rintro e w1 ⟨v1, rfl, ho1, hb1⟩; obtain ⟨pv, cv, rfl, hv2⟩ := id ho1; have HB1 := hide (HB0.out.trans (hb1.mono HB0.out.size)); have HX1 := hide (HX0.out.below hb1); have HWt := hide hv2; have q15 : w1.cell? ⟨w.heap.size, 15, none⟩ = some (.slice a k.len cap) := (HX0.out.below hb1).cell 15 _ rfl; have hz1 : w.heap.size < w1.heap.size := (HX0.out.below hb1).lt; clear hb1 ho1 hv2)
      go_ret
      exact ⟨by rw [HR.out]; rfl, HB1.out.alloc HB1.out.size _⟩
    | some f =>
      have hfine := fn_fine (find_mem hf)
      rw [hf] at HF hcE
      simp only [Option.getD_some, findE, Option.isSome_some, if_true] at HF
      simp only at hcE
      obtain ⟨fn, fl, fm, ws⟩ := f
      simp only at HF hcE hfine
      obtain ⟨f1, f2, f3, f4, f5⟩ := hfine
      have hwl : (wantsI ws ws.size).length = ws.size := by simp [wantsI]
      have HWA : Hid (∀ j, j < ws.size → (wantsI ws ws.size)[j]? = some (wantAt ws j)) := fun j hj => by simp [wantsI, hj]
      generalize wantsI ws ws.size = WL at *
      have HWL := hide hwl
      clear hf h6 hwl
      by_cases ha : (k.len : Int) < fl ∨ fm < (k.len : Int)
      · rw [if_pos ha] at hcE
        have HR : Hid (R = 10) := by show _ = _; rw [hR, hcE]; rfl
        clear hR hcE
        by_cases ha1 : (k.len : Int) < fl
        · clear ha
          go_enter Tryd.func30, Tryd.ntmps30
          go_wp2_with (go_at_call 8; refine (HF.out _).mono ?_; rintro e w1 ⟨v1, rfl, ho1, hb1⟩; obtain ⟨pv, cv, rfl, hv2⟩ := id ho1; have HB1 := hide (HB0.out.trans (hb1.mono HB0.out.size)); have HX1 := hide (HX0.out.below hb1); have HWt := hide hv2; have q15 : w1.cell? ⟨w.heap.size, 15, none⟩ = some (.slice a k.len cap) := (HX0.out.below hb1).cell 15 _ rfl; have hz1 : w.heap.size < w1.heap.size := (HX0.out.below hb1).lt; clear hb1 ho1 hv2)
          go_ret
          exact ⟨by rw [HR.out]; rfl, HB1.out.alloc HB1.out.size _⟩
        · have ha2 : fm < (k.len : Int) := by omega
          clear ha
          go_enter Tryd.func30, Tryd.ntmps30
          go_wp2_with (go_at_call 8; refine (HF.out _).mono ?_; rintro e w1 ⟨v1, rfl, ho1, hb1⟩; obtain ⟨pv, cv, rfl, hv2⟩ := id ho1; have HB1 := hide (HB0.out.trans (hb1.mono HB0.out.size)); have HX1 := hide (HX0.out.below hb1); have HWt := hide hv2; have q15 : w1.cell? ⟨w.heap.size, 15, none⟩ = some (.slice a k.len cap) := (HX0.out.below hb1).cell 15 _ rfl; have hz1 : w.heap.size < w1.heap.size := (HX0.out.below hb1).lt; clear hb1 ho1 hv2)
          go_ret
          exact ⟨by rw [HR.out]; rfl, HB1.out.alloc HB1.out.size _⟩
      · rw [if_neg ha] at hcE
        have ha1 : ¬ (k.len : Int) < fl := by omega
        have ha2 : ¬ fm < (k.len : Int) := by omega
        have HBad : Hid (badArg ws 0 k = true → R = 2) := fun hb => by
          have e : callE h k = 2 := by rw [hcE, if_pos hb]
          rw [hR, e]; rfl
        have HGood : Hid (badArg ws 0 k = false → R = firstE (preF k)) := fun hb => by
          have e : callE h k = 0 := by rw [hcE, if_neg (by rw [hb]; simp)]
          rw [hR, if_pos e]
        clear hR hcE ha
        go_enter Tryd.func30, Tryd.ntmps30
        go_wp2_with (go_at_call 8; refine (HF.out _).mono ?_; rintro e w1 ⟨v1, rfl, ho1, hb1⟩; obtain ⟨pv, cv, rfl, hv2⟩ := id ho1; have HB1 := hide (HB0.out.trans (hb1.mono HB0.out.size)); have HX1 := hide (HX0.out.below hb1); have HWt := hide hv2; have q15 : w1.cell? ⟨w.heap.size, 15, none⟩ = some (.slice a k.len cap) := (HX0.out.below hb1).cell 15 _ rfl; have hz1 : w.heap.size < w1.heap.size := (HX0.out.below hb1).lt; clear hb1 ho1 hv2)
        have hB2 : Below w.heap.size w (w1.alloc (.cells #[.string fn, .int .i64 fl, .int .i64 fm, .slice pv WL.length cv] 24)) := HB1.out.alloc HB1.out.size _
        have hX2 := HX1.out.alloc (.cells #[.string fn, .int .i64 fl, .int .i64 fm, .slice pv WL.length cv] 24)
        have hf0 : (w1.alloc (.cells #[.string fn, .int .i64 fl, .int .i64 fm, .slice pv WL.length cv] 24)).heap[w1.heap.size]? = some (.cells #[.string fn, .int .i64 fl, .int .i64 fm, .slice pv WL.length cv] 24 (0, 0)) := World.alloc_heap_new w1 _
        have hW12 : Below w1.heap.size w1 (w1.alloc (.cells #[.string fn, .int .i64 fl, .int .i64 fm, .slice pv WL.length cv] 24)) := (Below.refl _ _).alloc (Nat.le_refl _) _
        have hz2 : (w1.alloc (.cells #[.string fn, .int .i64 fl, .int .i64 fm, .slice pv WL.length cv] 24)).heap.size = w1.heap.size + 1 := by simp
        generalize w1.alloc (.cells #[.string fn, .int .i64 fl, .int .i64 fm, .slice pv WL.length cv] 24) = W2 at *
        have HN : Hid (∀ W, Below W2.heap.size W2 W → W.cell? ⟨w.heap.size, 15, none⟩ = some (.slice a k.len cap) ∧ W.cell? ⟨w1.heap.size, 3, none⟩ = some (.slice pv WL.length cv)) := fun W hW => by
          have e : W.heap[w1.heap.size]? = some (.cells #[.string fn, .int .i64 fl, .int .i64 fm, .slice pv WL.length cv] 24 (0, 0)) := (hW.block _ (by omega)).trans hf0
          exact ⟨(hX2.below hW).cell 15 _ rfl, by simp [World.cell?, e]⟩
        have HB2 := hide hB2
        have HX2 := hide hX2
        have HW12 := hide hW12
        clear hB2 hX2 hf0 hW12 c0 c14 c15 q15 HX0 HB0 HX1
        go_loopw [5] (fun ui wr => ∃ (i : Nat) (F : Fo), ui = .int .i64 (i : Int) ∧ i + F.len = k.len ∧ (F = .nil ∨ ∃ b' o', a = some ⟨b', o', none⟩ ∧ k.len ≤ cap ∧ cap ≤ maxLen ∧ Row w D F b' (o' + i * 16)) ∧ allB F = true ∧ Below W2.heap.size W2 wr ∧ badArg ws 0 k = badArg ws i F) (fun ui _ => k.len - (intOf ui).toNat)
        case atStart =>
          refine ⟨0, k, rfl, by omega, ?_, HAl.out, Below.refl _ _, rfl⟩
          rcases HK1.out with e | ⟨b', o', e1, e2, e3, e4⟩
          · exact .inl e
          · exact .inr ⟨b', o', e1, e2, e3, by simpa using e4⟩
        case round =>
          obtain ⟨i, F, rfl, hl, hF, hal, hB, hq⟩ := hrel
          obtain ⟨k15, k3⟩ := HN.out wr hB
          have HBi := hide hB
          have HQ := hide hq
          have hsz := hB.size
          clear hB hq
          match F, hl, hF, hal, HQ with
          | .nil, hl, _, _, HQ =>
            have hli : ¬ (i : Int) < (k.len : Int) := by simp [Fo.len] at hl; omega
            have HR : Hid (R = firstE (preF k)) := HGood.out (by rw [HQ.out]; rfl)
            obtain ⟨wo, rfl⟩ : ∃ wo : World, wo = wr := ⟨_, rfl⟩
            go_wp2
            go_loopw [7] (fun ui wr => ∃ (i : Nat) (F : Fo), ui = .int .i64 (i : Int) ∧ i + F.len = k.len ∧ (F = .nil ∨ ∃ b' o', a = some ⟨b', o', none⟩ ∧ k.len ≤ cap ∧ cap ≤ maxLen ∧ Row w D F b' (o' + i * 16)) ∧ CallsA F ∧ allB F = true ∧ Below w.heap.size w wr ∧ Box wr w.heap.size (hdC h (.slice a k.len cap)) ∧ R = firstE (preF F)) (fun ui _ => k.len - (intOf ui).toNat)
            case atStart =>
              refine ⟨0, k, rfl, by omega, ?_, HA.out, HAl.out, HB2.out.trans (HBi.out.mono HB2.out.size), HX2.out.below HBi.out, HR.out⟩
              rcases HK1.out with e | ⟨b', o', e1, e2, e3, e4⟩
              · exact .inl e
              · exact .inr ⟨b', o', e1, e2, e3, by simpa using e4⟩
            case round =>
              clear k15 k3
              obtain ⟨i, F, rfl, hl, hF, hAF, hal, hB, hX, hq⟩ := hrel
              have HB := hide hB
              have HXr := hide hX
              have HQ := hide hq
              have hsz := hB.size
              have k15 : wr.cell? ⟨w.heap.size, 15, none⟩ = some (.slice a k.len cap) := hX.cell 15 _ rfl
              clear hB hq hX
              match F, hl, hF, hAF, hal, HQ with
              | .nil, hl, _, _, _, HQ =>
                have hli : ¬ (i : Int) < (k.len : Int) := by simp [Fo.len] at hl; omega
                go_wp2
                go_ret
                exact ⟨by rw [HQ.out]; rfl, HB.out⟩
              | .cons h1 k1 r1, hl, hF, hAF, hal, HQ =>
                have hli : (i : Int) < (k.len : Int) := by simp [Fo.len] at hl; omega
                have hl2 : i + 1 + r1.len = k.len := by simp [Fo.len] at hl; omega
                obtain ⟨b1, o1, rfl, hcap1, hcap2, hrw⟩ : ∃ b' o', a = some ⟨b', o', none⟩ ∧ k.len ≤ cap ∧ cap ≤ maxLen ∧ Row w D (.cons h1 k1 r1) b' (o' + i * 16) := by
                  rcases hF with e | e
                  · cases e
                  · exact e
                obtain ⟨d1, ⟨v1, x1, y1⟩, z1⟩ := row_cons.1 hrw
                have HR1 : Hid (Row w D r1 b1 (o1 + (i + 1) * 16)) := by rw [show o1 + (i + 1) * 16 = o1 + i * 16 + 16 by omega]; exact z1
                have hal2 : rightN h1 k1 = true ∧ allB r1 = true := by
                  have e : (rightN h1 k1 && allB r1) = true := hal
                  simpa using e
                have HX : Hid (∀ j, j < 16 → wr.cell? ⟨b1, o1 + i * 16 + j, none⟩ = (hdC h1 v1)[j]?) := fun j hj => by rw [HB.out.cell (p := ⟨b1, o1 + i * 16 + j, none⟩) (hD b1 d1)]; exact x1 j hj
                obtain ⟨hA1, hA2⟩ := hAF
                have HA2 := hide hA2
                have hka : allB k1 = true := by have := hal2.1; unfold rightN at this; simp at this; exact this.2
                have HA3 := hide hal2.2
                have HC : Hid (∀ W : World, Below w.heap.size w W → Calls Tryd.prog 30 #[.agg (hdC h1 v1).toArray] W fun e w' => e = .returned (.int .i64 (firstE (preF (.cons h1 k1 .nil)))) ∧ Below W.heap.size W w') := fun W hW =>
                  hA1 D h1 v1 W (fun c hc => Nat.lt_of_lt_of_le (hD c hc) hW.size) (kv_to y1 (fun c hc => ⟨hc, hW.block c (hD c hc)⟩)) hka
                have hq2 : R = if firstE (preF (.cons h1 k1 .nil)) = 0 then firstE (preF r1) else firstE (preF (.cons h1 k1 .nil)) := by rw [HQ.out, first_kid]
                have HM := hide hcap2
                unfold maxLen at hcap2
                clear HQ hrw d1 x1 y1 z1 hA1 hA2 hF hl hal hal2 hka
                generalize firstE (preF (.cons h1 k1 .nil)) = E at *
                by_cases hE : E = 0
                · rw [if_pos hE] at hq2
                  have HQ2 := hide hq2
                  have e0 : (E != 0) = false := by simp [hE]
                  clear hq2 hE
                  go_wp2_with (first | (with_reducible refine wpl_id ?_; refine wpl_loadAt rfl _ rfl _ _ rfl HX.out ?_) | (go_at_call 30; refine (HC.out _ HB.out).mono ?_; rintro e w1 ⟨rfl, hb1⟩; have HB1 := hide (HB.out.trans (hb1.mono hsz)); have HX1 := hide (HXr.out.below hb1); clear hb1))
                  go_roundw
                  case rel => exact ⟨i + 1, r1, by go_num, by omega, .inr ⟨b1, o1, rfl, hcap1, HM.out, HR1.out⟩, HA2.out, HA3.out, HB1.out, HX1.out, HQ2.out⟩
                  case measure => simp [intOf]; omega
                · rw [if_neg hE] at hq2
                  have HQ2 := hide hq2
                  have e0 : (E != 0) = true := by simpa using hE
                  clear hq2 hE
                  go_wp2_with (first | (with_reducible refine wpl_id ?_; refine wpl_loadAt rfl _ rfl _ _ rfl HX.out ?_) | (go_at_call 30; refine (HC.out _ HB.out).mono ?_; rintro e w1 ⟨rfl, hb1⟩; have HB1 := hide (HB.out.trans (hb1.mono hsz)); clear hb1))
                  go_ret
                  exact ⟨by rw [HQ2.out]; rfl, HB1.out⟩
          | .cons h1 k1 r1, hl, hF, hal, HQ =>
            have hli : (i : Int) < (k.len : Int) := by simp [Fo.len] at hl; omega
            have hl2 : i + 1 + r1.len = k.len := by simp [Fo.len] at hl; omega
            obtain ⟨b1, o1, rfl, hcap1, hcap2, hrw⟩ : ∃ b' o', a = some ⟨b', o', none⟩ ∧ k.len ≤ cap ∧ cap ≤ maxLen ∧ Row w D (.cons h1 k1 r1) b' (o' + i * 16) := by
              rcases hF with e | e
              · cases e
              · exact e
            obtain ⟨d1, ⟨v1, x1, y1⟩, z1⟩ := row_cons.1 hrw
            have HR1 : Hid (Row w D r1 b1 (o1 + (i + 1) * 16)) := by rw [show o1 + (i + 1) * 16 = o1 + i * 16 + 16 by omega]; exact z1
            have hal2 : rightN h1 k1 = true ∧ allB r1 = true := by
              have e : (rightN h1 k1 && allB r1) = true := hal
              simpa using e
            have hlen : k.len ≤ 30 := by omega
            have hws : 1 ≤ ws.size := by
              rcases f2 with e | e
              · omega
              · exact e
            obtain ⟨g, hpv, hg⟩ : ∃ g, pv = some ⟨g, 0, none⟩ ∧ ∀ W, Below w1.heap.size w1 W → ∀ i x, WL[i]? = some x → W.cell? ⟨g, i, none⟩ = some (.int .i64 x) := by
              rcases HWt.out with e | e
              · have hw0 := HWL.out
                rw [e] at hw0
                simp at hw0
                omega
              · exact e
            subst hpv
            have HG : Hid (∀ W, Below W2.heap.size W2 W → W.cell? ⟨g, min i (ws.size - 1), none⟩ = some (.int .i64 (wantAt ws i))) := fun W hW => by
              have := hg W (HW12.out.trans (hW.mono HW12.out.size)) (min i (ws.size - 1)) _ (HWA.out (min i (ws.size - 1)) (by omega))
              rw [want_min] at this
              exact this
            have HXk : Hid (∀ W, Below W2.heap.size W2 W → ∀ j, j < 16 → W.cell? ⟨b1, o1 + i * 16 + j, none⟩ = (hdC h1 v1)[j]?) := fun W hW j hj => by
              have hb : Below w.heap.size w W := HB2.out.trans (hW.mono HB2.out.size)
              rw [hb.cell (p := ⟨b1, o1 + i * 16 + j, none⟩) (hD b1 d1)]
              exact x1 j hj
            have hlo : lostB h1 = (decide (h1.kind = 1) && (decide (h1.vk = 4) && decide (h1.vc = 3))) := lost_right (n := k1.len) (by have := hal2.1; unfold rightN at this; simp at this; exact this.1)
            have HLo : Hid (∀ W : World, Calls Tryd.prog 44 #[.agg (hdC h1 v1).toArray] W fun e w' => e = .returned (.bool (lostB h1)) ∧ Below W.heap.size W w') := fun W => by
              obtain ⟨a1, n1, cap1, rfl, _⟩ := y1
              rw [hlo]
              exact rlost_any h1 a1 n1 cap1 W
            have hq2 : badArg ws 0 k = ((decide (wantAt ws i = 2) && !rangeB h1 && !lostB h1) || badArg ws (i + 1) r1) := by rw [HQ.out, bad_cons]
            have HA3 := hide hal2.2
            have HM := hide hcap2
            have HWz := hide hws
            have hmn : min (i : Int) ((WL.length : Int) - 1) = ((min i (ws.size - 1) : Nat) : Int) := by rw [HWL.out]; omega
            have hmw : IntKind.i64.wrap ((WL.length : Int) - 1) = (WL.length : Int) - 1 := by rw [HWL.out, wrap_le (by omega) (by omega)]
            have hmi : min i (ws.size - 1) < WL.length := by rw [HWL.out]; omega
            have hw5 : WL.length ≤ 4 := by rw [HWL.out]; exact f1
            unfold maxLen at hcap2
            obtain ⟨kk, hkk⟩ : ∃ kk, kk = h1.kind := ⟨_, rfl⟩
            have x0 : wr.cell? ⟨b1, o1 + i * 16, none⟩ = some (.int .i64 kk) := by rw [hkk]; exact HXk.out wr HBi.out 0 (by omega)
            have g0 := HG.out wr HBi.out
            have hra : rangeB h1 = (decide (kk = 3) || decide (kk = 2)) := by rw [hkk]; rfl
            rw [hra] at hq2
            clear HQ hrw d1 x1 y1 z1 hF hl hal hal2 hlo hg hra hkk hws
            generalize lostB h1 = lo at *
            generalize min i (ws.size - 1) = mi at *
            generalize wantAt ws i = wv at *
            by_cases hw2 : wv = 2
            · subst hw2
              by_cases k2 : kk = 2
              · have q2 : (kk != 2) = false := by simp [k2]
                have HQ2 : Hid (badArg ws 0 k = badArg ws (i + 1) r1) := by show _ = _; rw [hq2]; simp [k2]
                clear hq2 k2
                go_wp2
                go_roundw
                case rel => exact ⟨i + 1, r1, by go_num, by omega, .inr ⟨b1, o1, rfl, hcap1, HM.out, HR1.out⟩, HA3.out, HBi.out, HQ2.out⟩
                case measure => simp [intOf]; omega
              · have q2 : (kk != 2) = true := by simpa using k2
                by_cases k3 : kk = 3
                · have q3 : (kk != 3) = false := by simp [k3]
                  have HQ2 : Hid (badArg ws 0 k = badArg ws (i + 1) r1) := by show _ = _; rw [hq2]; simp [k3]
                  clear hq2 k2 k3
                  go_wp2
                  go_roundw
                  case rel => exact ⟨i + 1, r1, by go_num, by omega, .inr ⟨b1, o1, rfl, hcap1, HM.out, HR1.out⟩, HA3.out, HBi.out, HQ2.out⟩
                  case measure => simp [intOf]; omega
                · have q3 : (kk != 3) = true := by simpa using k3
                  cases lo with
                  | true =>
                    have HQ2 : Hid (badArg ws 0 k = badArg ws (i + 1) r1) := by show _ = _; rw [hq2]; simp
                    clear hq2 k2 k3
                    go_wp2_with (first | (with_reducible refine wpl_id ?_; refine wpl_loadAtG rfl _ rfl _ _ rfl (HXk.out _ HBi.out) ?_) | (go_at_call 44; refine (HLo.out _).mono ?_; rintro e w3 ⟨rfl, hb3⟩; have HB3 := hide (HBi.out.trans (hb3.mono HBi.out.size)); clear hb3))
                    go_roundw
                    case rel => exact ⟨i + 1, r1, by go_num, by omega, .inr ⟨b1, o1, rfl, hcap1, HM.out, HR1.out⟩, HA3.out, HB3.out, HQ2.out⟩
                    case measure => simp [intOf]; omega
                  | false =>
                    have HR : Hid (R = 2) := HBad.out (by rw [hq2]; simp [k2, k3])
                    clear hq2 k2 k3
                    go_wp2_with (first | (with_reducible refine wpl_id ?_; refine wpl_loadAtG rfl _ rfl _ _ rfl (HXk.out _ HBi.out) ?_) | (go_at_call 44; refine (HLo.out _).mono ?_; rintro e w3 ⟨rfl, hb3⟩; have HB3 := hide (HBi.out.trans (hb3.mono HBi.out.size)); clear hb3))
                    go_ret
                    exact ⟨by rw [HR.out]; rfl, HB2.out.trans (HB3.out.mono HB2.out.size)⟩
            · have qw : (wv == 2) = false := by simpa using hw2
              have HQ2 : Hid (badArg ws 0 k = badArg ws (i + 1) r1) := by show _ = _; rw [hq2]; simp [hw2]
              clear hq2 hw2
              go_wp2
              go_roundw
              case rel => exact ⟨i + 1, r1, by go_num, by omega, .inr ⟨b1, o1, rfl, hcap1, HM.out, HR1.out⟩, HA3.out, HBi.out, HQ2.out⟩
              case measure => simp [intOf]; omega
  · have hcp : callP (h, k) = 0 := by unfold callP; rw [if_neg h6]
    rw [hcp, if_pos rfl] at hR
    have HR := hide hR
    have e6 : (h.kind == 6) = false := by simpa using h6
    clear hR hcp h6
    go_enter Tryd.func30, Tryd.ntmps30
    go_wp2
    go_loopw [7] (fun ui wr => ∃ (i : Nat) (F : Fo), ui = .int .i64 (i : Int) ∧ i + F.len = k.len ∧ (F = .nil ∨ ∃ b' o', a = some ⟨b', o', none⟩ ∧ k.len ≤ cap ∧ cap ≤ maxLen ∧ Row w D F b' (o' + i * 16)) ∧ CallsA F ∧ allB F = true ∧ Below w.heap.size w wr ∧ Box wr w.heap.size (hdC h (.slice a k.len cap)) ∧ R = firstE (preF F)) (fun ui _ => k.len - (intOf ui).toNat)
    case atStart =>
      refine ⟨0, k, rfl, by omega, ?_, HA.out, HAl.out, HB0.out, HX0.out, HR.out⟩
      rcases HK1.out with e | ⟨b', o', e1, e2, e3, e4⟩
      · exact .inl e
      · exact .inr ⟨b', o', e1, e2, e3, by simpa using e4⟩
    case round =>
      clear c0 c14 c15
      obtain ⟨i, F, rfl, hl, hF, hAF, hal, hB, hX, hq⟩ := hrel
      have HB := hide hB
      have HXr := hide hX
      have HQ := hide hq
      have hsz := hB.size
      have k15 : wr.cell? ⟨w.heap.size, 15, none⟩ = some (.slice a k.len cap) := hX.cell 15 _ rfl
      clear hB hq hX
      match F, hl, hF, hAF, hal, HQ with
      | .nil, hl, _, _, _, HQ =>
        have hli : ¬ (i : Int) < (k.len : Int) := by simp [Fo.len] at hl; omega
        go_wp2
        go_ret
        exact ⟨by rw [HQ.out]; rfl, HB.out⟩
      | .cons h1 k1 r1, hl, hF, hAF, hal, HQ =>
        have hli : (i : Int) < (k.len : Int) := by simp [Fo.len] at hl; omega
        have hl2 : i + 1 + r1.len = k.len := by simp [Fo.len] at hl; omega
        obtain ⟨b1, o1, rfl, hcap1, hcap2, hrw⟩ : ∃ b' o', a = some ⟨b', o', none⟩ ∧ k.len ≤ cap ∧ cap ≤ maxLen ∧ Row w D (.cons h1 k1 r1) b' (o' + i * 16) := by
          rcases hF with e | e
          · cases e
          · exact e
        obtain ⟨d1, ⟨v1, x1, y1⟩, z1⟩ := row_cons.1 hrw
        have HR1 : Hid (Row w D r1 b1 (o1 + (i + 1) * 16)) := by rw [show o1 + (i + 1) * 16 = o1 + i * 16 + 16 by omega]; exact z1
        have hal2 : rightN h1 k1 = true ∧ allB r1 = true := by
          have e : (rightN h1 k1 && allB r1) = true := hal
          simpa using e
        have HX : Hid (∀ j, j < 16 → wr.cell? ⟨b1, o1 + i * 16 + j, none⟩ = (hdC h1 v1)[j]?) := fun j hj => by rw [HB.out.cell (p := ⟨b1, o1 + i * 16 + j, none⟩) (hD b1 d1)]; exact x1 j hj
        obtain ⟨hA1, hA2⟩ := hAF
        have HA2 := hide hA2
        have hka : allB k1 = true := by have := hal2.1; unfold rightN at this; simp at this; exact this.2
        have HA3 := hide hal2.2
        have HC : Hid (∀ W : World, Below w.heap.size w W → Calls Tryd.prog 30 #[.agg (hdC h1 v1).toArray] W fun e w' => e = .returned (.int .i64 (firstE (preF (.cons h1 k1 .nil)))) ∧ Below W.heap.size W w') := fun W hW =>
          hA1 D h1 v1 W (fun c hc => Nat.lt_of_lt_of_le (hD c hc) hW.size) (kv_to y1 (fun c hc => ⟨hc, hW.block c (hD c hc)⟩)) hka
        have hq2 : R = if firstE (preF (.cons h1 k1 .nil)) = 0 then firstE (preF r1) else firstE (preF (.cons h1 k1 .nil)) := by rw [HQ.out, first_kid]
        have HM := hide hcap2
        unfold maxLen at hcap2
        clear HQ hrw d1 x1 y1 z1 hA1 hA2 hF hl hal hal2 hka
        generalize firstE (preF (.cons h1 k1 .nil)) = E at *
        by_cases hE : E = 0
        · rw [if_pos hE] at hq2
          have HQ2 := hide hq2
          have e0 : (E != 0) = false := by simp [hE]
          clear hq2 hE
          go_wp2_with (first | (with_reducible refine wpl_id ?_; refine wpl_loadAt rfl _ rfl _ _ rfl HX.out ?_) | (go_at_call 30; refine (HC.out _ HB.out).mono ?_; rintro e w1 ⟨rfl, hb1⟩; have HB1 := hide (HB.out.trans (hb1.mono hsz)); have HX1 := hide (HXr.out.below hb1); clear hb1))
          go_roundw
          case rel => exact ⟨i + 1, r1, by go_num, by omega, .inr ⟨b1, o1, rfl, hcap1, HM.out, HR1.out⟩, HA2.out, HA3.out, HB1.out, HX1.out, HQ2.out⟩
          case measure => simp [intOf]; omega
        · rw [if_neg hE] at hq2
          have HQ2 := hide hq2
          have e0 : (E != 0) = true := by simpa using hE
          clear hq2 hE
          go_wp2_with (first | (with_reducible refine wpl_id ?_; refine wpl_loadAt rfl _ rfl _ _ rfl HX.out ?_) | (go_at_call 30; refine (HC.out _ HB.out).mono ?_; rintro e w1 ⟨rfl, hb1⟩; have HB1 := hide (HB.out.trans (hb1.mono hsz)); clear hb1))
          go_ret
          exact ⟨by rw [HQ2.out]; rfl, HB1.out⟩
theorem calls_all : ∀ (F : Fo), CallsA F
  | .nil => trivial
  | .cons _ k r => ⟨calls_step k (calls_all k), calls_all r⟩
end Go.Proofs.YtijjnchedgllgaaDoor
namespace Go.Proofs.YtijjnchedgllgaaDoor
open Go.RowKit Go.Shelf

theorem check_zero {h : Hd} {k : Fo} (e : checkN h k = 0) : rightN h k = true ∧ allB k = true := by
  have hr : rightN h k = true := by
    unfold checkN at e
    split at e
    · omega
    · split at e
      · omega
      · rename_i hr; simpa using hr
  refine ⟨hr, ?_⟩
  unfold rightN at hr
  simp at hr
  exact hr.2
set_option maxRecDepth 100000 in
set_option maxHeartbeats 2000000 in
theorem rcheck09_any (D : Nat → Prop) (h : Hd) (k : Fo) (a : Option Addr) (n cap : Nat) (w : World) (hD : ∀ c, D c → c < w.heap.size) (hk : Kv w D (.slice a n cap) k) (hm : k.many + 1 ≤ 4096) (hd : k.deep + 1 ≤ 160) (hv : h.vs.length ≤ maxLen) (ht : h.txt.length ≤ maxLen) (ho : okF k) :
    Calls Tryd.prog 13 #[.agg (hdC h (.slice a n cap)).toArray] w fun e w' => e = .returned (.int .i64 (formsE h k)) ∧ Below w.heap.size w w' := by
  have HC : Hid (∀ W : World, Below w.heap.size w W → Calls Tryd.prog 29 #[.agg (hdC h (.slice a n cap)).toArray] W fun e w' => e = .returned (.int .i64 (checkN h k)) ∧ Below W.heap.size W w') := fun W hW =>
    rcheck08_any D h k a n cap W (fun c hc => Nat.lt_of_lt_of_le (hD c hc) hW.size) (kv_to hk (fun b hb => ⟨hb, hW.block b (hD b hb)⟩)) hm hd hv ht ho
  have HL : Hid (allB k = true → ∀ W : World, Below w.heap.size w W → Calls Tryd.prog 30 #[.agg (hdC h (.slice a n cap)).toArray] W fun e w' => e = .returned (.int .i64 (firstE (preF (.cons h k .nil)))) ∧ Below W.heap.size W w') := fun ha W hW =>
    calls_step k (calls_all k) D h (.slice a n cap) W (fun c hc => Nat.lt_of_lt_of_le (hD c hc) hW.size) (kv_to hk (fun b hb => ⟨hb, hW.block b (hD b hb)⟩)) ha
  have HB := hide ((Below.refl w.heap.size w).alloc (Nat.le_refl _) (.cells (hdC h (.slice a n cap)).toArray 44))
  have HX := hide (Box.new w (hdC h (.slice a n cap)))
  unfold formsE
  clear hk hv ht ho hm hd
  by_cases hz : checkN h k = 0
  · have HL2 := hide (HL.out (check_zero hz).2)
    rw [if_pos hz]
    rw [hz] at HC
    clear HL hz
    generalize firstE (preF (.cons h k .nil)) = E at *
    go_enter Tryd.func13, Tryd.ntmps13
    go_wp2_with (first | (with_reducible refine wpl_id ?_; refine wpl_load rfl _ rfl _ rfl (by ((repeat' (first | with_reducible exact Hid.out (by assumption) | with_reducible apply Box.set | with_reducible exact Box.new _ _ | with_reducible apply Box.other | with_reducible apply Box.alloc | with_reducible apply Box.drew | with_reducible apply Box.drewN | omega)); done)) ?_) | (go_at_call 29; refine (HC.out _ HB.out).mono ?_; rintro e w1 ⟨rfl, hb1⟩; have HB1 := hide (HB.out.trans (hb1.mono HB.out.size)); have HX1 := hide (HX.out.below hb1); clear hb1) | (go_at_call 30; refine (HL2.out _ HB1.out).mono ?_; rintro e w2 ⟨rfl, hb2⟩; have HB2 := hide (HB1.out.trans (hb2.mono HB1.out.size)); clear hb2))
    go_ret
    exact ⟨rfl, HB2.out⟩
  · rw [if_neg hz]
    have e0 : (checkN h k != 0) = true := by simpa using hz
    generalize checkN h k = E at *
    clear HL hz
    go_enter Tryd.func13, Tryd.ntmps13
    go_wp2_with (first | (with_reducible refine wpl_id ?_; refine wpl_load rfl _ rfl _ rfl (by ((repeat' (first | with_reducible exact Hid.out (by assumption) | with_reducible apply Box.set | with_reducible exact Box.new _ _ | with_reducible apply Box.other | with_reducible apply Box.alloc | with_reducible apply Box.drew | with_reducible apply Box.drewN | omega)); done)) ?_) | (go_at_call 29; refine (HC.out _ HB.out).mono ?_; rintro e w1 ⟨rfl, hb1⟩; have HB1 := hide (HB.out.trans (hb1.mono HB.out.size)); have HX1 := hide (HX.out.below hb1); clear hb1))
    go_ret
    exact ⟨rfl, HB1.out⟩
end Go.Proofs.YtijjnchedgllgaaDoor
namespace Go.Proofs.YtijjnchedgllgaaDoor
open Go.RowKit Go.Shelf

theorem depth_fits {k : Fo} (hd : depthN k ≠ 0) : k.many + 1 ≤ 4096 ∧ k.deep + 1 ≤ 160 := by
  unfold depthN at hd
  by_cases hq : k.many + 1 ≤ 4096 ∧ k.deep + 1 ≤ 160
  · exact hq
  · rw [if_neg hq] at hd
    exact absurd rfl hd
set_option maxRecDepth 100000 in
set_option maxHeartbeats 4000000 in
theorem formsChecks_walk (D : Nat → Prop) (h : Hd) (k : Fo) (a : Option Addr) (n cap : Nat) (w : World) (hD : ∀ c, D c → c < w.heap.size) (hk : Kv w D (.slice a n cap) k) (hv : h.vs.length ≤ maxLen) (ht : h.txt.length ≤ maxLen) (ho : okF k) :
    Calls Tryd.prog 4 #[.agg (hdC h (.slice a n cap)).toArray] w fun e w' => e = .returned (.bool true) ∧ Below w.heap.size w w' := by
  have HDp : Hid (∀ W : World, Below w.heap.size w W → Calls Tryd.prog 11 #[.agg (hdC h (.slice a n cap)).toArray] W fun e w' => e = .returned (.bool (decide (depthN k = 0))) ∧ Below W.heap.size W w') := fun W hW => deep_any D h k a n cap W (fun c hc => Nat.lt_of_lt_of_le (hD c hc) hW.size) (kv_to hk (fun b hb => ⟨hb, hW.block b (hD b hb)⟩))
  have HC : Hid (depthN k ≠ 0 → ∀ W : World, Below w.heap.size w W → Calls Tryd.prog 12 #[.agg (hdC h (.slice a n cap)).toArray] W fun e w' => e = .returned (.int .i64 (formsE h k)) ∧ Below W.heap.size W w') := fun hd W hW =>
    formsCheck_any D h k a n cap W (fun c hc => Nat.lt_of_lt_of_le (hD c hc) hW.size) (kv_to hk (fun b hb => ⟨hb, hW.block b (hD b hb)⟩)) (depth_fits hd).1 hv ht ho
  have HR : Hid (depthN k ≠ 0 → ∀ W : World, Below w.heap.size w W → Calls Tryd.prog 13 #[.agg (hdC h (.slice a n cap)).toArray] W fun e w' => e = .returned (.int .i64 (formsE h k)) ∧ Below W.heap.size W w') := fun hd W hW =>
    rcheck09_any D h k a n cap W (fun c hc => Nat.lt_of_lt_of_le (hD c hc) hW.size) (kv_to hk (fun b hb => ⟨hb, hW.block b (hD b hb)⟩)) (depth_fits hd).1 (depth_fits hd).2 hv ht ho
  have HL : Hid (∀ W : World, Calls Tryd.prog 10 #[] W fun e w' => e = .returned (.bool true) ∧ Below W.heap.size W w') := fun W => lives9_any W
  have HX := hide (Box.new w (hdC h (.slice a n cap)))
  have HB := hide ((Below.refl _ w).alloc (Nat.le_refl _) (.cells (hdC h (.slice a n cap)).toArray 44))
  have HXc : Hid (∀ W : World, (fun W : World => Box W w.heap.size (hdC h (.slice a n cap)) ∧ Below w.heap.size w W) W → ∀ j, j < 16 → W.cell? ⟨w.heap.size, 0 + j, none⟩ = (hdC h (.slice a n cap))[j]?) := fun W hS j hj => by
    rw [Nat.zero_add, cell_of_row W w.heap.size j _ _ _ hS.1]
    simp
  clear hv ht ho hk hD
  by_cases hd : depthN k = 0
  · rw [hd] at HDp
    simp only [decide_true] at HDp
    clear HC HR hd
    go_enter Tryd.func4, Tryd.ntmps4
    go_wp2
    refine wp_region_held_drew (S := fun W : World => Box W w.heap.size (hdC h (.slice a n cap)) ∧ Below w.heap.size w W) (by kernel_rfl) ⟨HX.out.drew, HB.out.drew⟩ (fun hHeld => ?_)
    (refine takeD (i := 0) (some 3) rfl rfl (by kernel_rfl) (by kernel_rfl) (by kernel_rfl) (fun _ _ _ h => h) (v := .agg (hdC h (.slice a n cap)).toArray) rfl (fun W hS => exec_loadAt _ rfl w.heap.size 0 rfl (HXc.out W hS)) (by assumption) ?_; try simp only [Act.put, List.setIfInBounds_toArray, List.set_cons_zero, List.set_cons_succ])
    (refine wpAnyH_ready (rs := [1]) (by kernel_rfl) (by simp) ?_; refine AllReadyH.cons (o := _) rfl (fun K hK => ?_) AllReadyH.nil; go_simp; go_at_call 11; refine (HDp.out _ HB.out.drew).mono ?_; rintro e w1 ⟨rfl, hb1⟩; have HB1 := hide (HB.out.drew.trans (hb1.mono HB.out.drew.size)); have HX1 := hide (HX.out.drew.below hb1); clear hb1; refine hK.out _ _ ⟨HX1.out, HB1.out⟩ (fun hHeld => ?_); clear hK K; try simp only [Act.put, List.setIfInBounds_toArray, List.set_cons_zero, List.set_cons_succ])
    (refine takeD (i := 2) (some 5) rfl rfl (by kernel_rfl) (by kernel_rfl) (by kernel_rfl) (fun _ _ _ h => h) (v := ?_) rfl ?_ (by assumption) ?_; rotate_left; (focus (intro w hSw; (try dsimp only at hSw); first | (go_simp; done) | (go_simp; with_reducible rfl))); try simp only [Act.put, List.setIfInBounds_toArray, List.set_cons_zero, List.set_cons_succ])
    (refine skipD (i := 3) (some 6) rfl rfl (by kernel_rfl) (by kernel_rfl) (by kernel_rfl) (fun _ _ _ h => h) rfl (by assumption) ?_; try simp only [Act.put, List.setIfInBounds_toArray, List.set_cons_zero, List.set_cons_succ]); (refine skipD (i := 4) (some 7) rfl rfl (by kernel_rfl) (by kernel_rfl) (by kernel_rfl) (fun _ _ _ h => h) rfl (by assumption) ?_; try simp only [Act.put, List.setIfInBounds_toArray, List.set_cons_zero, List.set_cons_succ]); (refine skipD (i := 5) (some 8) rfl rfl (by kernel_rfl) (by kernel_rfl) (by kernel_rfl) (fun _ _ _ h => h) rfl (by assumption) ?_; try simp only [Act.put, List.setIfInBounds_toArray, List.set_cons_zero, List.set_cons_succ]); (refine skipD (i := 6) (some 9) rfl rfl (by kernel_rfl) (by kernel_rfl) (by kernel_rfl) (fun _ _ _ h => h) rfl (by assumption) ?_; try simp only [Act.put, List.setIfInBounds_toArray, List.set_cons_zero, List.set_cons_succ]); (refine skipD (i := 7) (some 10) rfl rfl (by kernel_rfl) (by kernel_rfl) (by kernel_rfl) (fun _ _ _ h => h) rfl (by assumption) ?_; try simp only [Act.put, List.setIfInBounds_toArray, List.set_cons_zero, List.set_cons_succ])
    (refine takeD (i := 8) (some 11) rfl rfl (by kernel_rfl) (by kernel_rfl) (by kernel_rfl) (fun _ _ _ h => h) (v := ?_) rfl ?_ (by assumption) ?_; rotate_left; (focus (intro w hSw; (try dsimp only at hSw); first | (go_simp; done) | (go_simp; with_reducible rfl))); try simp only [Act.put, List.setIfInBounds_toArray, List.set_cons_zero, List.set_cons_succ]); (refine takeD (i := 9) (some 12) rfl rfl (by kernel_rfl) (by kernel_rfl) (by kernel_rfl) (fun _ _ _ h => h) (v := ?_) rfl ?_ (by assumption) ?_; rotate_left; (focus (intro w hSw; (try dsimp only at hSw); first | (go_simp; done) | (go_simp; with_reducible rfl))); try simp only [Act.put, List.setIfInBounds_toArray, List.set_cons_zero, List.set_cons_succ])
    (refine wpAnyH_ready (rs := [10]) (by kernel_rfl) (by simp) ?_; refine AllReadyH.cons (o := _) rfl (fun K hK => ?_) AllReadyH.nil; go_simp; go_at_call 10; refine (HL.out _).mono ?_; rintro e w2 ⟨rfl, hb2⟩; have HB2 := hide (HB1.out.trans (hb2.mono HB1.out.size)); have HX2 := hide (HX1.out.below hb2); clear hb2; refine hK.out _ _ ⟨HX2.out, HB2.out⟩ (fun hHeld => ?_); clear hK K; try simp only [Act.put, List.setIfInBounds_toArray, List.set_cons_zero, List.set_cons_succ])
    (refine takeD (i := 11) (some 14) rfl rfl (by kernel_rfl) (by kernel_rfl) (by kernel_rfl) (fun _ _ _ h => h) (v := ?_) rfl ?_ (by assumption) ?_; rotate_left; (focus (intro w hSw; (try dsimp only at hSw); first | (go_simp; done) | (go_simp; with_reducible rfl))); try simp only [Act.put, List.setIfInBounds_toArray, List.set_cons_zero, List.set_cons_succ]); (refine takeD (i := 12) (some 2) rfl rfl (by kernel_rfl) (by kernel_rfl) (by kernel_rfl) (fun _ _ _ h => h) (v := ?_) rfl ?_ (by assumption) ?_; rotate_left; (focus (intro w hSw; (try dsimp only at hSw); first | (go_simp; done) | (go_simp; with_reducible rfl))); try simp only [Act.put, List.setIfInBounds_toArray, List.set_cons_zero, List.set_cons_succ])
    refine wpAnyH_done (by kernel_rfl) ?_ _
    go_wp2
    go_ret
    exact ⟨rfl, HB2.out⟩
  · have HC' := hide (HC.out hd)
    have HR' := hide (HR.out hd)
    have hde : decide (depthN k = 0) = false := by simpa using hd
    rw [hde] at HDp
    clear HC HR hd hde
    generalize formsE h k = E at *
    go_enter Tryd.func4, Tryd.ntmps4
    go_wp2
    refine wp_region_held_drew (S := fun W : World => Box W w.heap.size (hdC h (.slice a n cap)) ∧ Below w.heap.size w W) (by kernel_rfl) ⟨HX.out.drew, HB.out.drew⟩ (fun hHeld => ?_)
    (refine takeD (i := 0) (some 3) rfl rfl (by kernel_rfl) (by kernel_rfl) (by kernel_rfl) (fun _ _ _ h => h) (v := .agg (hdC h (.slice a n cap)).toArray) rfl (fun W hS => exec_loadAt _ rfl w.heap.size 0 rfl (HXc.out W hS)) (by assumption) ?_; try simp only [Act.put, List.setIfInBounds_toArray, List.set_cons_zero, List.set_cons_succ])
    (refine wpAnyH_ready (rs := [1]) (by kernel_rfl) (by simp) ?_; refine AllReadyH.cons (o := _) rfl (fun K hK => ?_) AllReadyH.nil; go_simp; go_at_call 11; refine (HDp.out _ HB.out.drew).mono ?_; rintro e w1 ⟨rfl, hb1⟩; have HB1 := hide (HB.out.drew.trans (hb1.mono HB.out.drew.size)); have HX1 := hide (HX.out.drew.below hb1); clear hb1; refine hK.out _ _ ⟨HX1.out, HB1.out⟩ (fun hHeld => ?_); clear hK K; try simp only [Act.put, List.setIfInBounds_toArray, List.set_cons_zero, List.set_cons_succ])
    (refine takeD (i := 2) (some 5) rfl rfl (by kernel_rfl) (by kernel_rfl) (by kernel_rfl) (fun _ _ _ h => h) (v := ?_) rfl ?_ (by assumption) ?_; rotate_left; (focus (intro w hSw; (try dsimp only at hSw); first | (go_simp; done) | (go_simp; with_reducible rfl))); try simp only [Act.put, List.setIfInBounds_toArray, List.set_cons_zero, List.set_cons_succ])
    (refine takeD (i := 3) (some 6) rfl rfl (by kernel_rfl) (by kernel_rfl) (by kernel_rfl) (fun _ _ _ h => h) (v := .agg (hdC h (.slice a n cap)).toArray) rfl (fun W hS => exec_loadAt _ rfl w.heap.size 0 rfl (HXc.out W hS)) (by assumption) ?_; try simp only [Act.put, List.setIfInBounds_toArray, List.set_cons_zero, List.set_cons_succ])
    (refine takeD (i := 5) (some 8) rfl rfl (by kernel_rfl) (by kernel_rfl) (by kernel_rfl) (fun _ _ _ h => h) (v := .agg (hdC h (.slice a n cap)).toArray) rfl (fun W hS => exec_loadAt _ rfl w.heap.size 0 rfl (HXc.out W hS)) (by assumption) ?_; try simp only [Act.put, List.setIfInBounds_toArray, List.set_cons_zero, List.set_cons_succ])
    (refine wpAnyH_ready (rs := [4]) (by kernel_rfl) (by simp) ?_; refine AllReadyH.cons (o := _) rfl (fun K hK => ?_) AllReadyH.nil; go_simp; go_at_call 12; refine (HC'.out _ HB1.out).mono ?_; rintro e w2 ⟨rfl, hb2⟩; have HB2 := hide (HB1.out.trans (hb2.mono HB1.out.size)); have HX2 := hide (HX1.out.below hb2); clear hb2; refine hK.out _ _ ⟨HX2.out, HB2.out⟩ (fun hHeld => ?_); clear hK K; try simp only [Act.put, List.setIfInBounds_toArray, List.set_cons_zero, List.set_cons_succ])
    (refine wpAnyH_ready (rs := [6]) (by kernel_rfl) (by simp) ?_; refine AllReadyH.cons (o := _) rfl (fun K hK => ?_) AllReadyH.nil; go_simp; go_at_call 13; refine (HR'.out _ HB2.out).mono ?_; rintro e w3 ⟨rfl, hb3⟩; have HB3 := hide (HB2.out.trans (hb3.mono HB2.out.size)); have HX3 := hide (HX2.out.below hb3); clear hb3; refine hK.out _ _ ⟨HX3.out, HB3.out⟩ (fun hHeld => ?_); clear hK K; try simp only [Act.put, List.setIfInBounds_toArray, List.set_cons_zero, List.set_cons_succ])
    (refine takeD (i := 7) (some 10) rfl rfl (by kernel_rfl) (by kernel_rfl) (by kernel_rfl) (fun _ _ _ h => h) (v := ?_) rfl ?_ (by assumption) ?_; rotate_left; (focus (intro w hSw; (try dsimp only at hSw); first | (go_simp; done) | (go_simp; with_reducible rfl))); try simp only [Act.put, List.setIfInBounds_toArray, List.set_cons_zero, List.set_cons_succ]); (refine takeD (i := 8) (some 11) rfl rfl (by kernel_rfl) (by kernel_rfl) (by kernel_rfl) (fun _ _ _ h => h) (v := ?_) rfl ?_ (by assumption) ?_; rotate_left; (focus (intro w hSw; (try dsimp only at hSw); first | (go_simp; done) | (go_simp; with_reducible rfl))); try simp only [Act.put, List.setIfInBounds_toArray, List.set_cons_zero, List.set_cons_succ]); (refine takeD (i := 9) (some 12) rfl rfl (by kernel_rfl) (by kernel_rfl) (by kernel_rfl) (fun _ _ _ h => h) (v := ?_) rfl ?_ (by assumption) ?_; rotate_left; (focus (intro w hSw; (try dsimp only at hSw); first | (go_simp; done) | (go_simp; with_reducible rfl))); try simp only [Act.put, List.setIfInBounds_toArray, List.set_cons_zero, List.set_cons_succ])
    (refine wpAnyH_ready (rs := [10]) (by kernel_rfl) (by simp) ?_; refine AllReadyH.cons (o := _) rfl (fun K hK => ?_) AllReadyH.nil; go_simp; go_at_call 10; refine (HL.out _).mono ?_; rintro e w4 ⟨rfl, hb4⟩; have HB4 := hide (HB3.out.trans (hb4.mono HB3.out.size)); have HX4 := hide (HX3.out.below hb4); clear hb4; refine hK.out _ _ ⟨HX4.out, HB4.out⟩ (fun hHeld => ?_); clear hK K; try simp only [Act.put, List.setIfInBounds_toArray, List.set_cons_zero, List.set_cons_succ])
    (refine takeD (i := 11) (some 14) rfl rfl (by kernel_rfl) (by kernel_rfl) (by kernel_rfl) (fun _ _ _ h => h) (v := ?_) rfl ?_ (by assumption) ?_; rotate_left; (focus (intro w hSw; (try dsimp only at hSw); first | (go_simp; done) | (go_simp; with_reducible rfl))); try simp only [Act.put, List.setIfInBounds_toArray, List.set_cons_zero, List.set_cons_succ]); (refine takeD (i := 12) (some 2) rfl rfl (by kernel_rfl) (by kernel_rfl) (by kernel_rfl) (fun _ _ _ h => h) (v := ?_) rfl ?_ (by assumption) ?_; rotate_left; (focus (intro w hSw; (try dsimp only at hSw); first | (go_simp; done) | (go_simp; with_reducible rfl))); try simp only [Act.put, List.setIfInBounds_toArray, List.set_cons_zero, List.set_cons_succ])
    refine wpAnyH_done (by kernel_rfl) ?_ _
    go_wp2
    go_ret
    exact ⟨rfl, HB4.out⟩
end Go.Proofs.YtijjnchedgllgaaDoor
namespace Go.Proofs.YtijjnchedgllgaaDoor.FormsChecksOwn
open Go.ChangeShapes Go.WideShapes Go.ChangeAt Go.RowKit
open Go.ChangeMaps (open_string shut_string)

theorem laidOut : laidOutB Tryd.prog = true := by kernel_rfl

set_option maxRecDepth 100000 in
theorem lifted (os : Os) (started : os.Started) (H : Type) (enc : TypeId × Value → H) :
    ReturnsInHanded {} Tryd.checked os 4 .any (fun w args => (Rows.formsChecksSpec.pre enc Tryd.prog Tryd.f4 [] false w args ∧ laidMetH Tryd.prog Rows.formsChecksRow.laid w) ∧ sizedMet enc Tryd.prog Tryd.f4 (OpenSpec.ofChange Rows.formsChecksSpec) false w args)
      (Rows.formsChecksSpec.post enc Tryd.prog Tryd.f4 false true false false) := by
  refine returns_and_shaped (C := Tryd.checked) (X := fun w _ => laidMetH Tryd.prog Rows.formsChecksRow.laid w) (fun _ _ _ hh h => h.of_heap hh) own started (by kernel_rfl) Tryd.func4
    (ChangeSpec.witness_shaped (enc := enc) (C := Tryd.checked) (os := os) (X := fun w _ => laidMetH Tryd.prog Rows.formsChecksRow.laid w) false (World.laidAll Tryd.prog os Rows.formsChecksRow.laid) #[.agg (hdC zh (.slice none 0 0)).toArray] 8 (World.laidAll_os _ _ _)
      (World.shaped_of_ZipB (by kernel_rfl) (by kernel_rfl)) (by kernel_rfl) (by kernel_rfl) (by kernel_rfl)
      (by rw [MakeChecks.laidMetH_plain _ _ _ (by kernel_rfl)]; exact laidMet_laidAll _ (by kernel_rfl) (by kernel_rfl))) ?_
  intro W base args ds gs before hval0 hW hL hsh
  have hval : ∀ (j : Nat) t v, Tryd.f4.params[j]? = some t → args[j]? = some v → Value.okWide Tryd.prog W .any base t v := hval0
  have hW' := hW
  obtain ⟨p, q, hA0, hV, rfl, _, _⟩ := hW
  have hA : DataW.TrodAll enc Tryd.prog W 0 (fun _ => true) true Tryd.f4.params.toList args.toList ds p := hA0
  rw [Tryd.params4] at hA hval
  obtain ⟨v0, vs0, d0, ds0, p0, q0, hargs, rfl, rfl, h0, r0⟩ := trodAll_cons hA
  obtain ⟨rfl, rfl, rfl⟩ := trodAll_nil r0
  obtain rfl : args = #[v0] := by cases args; simp_all
  obtain ⟨rfl, rfl⟩ := trodVars_none hV
  have k0 := h0
  have lt0 : ∀ x ∈ p0, x.block < W.heap.size := by obtain ⟨m, hm⟩ := k0; exact DataW.trod_lt m _ _ _ hm
  obtain ⟨hd0, fo0, sa0, sn0, sc0, rfl, kv0, hv0, ht0, ho0⟩ := open_node (hval 0 44 v0 rfl rfl) h0
  clear hA0 hval0
  refine (formsChecks_walk (fun c => c < W.heap.size) hd0 fo0 sa0 sn0 sc0 W (fun _ h => h) kv0 hv0 ht0 ho0).mono fun e W' ⟨he, hb⟩ => ?_
  subst he
  exact ⟨_, rfl, ⟨_, _, _, [], _, [], hW', trodAll_mk1 (shut_bool Tryd.underlying4 _), (trodAll_cons_mk (Below.trod laidOut (by kernel_rfl) (of_decide_eq_true (by kernel_rfl)) k0 hb lt0) trodAll_mk0), rfl, hb.frame _, fun h => by cases h⟩⟩

theorem row_holds : Rows.FormsChecksSaid :=
  OpenClaim.holds_of_wide 4 Tryd.f4 rfl rfl rfl rfl rfl rfl rfl ⟨rfl, rfl, rfl, rfl, rfl⟩ rfl rfl rfl rfl rfl (by kernel_rfl) Tryd.func4 (by kernel_rfl)
    (of_decide_eq_true (by kernel_rfl)) (by unfold Func.isWrapper; first | (rw [if_pos (by decide +kernel)]; kernel_rfl) | (rw [if_neg (by decide +kernel)]; exact ⟨rfl, rfl⟩))
    (fun os started H enc _ => lifted os started H enc)
end Go.Proofs.YtijjnchedgllgaaDoor.FormsChecksOwn
namespace Go.Proofs.YtijjnchedgllgaaDoor
open Go

/-- The statement's card. -/
theorem formsChecks_card : Rows.FormsChecksCardSaid :=
  Claim7.holds_tied_plain_at .later [] [.data, .pinned] true Rows.formsChecksCard.stood.harness false
    FormsChecksOwn.row_holds (fun _ h => by cases h) (by kernel_rfl) (fun _ h => by cases h) formsChecks_row_tie rfl ⟨rfl, rfl⟩ (by kernel_rfl) rfl
    (fun f fn hf hfn => by
      obtain rfl : f = 4 := Option.some.inj ((show Tryd.prog.funcNamed Rows.formsChecksRow.func = some 4 by kernel_rfl).symm.trans hf) |>.symm
      obtain rfl : fn = Tryd.f4 := (Option.some.inj (Tryd.func4.symm.trans hfn)).symm
      exact ⟨by kernel_rfl, fun j t ht => by
        rw [Tryd.params4] at ht
        have hm : t ∈ [44] := by simpa using Array.mem_of_getElem? ht
        have hall : ([44].all fun u => !Tryd.prog.wantsStandIn u) = true := by kernel_rfl
        exact (show Tryd.prog.wantsStandIn t = false by simpa using List.all_eq_true.1 hall t hm)⟩)
    (by kernel_rfl)
#print axioms formsChecks_card
end Go.Proofs.YtijjnchedgllgaaDoor
