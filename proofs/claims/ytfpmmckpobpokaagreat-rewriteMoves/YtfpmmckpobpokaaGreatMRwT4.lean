/-
  The contracts of the answer's text at a sign between two nodes, and at a call of one.
-/
import Derived.Test.YtfpmmckpobpokaaGreatMRwT3
set_option maxRecDepth 100000
set_option maxHeartbeats 4000000
namespace Go.Proofs.YtfpmmckpobpokaaGreat
open Go.RowKit
theorem text_two (h h1 h2 : Hd) (k1 k2 : Fo) (s1 s2 : List UInt8) (hk : h.kind = 5) (l : Int) (hl : (bindN h.txt : Int) - 1 = l) (hl0 : 0 ≤ l ∧ l ≤ 3) (ht1 : TextC h1 k1 s1) (ht2 : TextC h2 k2 s2) (q1 : l ≤ lvl h1) (q2 : l + 1 ≤ lvl h2) (z1 : s1.length ≤ 100) (z2 : s2.length ≤ 100) (z3 : h.txt.length ≤ 100) :
  TextC h (.cons h1 k1 (.cons h2 k2 .nil)) (s1 ++ h.txt ++ s2) := by
 intro D v w hD hkv
 obtain ⟨a, n, cap, rfl, hn, hkv⟩ := hkv
 obtain ⟨b, o, rfl, hc1, hc2, hrow⟩ : ∃ b o, a = some ⟨b, o, none⟩ ∧ n ≤ cap ∧ cap ≤ maxLen ∧ Row w D (.cons h1 k1 (.cons h2 k2 .nil)) b o := by
  rcases hkv with e | e
  ·
   cases e
  ·
   exact e
 obtain ⟨d1, ⟨v1, x1, y1⟩, hrow2⟩ := row_cons.1 hrow
 obtain ⟨d2, ⟨v2, x2, y2⟩, _⟩ := row_cons.1 hrow2
 have hn2 : n = 2 := by simpa [Fo.len] using hn
 subst hn2
 have HX : Hid (∀ W : World, Below w.heap.size w W → (∀ j, j < 16 → W.cell? ⟨b, o + j, none⟩ = (hdC h1 v1)[j]?) ∧ (∀ j, j < 16 → W.cell? ⟨b, o + 16 + j, none⟩ = (hdC h2 v2)[j]?)) := fun W hW => ⟨fun j hj => by rw [hW.cell (p := ⟨b, o + j, none⟩) (hD b d1)]; exact x1 j hj, fun j hj => by rw [hW.cell (p := ⟨b, o + 16 + j, none⟩) (hD b d2)]; exact x2 j hj⟩
 have H1 : Hid (∀ W : World, Below w.heap.size w W → Calls Tryz.prog 110 #[.agg (hdC h1 v1).toArray, .int .i64 l] W fun e w' => e = .returned (.string ⟨s1.toArray⟩) ∧ Below W.heap.size W w') := fun W hW => within_plain h1 k1 s1 ht1 l q1 D v1 W (fun c hc => Nat.lt_of_lt_of_le (hD c hc) hW.size) (kv_to y1 (fun b hb => ⟨hb, hW.block b (hD b hb)⟩))
 have H2 : Hid (∀ W : World, Below w.heap.size w W → Calls Tryz.prog 110 #[.agg (hdC h2 v2).toArray, .int .i64 (l + 1)] W fun e w' => e = .returned (.string ⟨s2.toArray⟩) ∧ Below W.heap.size W w') := fun W hW => within_plain h2 k2 s2 ht2 (l + 1) q2 D v2 W (fun c hc => Nat.lt_of_lt_of_le (hD c hc) hW.size) (kv_to y2 (fun b hb => ⟨hb, hW.block b (hD b hb)⟩))
 have HL : Hid (∀ W : World, Calls Tryz.prog 82 #[.string ⟨h.txt.toArray⟩] W fun e w' => e = .returned (.int .i64 l) ∧ w' = W) := fun W => by
  have := line_any ⟨h.txt.toArray⟩ W
  rw [show (ByteArray.mk h.txt.toArray).data.toList = h.txt by simp, hl] at this
  exact this
 have hwl : IntKind.i64.wrap (l + 1) = l + 1 := by rw [wrap_le (by omega) (by omega)]
 have B := Box.new w (hdC h (.slice (some ⟨b, o, none⟩) 2 cap))
 have p0 := B.cell 0 (.int .i64 h.kind) rfl
 have p14 := B.cell 14 (.string ⟨h.txt.toArray⟩) rfl
 have p15 := B.cell 15 (.slice (some ⟨b, o, none⟩) 2 cap) rfl
 rw [hk] at p0
 have HB := hide ((Below.refl w.heap.size w).alloc (Nat.le_refl _) (.cells (hdC h (.slice (some ⟨b, o, none⟩) 2 cap)).toArray 33))
 have g1 : (9223372036854775807 < s1.length + h.txt.length) = False := eq_false (by omega)
 have g2 : (9223372036854775807 < s1.length + h.txt.length + s2.length) = False := eq_false (by omega)
 have HBw : Hid (∀ W : World, Below (w.heap.size + 1) (w.alloc (.cells (hdC h (.slice (some ⟨b, o, none⟩) 2 cap)).toArray 33)) W → Below w.heap.size w W) := fun W hW => HB.out.trans (hW.mono (by simp))
 have HBd : Hid (Below (w.heap.size + 1) (w.alloc (.cells (hdC h (.slice (some ⟨b, o, none⟩) 2 cap)).toArray 33)) (w.alloc (.cells (hdC h (.slice (some ⟨b, o, none⟩) 2 cap)).toArray 33)).drew) := (Below.refl _ _).drew
 have HS : Hid (∀ W : World, Below (w.heap.size + 1) (w.alloc (.cells (hdC h (.slice (some ⟨b, o, none⟩) 2 cap)).toArray 33)) W → Below (w.heap.size + 1) (w.alloc (.cells (hdC h (.slice (some ⟨b, o, none⟩) 2 cap)).toArray 33)) W ∧ (∀ j, j < 16 → W.cell? ⟨b, o + j, none⟩ = (hdC h1 v1)[j]?) ∧ (∀ j, j < 16 → W.cell? ⟨b, o + 16 + j, none⟩ = (hdC h2 v2)[j]?) ∧ W.cell? ⟨w.heap.size, 14, none⟩ = some (.string ⟨h.txt.toArray⟩) ∧ W.cell? ⟨w.heap.size, 15, none⟩ = some (.slice (some ⟨b, o, none⟩) 2 cap)) := fun W hW => ⟨hW, (HX.out W (HBw.out W hW)).1, (HX.out W (HBw.out W hW)).2, (hW.cell (p := ⟨w.heap.size, 14, none⟩) (by simp)).trans p14, (hW.cell (p := ⟨w.heap.size, 15, none⟩) (by simp)).trans p15⟩
 clear hk hl hl0 ht1 ht2 q1 q2 hrow hrow2 d1 d2 x1 x2 y1 y2 hkv hn hD B
 go_enter Tryz.func88, Tryz.ntmps88
 go_wp2
 refine wp_region_held_drew (S := fun W => Below (w.heap.size + 1) (w.alloc (.cells (hdC h (.slice (some ⟨b, o, none⟩) 2 cap)).toArray 33)) W ∧ (∀ j, j < 16 → W.cell? ⟨b, o + j, none⟩ = (hdC h1 v1)[j]?) ∧ (∀ j, j < 16 → W.cell? ⟨b, o + 16 + j, none⟩ = (hdC h2 v2)[j]?) ∧ W.cell? ⟨w.heap.size, 14, none⟩ = some (.string ⟨h.txt.toArray⟩) ∧ W.cell? ⟨w.heap.size, 15, none⟩ = some (.slice (some ⟨b, o, none⟩) 2 cap)) (by kernel_rfl) (HS.out _ HBd.out) (fun hHeld => ?_)
 refine takeF 0 (some 69) ?_; refine takeF 1 (some 70) ?_; refine takeF 2 (some 71) ?_
 (refine takeE (i := 3) (some 72) rfl rfl (by kernel_rfl) (v := .agg (hdC h1 v1).toArray) rfl (fun W hSW => exec_loadAt _ rfl b o rfl hSW.2.1) (by assumption) ?_; try simp only [Act.put, pA, pB, pC])
 refine takeF 4 (some 73) ?_; refine takeF 5 (some 74) ?_; refine takeF 8 (some 77) ?_; refine takeF 9 (some 78) ?_; refine takeF 11 (some 80) ?_; refine takeF 12 (some 81) ?_; refine takeF 13 (some 82) ?_
 (refine takeE (i := 14) (some 83) rfl rfl (by kernel_rfl) (v := .agg (hdC h2 v2).toArray) rfl (fun W hSW => exec_loadAt _ rfl b (o + 16) rfl hSW.2.2.1) (by assumption) ?_; try simp only [Act.put, pA, pB, pC])
 refine takeF 15 (some 84) ?_; refine takeF 16 (some 85) ?_
 (refine wpAnyH_ready (rs := [6]) (by kernel_rfl) (by simp) ?_; refine AllReadyH.cons (o := _) rfl (fun K hK => ?_) AllReadyH.nil; go_simp; (go_at_call 82; refine (HL.out _).mono ?_; rintro e w0 ⟨rfl, hw0⟩; have HB0 := hide (hw0 ▸ HBd.out); clear hw0); refine hK.out _ _ (HS.out w0 HB0.out) (fun hHeld => ?_); clear hK K; try simp only [Act.put, pA, pB, pC])
 (refine wpAnyH_ready (rs := [7]) (by kernel_rfl) (by simp) ?_; refine AllReadyH.cons (o := _) rfl (fun K hK => ?_) AllReadyH.nil; go_simp; (go_at_call 110; refine (H1.out _ (HBw.out _ HB0.out)).mono ?_; rintro e w1 ⟨rfl, hb1⟩; have HB1 := hide (HB0.out.trans (hb1.mono (by have := HB0.out.size; simpa using this))); clear hb1); refine hK.out _ _ (HS.out w1 HB1.out) (fun hHeld => ?_); clear hK K; try simp only [Act.put, pA, pB, pC])
 refine takeF 10 (some 79) ?_
 (refine wpAnyH_ready (rs := [17]) (by kernel_rfl) (by simp) ?_; refine AllReadyH.cons (o := _) rfl (fun K hK => ?_) AllReadyH.nil; go_simp; (go_at_call 82; refine (HL.out _).mono ?_; rintro e w2 ⟨rfl, hw2⟩; have HB2 := hide (hw2 ▸ HB1.out); clear hw2); refine hK.out _ _ (HS.out w2 HB2.out) (fun hHeld => ?_); clear hK K; try simp only [Act.put, pA, pB, pC])
 refine takeF 18 (some 87) ?_
 (refine wpAnyH_ready (rs := [19]) (by kernel_rfl) (by simp) ?_; refine AllReadyH.cons (o := _) rfl (fun K hK => ?_) AllReadyH.nil; go_simp; (go_at_call 110; refine (H2.out _ (HBw.out _ HB2.out)).mono ?_; rintro e w3 ⟨rfl, hb3⟩; have HB3 := hide (HB2.out.trans (hb3.mono (by have := HB2.out.size; simpa using this))); clear hb3); refine hK.out _ _ (HS.out w3 HB3.out) (fun hHeld => ?_); clear hK K; try simp only [Act.put, pA, pB, pC])
 refine takeF 20 (some 89) ?_; refine takeF 21 (some 2) ?_
 refine wpAnyH_done (by kernel_rfl) ?_ _
 go_wp2
 go_ret
 exact ⟨congrArg (fun z => Ending.returned (Value.string z)) (show (⟨s1.toArray⟩ : ByteArray) ++ ⟨h.txt.toArray⟩ ++ ⟨s2.toArray⟩ = _ by rw [Pla.ba_app, Pla.ba_app]), HBw.out _ HB3.out⟩
theorem text_one (h h1 : Hd) (k1 : Fo) (s1 : List UInt8) (hk : h.kind = 6) (ht1 : TextC h1 k1 s1) (z1 : s1.length ≤ 100) (z3 : h.txt.length ≤ 100) :
  TextC h (.cons h1 k1 .nil) (h.txt ++ [40] ++ s1 ++ [41]) := by
 intro D v w hD hkv
 obtain ⟨a, n, cap, rfl, hn, hkv⟩ := hkv
 obtain ⟨b, o, rfl, hc1, hc2, hrow⟩ : ∃ b o, a = some ⟨b, o, none⟩ ∧ n ≤ cap ∧ cap ≤ maxLen ∧ Row w D (.cons h1 k1 .nil) b o := by
  rcases hkv with e | e
  ·
   cases e
  ·
   exact e
 obtain ⟨d1, ⟨v1, x1, y1⟩, hrow2⟩ := row_cons.1 hrow
 have hn2 : n = 1 := by simpa [Fo.len] using hn
 subst hn2
 have HX : Hid (∀ W : World, Below w.heap.size w W → (∀ j, j < 16 → W.cell? ⟨b, o + j, none⟩ = (hdC h1 v1)[j]?)) := fun W hW => fun j hj => by rw [hW.cell (p := ⟨b, o + j, none⟩) (hD b d1)]; exact x1 j hj
 have H1 : Hid (∀ W : World, Below w.heap.size w W → Calls Tryz.prog 88 #[.agg (hdC h1 v1).toArray] W fun e w' => e = .returned (.string ⟨s1.toArray⟩) ∧ Below W.heap.size W w') := fun W hW => ht1 D v1 W (fun c hc => Nat.lt_of_lt_of_le (hD c hc) hW.size) (kv_to y1 (fun b hb => ⟨hb, hW.block b (hD b hb)⟩))
 have B := Box.new w (hdC h (.slice (some ⟨b, o, none⟩) 1 cap))
 have p0 := B.cell 0 (.int .i64 h.kind) rfl
 have p14 := B.cell 14 (.string ⟨h.txt.toArray⟩) rfl
 have p15 := B.cell 15 (.slice (some ⟨b, o, none⟩) 1 cap) rfl
 rw [hk] at p0
 have HB := hide ((Below.refl w.heap.size w).alloc (Nat.le_refl _) (.cells (hdC h (.slice (some ⟨b, o, none⟩) 1 cap)).toArray 33))
 clear hk ht1 hrow hrow2 d1 x1 y1 hkv hn hD B
 go_enter Tryz.func88, Tryz.ntmps88
 go_wp2
 go_loopw [11, 12] (fun us ui wr => ((us = .string (⟨h.txt.toArray⟩ ++ ⟨#[40]⟩) ∧ ui = .int .i64 0) ∨ (us = .string (⟨h.txt.toArray⟩ ++ ⟨#[40]⟩ ++ ⟨s1.toArray⟩) ∧ ui = .int .i64 1)) ∧ Below w.heap.size w wr ∧ w.heap.size < wr.heap.size ∧ wr.cell? ⟨w.heap.size, 15, none⟩ = some (.slice (some ⟨b, o, none⟩) 1 cap)) (fun _ ui _ => 1 - (intOf ui).toNat)
 case atStart => exact ⟨.inl ⟨rfl, rfl⟩, HB.out, by simp, p15⟩
 case round =>
  clear p15 p14 p0
  obtain ⟨hq, hB, hz, c15⟩ := hrel
  have HBr := hide hB
  have HX' := hide (HX.out _ hB)
  clear hB
  rcases hq with ⟨rfl, rfl⟩ | ⟨rfl, rfl⟩
  ·
   go_wp2_with (first | (with_reducible refine wpl_id ?_; refine wpl_loadAt rfl _ rfl _ _ rfl HX'.out ?_) | (go_at_call 88; refine (H1.out _ HBr.out).mono ?_; rintro e w1 ⟨rfl, hb1⟩; have HB1 := hide (bar_below HBr.out (Bar.of hb1)); have HZ1 : Hid (wr.heap.size ≤ w1.heap.size) := hb1.size; have k15 : w1.cell? ⟨w.heap.size, 15, none⟩ = some (.slice (some ⟨b, o, none⟩) 1 cap) := by { rw [hb1.cell (p := ⟨w.heap.size, 15, none⟩) hz]; exact c15 }; clear hb1))
   go_roundw
   case rel => exact ⟨.inr ⟨rfl, rfl⟩, HB1.out, by have := HZ1.out; omega, k15⟩
   case measure => simp [intOf]
  ·
   go_wp2
   go_ret
   exact ⟨congrArg (fun z => Ending.returned (Value.string z)) (show (⟨h.txt.toArray⟩ : ByteArray) ++ ⟨([40] : List UInt8).toArray⟩ ++ ⟨s1.toArray⟩ ++ ⟨([41] : List UInt8).toArray⟩ = _ by rw [Pla.ba_app, Pla.ba_app, Pla.ba_app]), HBr.out⟩
end Go.Proofs.YtfpmmckpobpokaaGreat
