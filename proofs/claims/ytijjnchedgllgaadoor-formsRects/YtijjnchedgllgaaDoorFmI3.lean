/-
  The contract of the answer's called.
-/
import Derived.Test.YtijjnchedgllgaaDoorFmU
import Derived.Test.YtijjnchedgllgaaDoorFmE0b
namespace Go.Proofs.YtijjnchedgllgaaDoor
open Go.RowKit Go.Shelf

theorem uses_kid (s : ByteArray) (h : Hd) (k r : Fo) : usesB s (preF (.cons h k r)) = (usesB s (preF (.cons h k .nil)) || usesB s (preF r)) := by
  simp [usesB, preF, Bool.or_assoc]
theorem uses_node (s : ByteArray) (h : Hd) (k : Fo) : usesB s (preF (.cons h k .nil)) = ((decide (h.kind = 6) && decide ((⟨h.txt.toArray⟩ : ByteArray) = s)) || usesB s (preF k)) := by
  simp [usesB, preF]
/-- The contract of called, for kids. -/
def CalledC (k : Fo) : Prop :=
  ∀ (D : Nat → Prop) (h : Hd) (v : Value) (s : ByteArray) (w : World), (∀ c, D c → c < w.heap.size) → Kv w D v k →
    Calls Tryd.prog 33 #[.agg (hdC h v).toArray, .string s] w fun e w' => e = .returned (.bool (usesB s (preF (.cons h k .nil)))) ∧ Below w.heap.size w w'
def CalledA : Fo → Prop
  | .nil => True
  | .cons _ k r => CalledC k ∧ CalledA r
set_option maxRecDepth 100000 in
set_option maxHeartbeats 4000000 in
theorem called_step (k : Fo) (hA : CalledA k) : CalledC k := by
  intro D h v s w hD hk
  obtain ⟨a, n, cap, rfl, hn, hk⟩ := hk
  subst hn
  obtain ⟨R, hR⟩ : ∃ R, R = usesB s (preF (.cons h k .nil)) := ⟨_, rfl⟩
  rw [← hR]
  rw [uses_node] at hR
  have hx := Box.new w (hdC h (.slice a k.len cap))
  have p0 := hx.cell 0 (.int .i64 h.kind) rfl
  have p14 := hx.cell 14 (.string ⟨h.txt.toArray⟩) rfl
  have p15 := hx.cell 15 (.slice a k.len cap) rfl
  have HK1 := hide hk
  have HA := hide hA
  have HB0 := hide ((Below.refl w.heap.size w).alloc (Nat.le_refl _) (.cells (hdC h (.slice a k.len cap)).toArray 44))
  clear hk hA hx
  have hb : ∃ b : Bool, R = (b || usesB s (preF k)) ∧ (((h.kind == 6) = true ∧ (h.txt == s.toList) = b) ∨ ((h.kind == 6) = false ∧ b = false)) := by
    by_cases h6 : h.kind = 6
    · refine ⟨decide ((⟨h.txt.toArray⟩ : ByteArray) = s), ?_, .inl ⟨by simpa using h6, ?_⟩⟩
      · rw [hR]; simp [h6]
      · rw [Bool.eq_iff_iff]
        simp only [beq_iff_eq, decide_eq_true_eq]
        constructor
        · intro e
          rw [← bytes_of_list s, ← toList_data, ← e]
        · rintro rfl
          rw [toList_data]
    · exact ⟨false, by rw [hR]; simp [h6], .inr ⟨by simpa using h6, rfl⟩⟩
  clear hR
  obtain ⟨b, hR, hb⟩ := hb
  have HR := hide hR
  clear hR
  rcases hb with ⟨e6, et⟩ | ⟨e6, rfl⟩
  · go_enter Tryd.func33, Tryd.ntmps33
    go_wp2
    go_loopw [5, 6] (fun us ui wr => ∃ (i : Nat) (F : Fo) (b : Bool), us = .bool b ∧ ui = .int .i64 (i : Int) ∧ i + F.len = k.len ∧ (F = .nil ∨ ∃ b' o', a = some ⟨b', o', none⟩ ∧ k.len ≤ cap ∧ cap ≤ maxLen ∧ Row w D F b' (o' + i * 16)) ∧ CalledA F ∧ Below w.heap.size w wr ∧ w.heap.size < wr.heap.size ∧ wr.cell? ⟨w.heap.size, 15, none⟩ = some (.slice a k.len cap) ∧ R = (b || usesB s (preF F))) (fun _ ui _ => k.len - (intOf ui).toNat)
    case atStart =>
      refine ⟨0, k, _, rfl, rfl, by omega, ?_, HA.out, HB0.out, by simp, p15, HR.out⟩
      rcases HK1.out with e | ⟨b', o', e1, e2, e3, e4⟩
      · exact .inl e
      · exact .inr ⟨b', o', e1, e2, e3, by simpa using e4⟩
    case round =>
      clear p0 p14 p15 e6 et
      obtain ⟨i, F, b, rfl, rfl, hl, hF, hAF, hB, hz, c15, hq⟩ := hrel
      have HB := hide hB
      have HQ := hide hq
      have hsz := hB.size
      clear hB hq
      match F, hl, hF, hAF, HQ with
      | .nil, hl, _, _, HQ =>
        have hli : ¬ (i : Int) < (k.len : Int) := by simp [Fo.len] at hl; omega
        go_wp2
        go_ret
        exact ⟨by rw [HQ.out]; simp [preF, usesB], HB.out⟩
      | .cons h1 k1 r1, hl, hF, hAF, HQ =>
        have hli : (i : Int) < (k.len : Int) := by simp [Fo.len] at hl; omega
        have hl2 : i + 1 + r1.len = k.len := by simp [Fo.len] at hl; omega
        obtain ⟨b1, o1, rfl, hcap1, hcap2, hrw⟩ : ∃ b' o', a = some ⟨b', o', none⟩ ∧ k.len ≤ cap ∧ cap ≤ maxLen ∧ Row w D (.cons h1 k1 r1) b' (o' + i * 16) := by
          rcases hF with e | e
          · cases e
          · exact e
        obtain ⟨d1, ⟨v1, x1, y1⟩, z1⟩ := row_cons.1 hrw
        have HR1 : Hid (Row w D r1 b1 (o1 + (i + 1) * 16)) := by rw [show o1 + (i + 1) * 16 = o1 + i * 16 + 16 by omega]; exact z1
        have HX : Hid (∀ j, j < 16 → wr.cell? ⟨b1, o1 + i * 16 + j, none⟩ = (hdC h1 v1)[j]?) := fun j hj => by rw [HB.out.cell (p := ⟨b1, o1 + i * 16 + j, none⟩) (hD b1 d1)]; exact x1 j hj
        obtain ⟨hA1, hA2⟩ := hAF
        have HA2 := hide hA2
        have HM := hide hcap2
        unfold maxLen at hcap2
        have HC : Hid (∀ W : World, Below w.heap.size w W → Calls Tryd.prog 33 #[.agg (hdC h1 v1).toArray, .string s] W fun e w' => e = .returned (.bool (usesB s (preF (.cons h1 k1 .nil)))) ∧ Below W.heap.size W w') := fun W hW =>
          hA1 D h1 v1 s W (fun c hc => Nat.lt_of_lt_of_le (hD c hc) hW.size) (kv_to y1 (fun c hc => ⟨hc, hW.block c (hD c hc)⟩))
        have HQ2 : Hid (R = ((b || usesB s (preF (.cons h1 k1 .nil))) || usesB s (preF r1))) := by
          have e := HQ.out
          rw [uses_kid, ← Bool.or_assoc] at e
          exact e
        clear HQ hrw d1 x1 y1 z1 hA1 hA2 hF hl
        generalize usesB s (preF (.cons h1 k1 .nil)) = q at *
        cases b with
        | true =>
          go_wp2_with (first | (with_reducible refine wpl_id ?_; refine wpl_loadAtG _ _ rfl _ _ rfl HX.out ?_))
          go_roundw
          case rel => exact ⟨i + 1, r1, true, rfl, by go_num, by omega, .inr ⟨b1, o1, rfl, hcap1, HM.out, HR1.out⟩, HA2.out, HB.out, hz, c15, by rw [HQ2.out]; simp⟩
          case measure => simp [intOf]; omega
        | false =>
          go_wp2_with (first | (with_reducible refine wpl_id ?_; refine wpl_loadAtG rfl _ rfl _ _ rfl HX.out ?_) | (go_at_call 33; refine (HC.out _ HB.out).mono ?_; rintro e w1 ⟨rfl, hb1⟩; have HB1 := hide (HB.out.trans (hb1.mono hsz)); have hz1 := Nat.lt_of_lt_of_le hz hb1.size; have k15 : w1.cell? ⟨w.heap.size, 15, none⟩ = some (.slice (some ⟨b1, o1, none⟩) k.len cap) := (hb1.cell (p := ⟨w.heap.size, 15, none⟩) hz).trans c15; clear hb1))
          go_roundw
          case rel => exact ⟨i + 1, r1, q, rfl, by go_num, by omega, .inr ⟨b1, o1, rfl, hcap1, HM.out, HR1.out⟩, HA2.out, HB1.out, hz1, k15, by rw [HQ2.out]; simp⟩
          case measure => simp [intOf]; omega
  · go_enter Tryd.func33, Tryd.ntmps33
    go_wp2
    go_loopw [5, 6] (fun us ui wr => ∃ (i : Nat) (F : Fo) (b : Bool), us = .bool b ∧ ui = .int .i64 (i : Int) ∧ i + F.len = k.len ∧ (F = .nil ∨ ∃ b' o', a = some ⟨b', o', none⟩ ∧ k.len ≤ cap ∧ cap ≤ maxLen ∧ Row w D F b' (o' + i * 16)) ∧ CalledA F ∧ Below w.heap.size w wr ∧ w.heap.size < wr.heap.size ∧ wr.cell? ⟨w.heap.size, 15, none⟩ = some (.slice a k.len cap) ∧ R = (b || usesB s (preF F))) (fun _ ui _ => k.len - (intOf ui).toNat)
    case atStart =>
      refine ⟨0, k, _, rfl, rfl, by omega, ?_, HA.out, HB0.out, by simp, p15, HR.out⟩
      rcases HK1.out with e | ⟨b', o', e1, e2, e3, e4⟩
      · exact .inl e
      · exact .inr ⟨b', o', e1, e2, e3, by simpa using e4⟩
    case round =>
      clear p0 p14 p15 e6
      obtain ⟨i, F, b, rfl, rfl, hl, hF, hAF, hB, hz, c15, hq⟩ := hrel
      have HB := hide hB
      have HQ := hide hq
      have hsz := hB.size
      clear hB hq
      match F, hl, hF, hAF, HQ with
      | .nil, hl, _, _, HQ =>
        have hli : ¬ (i : Int) < (k.len : Int) := by simp [Fo.len] at hl; omega
        go_wp2
        go_ret
        exact ⟨by rw [HQ.out]; simp [preF, usesB], HB.out⟩
      | .cons h1 k1 r1, hl, hF, hAF, HQ =>
        have hli : (i : Int) < (k.len : Int) := by simp [Fo.len] at hl; omega
        have hl2 : i + 1 + r1.len = k.len := by simp [Fo.len] at hl; omega
        obtain ⟨b1, o1, rfl, hcap1, hcap2, hrw⟩ : ∃ b' o', a = some ⟨b', o', none⟩ ∧ k.len ≤ cap ∧ cap ≤ maxLen ∧ Row w D (.cons h1 k1 r1) b' (o' + i * 16) := by
          rcases hF with e | e
          · cases e
          · exact e
        obtain ⟨d1, ⟨v1, x1, y1⟩, z1⟩ := row_cons.1 hrw
        have HR1 : Hid (Row w D r1 b1 (o1 + (i + 1) * 16)) := by rw [show o1 + (i + 1) * 16 = o1 + i * 16 + 16 by omega]; exact z1
        have HX : Hid (∀ j, j < 16 → wr.cell? ⟨b1, o1 + i * 16 + j, none⟩ = (hdC h1 v1)[j]?) := fun j hj => by rw [HB.out.cell (p := ⟨b1, o1 + i * 16 + j, none⟩) (hD b1 d1)]; exact x1 j hj
        obtain ⟨hA1, hA2⟩ := hAF
        have HA2 := hide hA2
        have HM := hide hcap2
        unfold maxLen at hcap2
        have HC : Hid (∀ W : World, Below w.heap.size w W → Calls Tryd.prog 33 #[.agg (hdC h1 v1).toArray, .string s] W fun e w' => e = .returned (.bool (usesB s (preF (.cons h1 k1 .nil)))) ∧ Below W.heap.size W w') := fun W hW =>
          hA1 D h1 v1 s W (fun c hc => Nat.lt_of_lt_of_le (hD c hc) hW.size) (kv_to y1 (fun c hc => ⟨hc, hW.block c (hD c hc)⟩))
        have HQ2 : Hid (R = ((b || usesB s (preF (.cons h1 k1 .nil))) || usesB s (preF r1))) := by
          have e := HQ.out
          rw [uses_kid, ← Bool.or_assoc] at e
          exact e
        clear HQ hrw d1 x1 y1 z1 hA1 hA2 hF hl
        generalize usesB s (preF (.cons h1 k1 .nil)) = q at *
        cases b with
        | true =>
          go_wp2_with (first | (with_reducible refine wpl_id ?_; refine wpl_loadAtG _ _ rfl _ _ rfl HX.out ?_))
          go_roundw
          case rel => exact ⟨i + 1, r1, true, rfl, by go_num, by omega, .inr ⟨b1, o1, rfl, hcap1, HM.out, HR1.out⟩, HA2.out, HB.out, hz, c15, by rw [HQ2.out]; simp⟩
          case measure => simp [intOf]; omega
        | false =>
          go_wp2_with (first | (with_reducible refine wpl_id ?_; refine wpl_loadAtG rfl _ rfl _ _ rfl HX.out ?_) | (go_at_call 33; refine (HC.out _ HB.out).mono ?_; rintro e w1 ⟨rfl, hb1⟩; have HB1 := hide (HB.out.trans (hb1.mono hsz)); have hz1 := Nat.lt_of_lt_of_le hz hb1.size; have k15 : w1.cell? ⟨w.heap.size, 15, none⟩ = some (.slice (some ⟨b1, o1, none⟩) k.len cap) := (hb1.cell (p := ⟨w.heap.size, 15, none⟩) hz).trans c15; clear hb1))
          go_roundw
          case rel => exact ⟨i + 1, r1, q, rfl, by go_num, by omega, .inr ⟨b1, o1, rfl, hcap1, HM.out, HR1.out⟩, HA2.out, HB1.out, hz1, k15, by rw [HQ2.out]; simp⟩
          case measure => simp [intOf]; omega
theorem called_all : ∀ (F : Fo), CalledA F
  | .nil => trivial
  | .cons _ k r => ⟨called_step k (called_all k), called_all r⟩
end Go.Proofs.YtijjnchedgllgaaDoor
