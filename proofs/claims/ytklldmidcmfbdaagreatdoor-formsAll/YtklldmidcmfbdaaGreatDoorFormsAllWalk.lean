/-
  The walk of FormsAll.
-/
import Derived.Test.YtklldmidcmfbdaaGreatDoorFmH3
import Derived.Test.YtklldmidcmfbdaaGreatDoorFmV
import Derived.Deep.RegionHeld3
namespace Go.Proofs.YtklldmidcmfbdaaGreatDoor
open Go.RowKit Go.Shelf

theorem idxM (p : Int) : ∃ i : Nat, i < 86 ∧ IntKind.i64.wrap ((IntKind.u64.wrap p).tmod 86) = (i : Int) := by
  have h1 : 0 ≤ IntKind.u64.wrap p := by rw [IntKind.wrap_u64]; omega
  refine ⟨((IntKind.u64.wrap p) % 86).toNat, by omega, ?_⟩
  rw [Int.tmod_eq_emod_of_nonneg h1, IntKind.wrap_i64]
  omega
theorem all_one {G : List (Fu × Value)} (hp : (G.map Prod.fst).Perm fnsL) (hs : SortedG G) : G.map Prod.fst = refAll := by
  refine sorted_same _ _ ref_sorted (hp.trans ref_perm.symm) (List.pairwise_iff_getElem.2 fun i j hi hj hij => ?_)
  rw [List.getElem_map, List.getElem_map]
  exact hs i j _ _ hij (List.getElem?_eq_getElem _) (List.getElem?_eq_getElem _)
/-- Two rows of the same functions: at a place, one function in both. -/
theorem at_same {G M : List (Fu × Value)} (hG : G.map Prod.fst = refAll) (hM : M.map Prod.fst = refAll) {p : Nat} {f : Fu} {u : Value} (hx : G[p]? = some (f, u)) : ∃ v, M[p]? = some (f, v) := by
  have h : (M.map Prod.fst)[p]? = some f := by rw [hM, ← hG, List.getElem?_map, hx]; rfl
  rw [List.getElem?_map] at h
  obtain ⟨⟨f', v⟩, hy, rfl⟩ := Option.map_eq_some_iff.1 h
  exact ⟨v, hy⟩
theorem at_some {G : List (Fu × Value)} (hG : G.map Prod.fst = refAll) {p : Nat} (hp : p < 86) : ∃ f u, G[p]? = some (f, u) ∧ f ∈ fnsL := by
  have h1 : G.length = 86 := by rw [← List.length_map (f := Prod.fst), hG, ref_len]
  have e1 : G[p]? = some G[p] := List.getElem?_eq_getElem (by omega)
  have e3 : refAll[p]? = some G[p].1 := by rw [← hG, List.getElem?_map, e1]; rfl
  exact ⟨G[p].1, G[p].2, e1, ref_perm.subset (List.mem_of_getElem? e3)⟩
theorem wants_len (ws : ByteArray) (n : Nat) : (wantsI ws n).length = n := by simp [wantsI]
theorem Wts.ofN {n₀ : Nat} {W : World} {u : Value} {ws : ByteArray} (h : WtN n₀ W u ws) : Wts W u (wantsI ws ws.size) := by
  obtain ⟨p, cap, rfl, h⟩ := h
  refine ⟨p, cap, by rw [wants_len], ?_⟩
  rcases h with h | ⟨gw, rfl, _, h2, h3⟩
  · refine .inl (List.eq_nil_of_length_eq_zero (by rw [wants_len]; exact h))
  · refine .inr ⟨gw, rfl, fun W' hW i x hx => ?_⟩
    have hi : i < ws.size := by have := (List.getElem?_eq_some_iff.1 hx).1; rwa [wants_len] at this
    have e : x = wantAt ws i := by simpa [wantsI, hi] using hx.symm
    rw [e]
    exact (hW.cell (p := ⟨gw, i, none⟩) h2).trans (h3 i hi)
theorem WtN.ofB {n₀ : Nat} {W : World} {u : Value} {ws : ByteArray} (h : WtB n₀ W u ws) : WtN n₀ W u ws := by
  obtain ⟨p, cap, rfl, h⟩ := h
  refine ⟨p, cap, rfl, ?_⟩
  rcases h with h | ⟨gw, cs, rfl, h1, h2, h3⟩
  · exact .inl h
  · exact .inr ⟨gw, rfl, h1, (Array.getElem?_eq_some_iff.1 h2).1, fun i hi => by simp [World.cell?, h2, h3 i hi]⟩
/-- What the law's own loop leaves: only the block of the wants is another. -/
def Wrote (w w3 wr : World) (gw n : Nat) : Prop :=
  w3.heap.size ≤ wr.heap.size ∧ (∀ b, b ≠ gw → b < w3.heap.size → wr.heap[b]? = w3.heap[b]?) ∧ (0 < n → ∃ cs, wr.heap[gw]? = some (.cells cs 28 (0, 0)) ∧ n ≤ cs.size) ∧ Below w.heap.size w wr
theorem Wrote.set {w w3 wr : World} {gw n : Nat} (h : Wrote w w3 wr gw n) (hn : w.heap.size ≤ gw) (j : Nat) (v : Value) : Wrote w w3 (wr.setCell ⟨gw, j, none⟩ v) gw n := by
  obtain ⟨h1, h2, h3, h4⟩ := h
  refine ⟨by simpa using h1, fun b hb hl => (heap_setCell_other wr ⟨gw, j, none⟩ b v hb).trans (h2 b hb hl), fun h0 => ?_, h4.setCell (p := ⟨gw, j, none⟩) hn v⟩
  obtain ⟨cs, e, hc⟩ := h3 h0
  have := heap_setCell_same wr gw j cs 28 v e
  exact ⟨_, this, by simpa using hc⟩
theorem Wrote.cell {w w3 wr : World} {gw n : Nat} (h : Wrote w w3 wr gw n) {b j : Nat} (hb : b ≠ gw) (hl : b < w3.heap.size) : wr.cell? ⟨b, j, none⟩ = w3.cell? ⟨b, j, none⟩ := by
  simp only [World.cell?, h.2.1 b hb hl]
theorem Wrote.spot {w w3 wr : World} {gw n j : Nat} (h : Wrote w w3 wr gw n) (hj : j < n) : ∃ z, wr.cell? ⟨gw, j, none⟩ = some z := by
  obtain ⟨cs, e, hc⟩ := h.2.2.1 (by omega)
  exact ⟨cs[j], by simp [World.cell?, e, show j < cs.size by omega]⟩
theorem Wrote.free {w w3 wr : World} {gw n j : Nat} (h : Wrote w w3 wr gw n) (hn : 0 < n) : wr.frozen? ⟨gw, j, none⟩ = false := by
  obtain ⟨cs, e, _⟩ := h.2.2.1 hn
  exact frozen_of_row wr gw j cs _ e
set_option maxRecDepth 100000 in
set_option maxHeartbeats 4000000 in
theorem formsAll_walk (k : Int) (w : World) : Calls Tryz.prog 3 #[.int .i64 k] w fun e w' => e = .returned (.bool true) ∧ Below w.heap.size w w' := by
  have HA : Hid (∀ W : World, Calls Tryz.prog 5 #[] W fun e w' => ∃ (g cap : Nat) (G : List (Fu × Value)), e = .returned (.slice (some ⟨g, 0, none⟩) 86 cap) ∧ G.map Prod.fst = refAll ∧ AllAt W.heap.size w' g G ∧ W.heap.size ≤ g ∧ g < w'.heap.size ∧ Below W.heap.size W w') := fun W => by
    refine (all_any W).mono ?_
    rintro e w' ⟨g, cap, G, he, _, _, hpm, hso, hat, h1, h2, h3⟩
    exact ⟨g, cap, G, he, all_one hpm hso, hat, h1, h2, h3⟩
  have HR : Hid (∀ W : World, Calls Tryz.prog 6 #[] W fun e w' => ∃ (g cap : Nat) (G : List (Fu × Value)), e = .returned (.slice (some ⟨g, 0, none⟩) 86 cap) ∧ G.map Prod.fst = refAll ∧ FSl W.heap.size w' (.slice (some ⟨g, 0, none⟩) 86 cap) G ∧ Below W.heap.size W w') := fun W => rall_any W
  have HL : Hid (∀ W : World, Calls Tryz.prog 8 #[] W fun e w' => e = .returned (.bool true) ∧ Below W.heap.size W w') := fun W => lives9_any W
  obtain ⟨p, hp, hP⟩ := idxM k
  have h86 : IntKind.u64.wrap 86 = 86 := by decide
  have hp8 : ((p : Int) < 86) = True := eq_true (by omega)
  go_enter Tryz.func3, Tryz.ntmps3
  go_wp2_with (first | (go_at_call 5; refine (HA.out _).mono ?_; rintro e w1 ⟨g, cap, G, rfl, hG, hat, hg0, hg1, hb1⟩; have HG := hide hG; have HAt := hide hat; have HB1 := hide hb1; clear hG hat hb1) | (go_at_call 6; go_loud (refine (HR.out _).mono ?_; rintro e w2 ⟨gm, capm, M, rfl, hM, hfm, hb2⟩; have HFm := hide hfm; have HB2 := hide hb2; obtain ⟨f, u, hx, hf⟩ := at_some HG.out hp; obtain ⟨v, hy⟩ := at_same HG.out hM hx; have f0 := (hb2.cell (p := ⟨g, p * 4, none⟩) hg1).trans (HAt.out.1 p _ hx 0 (by omega)); have f1 := (hb2.cell (p := ⟨g, p * 4 + 1, none⟩) hg1).trans (HAt.out.1 p _ hx 1 (by omega)); have f2 := (hb2.cell (p := ⟨g, p * 4 + 2, none⟩) hg1).trans (HAt.out.1 p _ hx 2 (by omega)); have f3 := (hb2.cell (p := ⟨g, p * 4 + 3, none⟩) hg1).trans (HAt.out.1 p _ hx 3 (by omega)); have HX := hide hx; have HY := hide hy; have hwt : WtB w.heap.size w1 u f.wants := HAt.out.2 _ (List.mem_of_getElem? hx); have hff := (fn_fine hf).1; obtain ⟨fn, fl, fm, ws⟩ := f; replace hwt : WtB w.heap.size w1 u ws := hwt; obtain ⟨pu, cu, rfl, hu⟩ := hwt; have HU := hide hu; simp only [fvC, List.getElem?_cons_zero, List.getElem?_cons_succ] at f0 f1 f2 f3; clear hM hfm hb2 hx hy hf hu)))
  have hs1 := HB1.out.size
  have hs2 := HB2.out.size
  have hz3 : (w2.alloc (.cells #[.string fn, .int .i64 fl, .int .i64 fm, .slice pu ws.size cu] 27)).heap.size = w2.heap.size + 1 := by simp
  have k3 : (w2.alloc (.cells #[.string fn, .int .i64 fl, .int .i64 fm, .slice pu ws.size cu] 27)).heap[w2.heap.size]? = some (.cells #[.string fn, .int .i64 fl, .int .i64 fm, .slice pu ws.size cu] 27 (0, 0)) := World.alloc_heap_new w2 _
  have hB3 : Below w2.heap.size w2 (w2.alloc (.cells #[.string fn, .int .i64 fl, .int .i64 fm, .slice pu ws.size cu] 27)) := (Below.refl _ _).alloc (Nat.le_refl _) _
  generalize w2.alloc (.cells #[.string fn, .int .i64 fl, .int .i64 fm, .slice pu ws.size cu] 27) = w3 at *
  have hBw : Below w.heap.size w w3 := HB1.out.trans ((HB2.out.trans (hB3.mono hs2)).mono hs1)
  have c3 := (hB3.cell (p := ⟨g, p * 4 + 3, none⟩) (by show g < _; omega)).trans f3
  obtain ⟨gw, hgw, hgg, hgm, hgp, hgc⟩ : ∃ gw, w.heap.size ≤ gw ∧ gw ≠ g ∧ (∀ b, w1.heap.size ≤ b → b < w3.heap.size → b ≠ gw) ∧ (0 < ws.size → pu = some ⟨gw, 0, none⟩) ∧ (0 < ws.size → ∃ cs, w3.heap[gw]? = some (.cells cs 28 (0, 0)) ∧ ws.size ≤ cs.size) := by
    by_cases hz : ws.size = 0
    · exact ⟨w3.heap.size + 1, by omega, by omega, fun b _ _ => by omega, fun h => by omega, fun h => by omega⟩
    rcases HU.out with h0 | ⟨gw, cs, rfl, hn, hc, hj⟩
    · exact absurd h0 hz
    have hl := (Array.getElem?_eq_some_iff.1 hc).1
    refine ⟨gw, hn, fun e => ?_, fun b _ _ => by omega, fun _ => rfl, fun _ => ⟨cs, (hB3.block gw (by omega)).trans ((HB2.out.block gw hl).trans hc), ?_⟩⟩
    · subst e
      obtain ⟨f', u', h1, _⟩ := at_some HG.out (p := 0) (by omega)
      have h2 := HAt.out.1 0 _ h1 0 (by omega)
      simp [World.cell?, hc, hj 0 (by omega), fvC] at h2
    · have := (Array.getElem?_eq_some_iff.1 (hj (ws.size - 1) (by omega))).1
      omega
  have HW0 : Hid (Wrote w w3 w3 gw ws.size) := hide ⟨Nat.le_refl _, fun _ _ _ => rfl, hgc, hBw⟩
  have HC3 := hide c3
  have HK3 := hide k3
  have HB3 := hide hB3
  have HGm := hide hgm
  have HGp := hide hgp
  clear hgc hBw c3 k3 hB3 hgm hgp f0 f1 f2 f3
  go_loopw [7] (fun jv wr => ∃ j : Nat, jv = .int .i64 j ∧ j ≤ ws.size ∧ Wrote w w3 wr gw ws.size) (fun jv _ => ws.size - (intOf jv).toNat)
  case atStart => exact ⟨0, rfl, by omega, HW0.out⟩
  case round =>
    obtain ⟨j, rfl, hj, hwr⟩ := hrel
    have c3 := (hwr.cell (b := g) (j := p * 4 + 3) (Ne.symm hgg) (by omega)).trans HC3.out
    by_cases hlt : j < ws.size
    · have g1 : (j : Int) < ws.size := by omega
      obtain rfl := HGp.out (by omega)
      obtain ⟨z, hz⟩ := hwr.spot hlt
      have hfz := hwr.free (j := j) (by omega)
      have HWr := hide hwr
      clear hwr
      go_wp2
      go_roundw
      case rel => exact ⟨j + 1, by go_num, by omega, HWr.out.set hgw j _⟩
      case measure => simp [intOf]; omega
    · have g1 : ¬ (j : Int) < ws.size := by omega
      obtain rfl : j = ws.size := by omega
      have HWr := hide hwr
      clear hwr
      obtain ⟨w4, rfl⟩ : ∃ w4 : World, w4 = wr := ⟨_, rfl⟩
      go_wp2_with (go_at_call 5; refine (HA.out _).mono ?_; rintro e w5 ⟨g5, cap5, G5, rfl, hG5, hat5, hg50, hg51, hb5⟩; obtain ⟨u5, hx5⟩ := at_same HG.out hG5 HX.out; have HB5 := hide hb5; have hwt5 : WtB w4.heap.size w5 u5 ws := hat5.2 _ (List.mem_of_getElem? hx5); have HU5 := hide (WtN.ofB hwt5); obtain ⟨pu5, cu5, rfl, _⟩ := hwt5; have f0 := hat5.1 p _ hx5 0 (by omega); have f1 := hat5.1 p _ hx5 1 (by omega); have f2 := hat5.1 p _ hx5 2 (by omega); have f3 := hat5.1 p _ hx5 3 (by omega); simp only [fvC, List.getElem?_cons_zero, List.getElem?_cons_succ, Nat.add_zero] at f0 f1 f2 f3; clear hG5 hat5 hx5 hb5)
      have hs4 := HWr.out.1
      have hs5 := HB5.out.size
      have hz6 : (w5.alloc (.cells #[.string fn, .int .i64 fl, .int .i64 fm, .slice pu5 ws.size cu5] 27)).heap.size = w5.heap.size + 1 := by simp
      have k6 : (w5.alloc (.cells #[.string fn, .int .i64 fl, .int .i64 fm, .slice pu5 ws.size cu5] 27)).heap[w5.heap.size]? = some (.cells #[.string fn, .int .i64 fl, .int .i64 fm, .slice pu5 ws.size cu5] 27 (0, 0)) := World.alloc_heap_new w5 _
      have hB6 : Below w5.heap.size w5 (w5.alloc (.cells #[.string fn, .int .i64 fl, .int .i64 fm, .slice pu5 ws.size cu5] 27)) := (Below.refl _ _).alloc (Nat.le_refl _) _
      generalize w5.alloc (.cells #[.string fn, .int .i64 fl, .int .i64 fm, .slice pu5 ws.size cu5] 27) = w6 at *
      have hB46 : Below w4.heap.size w4 w6 := HB5.out.trans (hB6.mono hs5)
      have HB46 := hide hB46
      -- the blocks of the answer's row, and the law's own copy, are as they were
      have HO : Hid (∀ b j, w1.heap.size ≤ b → b < w3.heap.size → w6.cell? ⟨b, j, none⟩ = w3.cell? ⟨b, j, none⟩) := fun b j h1 h2 => by
        have e1 := hB46.cell (p := ⟨b, j, none⟩) (by show b < _; omega)
        exact e1.trans (HWr.out.cell (HGm.out b h1 h2) h2)
      obtain ⟨gm', rfl, hgm0, hgm1, hcm⟩ : ∃ gm', gm' = gm ∧ w1.heap.size ≤ gm' ∧ gm' < w2.heap.size ∧ ∀ j, j < 4 → w2.cell? ⟨gm', p * 4 + j, none⟩ = (fvR ((⟨fn, fl, fm, ws⟩ : Fu), v))[j]? := by
        rcases HFm.out.1 with ⟨rfl, _⟩ | ⟨g0, cap0, hv, _, _, h1, h2, h3⟩
        · have := HY.out
          simp at this
        · have e1 : gm = g0 := by simp at hv; exact hv.1
          subst e1
          exact ⟨_, rfl, h1, h2, fun j hj => h3 p _ HY.out j hj⟩
      have hwm : WtN w1.heap.size w6 v ws := by
        obtain ⟨q, cq, e, h⟩ := HFm.out.2 _ (List.mem_of_getElem? HY.out)
        refine ⟨q, cq, e, ?_⟩
        rcases h with h | ⟨gq, hq, h1, h2, h3⟩
        · exact .inl h
        · refine .inr ⟨gq, hq, h1, by omega, fun i hi => ?_⟩
          exact (HO.out gq i h1 (by omega)).trans ((HB3.out.cell (p := ⟨gq, i, none⟩) h2).trans (h3 i hi))
      have HWm := hide hwm
      obtain ⟨pv, cv, rfl, _⟩ := hwm
      have HU6 := hide (HU5.out.below hB6)
      have HSm : Hid (∀ W, Below w6.heap.size w6 W → Calls Tryz.prog 7 #[.agg #[.string fn, .int .i64 fl, .int .i64 fm, .slice pu5 ws.size cu5], .agg #[.string fn, .int .i64 fl, .int .i64 fm, .slice pv ws.size cv]] W fun e w' => e = .returned (.bool true) ∧ Below W.heap.size W w') := fun W hW =>
        same_eq fn fl fm _ _ (wantsI ws ws.size) W (by rw [wants_len]; exact hff) ((Wts.ofN HU6.out).below hW) ((Wts.ofN HWm.out).below hW)
      have HSc : Hid (∀ W, Below w6.heap.size w6 W → Below w6.heap.size w6 W ∧ W.cell? ⟨w2.heap.size, 0, none⟩ = some (.string fn) ∧ W.cell? ⟨gm', p * 4, none⟩ = some (.string fn) ∧ W.cell? ⟨gm', p * 4 + 1, none⟩ = some (.int .i64 fl) ∧ W.cell? ⟨gm', p * 4 + 2, none⟩ = some (.int .i64 fm) ∧ W.cell? ⟨gm', p * 4 + 3, none⟩ = some (.slice pv ws.size cv) ∧ W.cell? ⟨w5.heap.size, 0, none⟩ = some (.string fn) ∧ W.cell? ⟨w5.heap.size, 1, none⟩ = some (.int .i64 fl) ∧ W.cell? ⟨w5.heap.size, 2, none⟩ = some (.int .i64 fm) ∧ W.cell? ⟨w5.heap.size, 3, none⟩ = some (.slice pu5 ws.size cu5)) := fun W hW => by
        have o : ∀ b j, w1.heap.size ≤ b → b < w3.heap.size → W.cell? ⟨b, j, none⟩ = w3.cell? ⟨b, j, none⟩ := fun b j h1 h2 => (hW.cell (p := ⟨b, j, none⟩) (by show b < _; omega)).trans (HO.out b j h1 h2)
        have m : ∀ j, j < 4 → W.cell? ⟨gm', p * 4 + j, none⟩ = (fvR ((⟨fn, fl, fm, ws⟩ : Fu), .slice pv ws.size cv))[j]? := fun j hj => (o gm' _ hgm0 (by omega)).trans ((HB3.out.cell (p := ⟨gm', p * 4 + j, none⟩) hgm1).trans (hcm j hj))
        have e6 := (hW.block w5.heap.size (by omega)).trans k6
        refine ⟨hW, (o w2.heap.size 0 hs2 (by omega)).trans (by simp [World.cell?, HK3.out]), m 0 (by omega), m 1 (by omega), m 2 (by omega), m 3 (by omega), ?_, ?_, ?_, ?_⟩ <;> simp [World.cell?, e6]
      have hse : (fn.toList == fn.toList) = true := by simp
      have HBF : Hid (Below w.heap.size w w6) := hide (HWr.out.2.2.2.trans (hB46.mono (by have := HWr.out.2.2.2.size; omega)))
      have HB6 := hide hB6
      clear f0 f1 f2 f3 k6 hB6 hB46 hcm c3
      refine wp_region_held_drew (S := fun W => Below w6.heap.size w6 W ∧ W.cell? ⟨w2.heap.size, 0, none⟩ = some (.string fn) ∧ W.cell? ⟨gm', p * 4, none⟩ = some (.string fn) ∧ W.cell? ⟨gm', p * 4 + 1, none⟩ = some (.int .i64 fl) ∧ W.cell? ⟨gm', p * 4 + 2, none⟩ = some (.int .i64 fm) ∧ W.cell? ⟨gm', p * 4 + 3, none⟩ = some (.slice pv ws.size cv) ∧ W.cell? ⟨w5.heap.size, 0, none⟩ = some (.string fn) ∧ W.cell? ⟨w5.heap.size, 1, none⟩ = some (.int .i64 fl) ∧ W.cell? ⟨w5.heap.size, 2, none⟩ = some (.int .i64 fm) ∧ W.cell? ⟨w5.heap.size, 3, none⟩ = some (.slice pu5 ws.size cu5)) (by kernel_rfl) (HSc.out _ (Below.refl _ _).drew) (fun hHeld => ?_)
      (refine takeD (i := 0) (some 53) rfl rfl (by kernel_rfl) (by kernel_rfl) (by kernel_rfl) (fun _ _ _ h => h) (v := ?_) rfl ?_ (by assumption) ?_; rotate_left; (focus (intro w hSw; (try dsimp only at hSw); first | (go_simp; done) | (go_simp; with_reducible rfl))); try simp only [Act.put, List.setIfInBounds_toArray, List.set_cons_zero, List.set_cons_succ]); (refine takeD (i := 1) (some 54) rfl rfl (by kernel_rfl) (by kernel_rfl) (by kernel_rfl) (fun _ _ _ h => h) (v := ?_) rfl ?_ (by assumption) ?_; rotate_left; (focus (intro w hSw; (try dsimp only at hSw); first | (go_simp; done) | (go_simp; with_reducible rfl))); try simp only [Act.put, List.setIfInBounds_toArray, List.set_cons_zero, List.set_cons_succ]); (refine takeD (i := 2) (some 55) rfl rfl (by kernel_rfl) (by kernel_rfl) (by kernel_rfl) (fun _ _ _ h => h) (v := ?_) rfl ?_ (by assumption) ?_; rotate_left; (focus (intro w hSw; (try dsimp only at hSw); first | (go_simp; done) | (go_simp; with_reducible rfl))); try simp only [Act.put, List.setIfInBounds_toArray, List.set_cons_zero, List.set_cons_succ]); (refine takeD (i := 3) (some 56) rfl rfl (by kernel_rfl) (by kernel_rfl) (by kernel_rfl) (fun _ _ _ h => h) (v := ?_) rfl ?_ (by assumption) ?_; rotate_left; (focus (intro w hSw; (try dsimp only at hSw); first | (go_simp; done) | (go_simp; with_reducible rfl))); try simp only [Act.put, List.setIfInBounds_toArray, List.set_cons_zero, List.set_cons_succ]); (refine takeD (i := 4) (some 57) rfl rfl (by kernel_rfl) (by kernel_rfl) (by kernel_rfl) (fun _ _ _ h => h) (v := ?_) rfl ?_ (by assumption) ?_; rotate_left; (focus (intro w hSw; (try dsimp only at hSw); first | (go_simp; done) | (go_simp; with_reducible rfl))); try simp only [Act.put, List.setIfInBounds_toArray, List.set_cons_zero, List.set_cons_succ]); (refine takeD (i := 5) (some 58) rfl rfl (by kernel_rfl) (by kernel_rfl) (by kernel_rfl) (fun _ _ _ h => h) (v := ?_) rfl ?_ (by assumption) ?_; rotate_left; (focus (intro w hSw; (try dsimp only at hSw); first | (go_simp; done) | (go_simp; with_reducible rfl))); try simp only [Act.put, List.setIfInBounds_toArray, List.set_cons_zero, List.set_cons_succ]); (refine takeD (i := 6) (some 59) rfl rfl (by kernel_rfl) (by kernel_rfl) (by kernel_rfl) (fun _ _ _ h => h) (v := ?_) rfl ?_ (by assumption) ?_; rotate_left; (focus (intro w hSw; (try dsimp only at hSw); first | (go_simp; done) | (go_simp; with_reducible rfl))); try simp only [Act.put, List.setIfInBounds_toArray, List.set_cons_zero, List.set_cons_succ]); (refine takeD (i := 7) (some 60) rfl rfl (by kernel_rfl) (by kernel_rfl) (by kernel_rfl) (fun _ _ _ h => h) (v := ?_) rfl ?_ (by assumption) ?_; rotate_left; (focus (intro w hSw; (try dsimp only at hSw); first | (go_simp; done) | (go_simp; with_reducible rfl))); try simp only [Act.put, List.setIfInBounds_toArray, List.set_cons_zero, List.set_cons_succ]); (refine takeD (i := 8) (some 61) rfl rfl (by kernel_rfl) (by kernel_rfl) (by kernel_rfl) (fun _ _ _ h => h) (v := ?_) rfl ?_ (by assumption) ?_; rotate_left; (focus (intro w hSw; (try dsimp only at hSw); first | (go_simp; done) | (go_simp; with_reducible rfl))); try simp only [Act.put, List.setIfInBounds_toArray, List.set_cons_zero, List.set_cons_succ]); (refine takeD (i := 9) (some 62) rfl rfl (by kernel_rfl) (by kernel_rfl) (by kernel_rfl) (fun _ _ _ h => h) (v := ?_) rfl ?_ (by assumption) ?_; rotate_left; (focus (intro w hSw; (try dsimp only at hSw); first | (go_simp; done) | (go_simp; with_reducible rfl))); try simp only [Act.put, List.setIfInBounds_toArray, List.set_cons_zero, List.set_cons_succ]); (refine takeD (i := 10) (some 63) rfl rfl (by kernel_rfl) (by kernel_rfl) (by kernel_rfl) (fun _ _ _ h => h) (v := ?_) rfl ?_ (by assumption) ?_; rotate_left; (focus (intro w hSw; (try dsimp only at hSw); first | (go_simp; done) | (go_simp; with_reducible rfl))); try simp only [Act.put, List.setIfInBounds_toArray, List.set_cons_zero, List.set_cons_succ]); (refine takeD (i := 11) (some 64) rfl rfl (by kernel_rfl) (by kernel_rfl) (by kernel_rfl) (fun _ _ _ h => h) (v := ?_) rfl ?_ (by assumption) ?_; rotate_left; (focus (intro w hSw; (try dsimp only at hSw); first | (go_simp; done) | (go_simp; with_reducible rfl))); try simp only [Act.put, List.setIfInBounds_toArray, List.set_cons_zero, List.set_cons_succ]); (refine takeD (i := 12) (some 65) rfl rfl (by kernel_rfl) (by kernel_rfl) (by kernel_rfl) (fun _ _ _ h => h) (v := ?_) rfl ?_ (by assumption) ?_; rotate_left; (focus (intro w hSw; (try dsimp only at hSw); first | (go_simp; done) | (go_simp; with_reducible rfl))); try simp only [Act.put, List.setIfInBounds_toArray, List.set_cons_zero, List.set_cons_succ]); (refine takeD (i := 13) (some 66) rfl rfl (by kernel_rfl) (by kernel_rfl) (by kernel_rfl) (fun _ _ _ h => h) (v := ?_) rfl ?_ (by assumption) ?_; rotate_left; (focus (intro w hSw; (try dsimp only at hSw); first | (go_simp; done) | (go_simp; with_reducible rfl))); try simp only [Act.put, List.setIfInBounds_toArray, List.set_cons_zero, List.set_cons_succ])
      (refine wpAnyH_ready (rs := [14]) (by kernel_rfl) (by simp) ?_; refine AllReadyH.cons (o := _) rfl (fun K hK => ?_) AllReadyH.nil; go_simp; go_at_call 7; refine (HSm.out _ (Below.refl _ _).drew).mono ?_; rintro e w7 ⟨rfl, hb7⟩; have hb7' := (Below.refl _ w6).drew.trans (hb7.mono (Nat.le_refl _)); refine hK.out _ _ (HSc.out _ hb7') (fun hHeld => ?_); clear hK K; try simp only [Act.put, List.setIfInBounds_toArray, List.set_cons_zero, List.set_cons_succ])
      (refine takeD (i := 15) (some 68) rfl rfl (by kernel_rfl) (by kernel_rfl) (by kernel_rfl) (fun _ _ _ h => h) (v := ?_) rfl ?_ (by assumption) ?_; rotate_left; (focus (intro w hSw; (try dsimp only at hSw); first | (go_simp; done) | (go_simp; with_reducible rfl))); try simp only [Act.put, List.setIfInBounds_toArray, List.set_cons_zero, List.set_cons_succ]); (refine takeD (i := 16) (some 69) rfl rfl (by kernel_rfl) (by kernel_rfl) (by kernel_rfl) (fun _ _ _ h => h) (v := ?_) rfl ?_ (by assumption) ?_; rotate_left; (focus (intro w hSw; (try dsimp only at hSw); first | (go_simp; done) | (go_simp; with_reducible rfl))); try simp only [Act.put, List.setIfInBounds_toArray, List.set_cons_zero, List.set_cons_succ])
      (refine wpAnyH_ready (rs := [17]) (by kernel_rfl) (by simp) ?_; refine AllReadyH.cons (o := _) rfl (fun K hK => ?_) AllReadyH.nil; go_simp; go_at_call 8; refine (HL.out _).mono ?_; rintro e w8 ⟨rfl, hb8⟩; have hb8' := hb7'.trans (hb8.mono hb7'.size); refine hK.out _ _ (HSc.out _ hb8') (fun hHeld => ?_); clear hK K; try simp only [Act.put, List.setIfInBounds_toArray, List.set_cons_zero, List.set_cons_succ])
      (refine takeD (i := 18) (some 71) rfl rfl (by kernel_rfl) (by kernel_rfl) (by kernel_rfl) (fun _ _ _ h => h) (v := ?_) rfl ?_ (by assumption) ?_; rotate_left; (focus (intro w hSw; (try dsimp only at hSw); first | (go_simp; done) | (go_simp; with_reducible rfl))); try simp only [Act.put, List.setIfInBounds_toArray, List.set_cons_zero, List.set_cons_succ]); (refine takeD (i := 19) (some 2) rfl rfl (by kernel_rfl) (by kernel_rfl) (by kernel_rfl) (fun _ _ _ h => h) (v := ?_) rfl ?_ (by assumption) ?_; rotate_left; (focus (intro w hSw; (try dsimp only at hSw); first | (go_simp; done) | (go_simp; with_reducible rfl))); try simp only [Act.put, List.setIfInBounds_toArray, List.set_cons_zero, List.set_cons_succ])
      refine wpAnyH_done (by kernel_rfl) ?_ _
      go_wp2
      go_ret
      exact ⟨rfl, HBF.out.trans (hb8'.mono HBF.out.size)⟩
end Go.Proofs.YtklldmidcmfbdaaGreatDoor
