/-
  The contract of the answer's Find: the same function as forms.Find's.
-/
import Derived.Test.YtijjnchedgllgaaDoorFmB1
import Derived.Deep.RegionHeld3
namespace Go.Proofs.YtijjnchedgllgaaDoor
open Go.RowKit Go.Shelf

set_option maxRecDepth 100000 in
set_option maxHeartbeats 4000000 in
theorem rfind_any (s : ByteArray) (w : World) : Calls Tryd.prog 8 #[.string s] w fun e w' => ∃ v, e = .returned (.tuple #[.agg #[.string ((findF s).getD zf).name, .int .i64 ((findF s).getD zf).least, .int .i64 ((findF s).getD zf).most, v], .int .i64 (findE (findF s))]) ∧ w'.ownsRow w.heap.size 70 1 v ((findF s).getD zf).wants.size (wantsL ((findF s).getD zf).wants ((findF s).getD zf).wants.size) ∧ Below w.heap.size w w' := by
  have HT : Hid (∀ W : World, Calls Tryd.prog 21 #[] W fun e w' => e = .returned (.slice (some ⟨W.heap.size, 0, none⟩) 20 20) ∧ w' = W.alloc (.cells refC.toArray 69)) := fun W => rtable_any W
  have HWn : Hid (∀ (c : UInt8) (W : World), Calls Tryd.prog 23 #[.int .u8 (c.toNat : Int)] W fun e w' => e = .returned (.int .i64 (wantN c)) ∧ w' = W) := fun c W => rwant_any c W
  obtain ⟨R, hR⟩ : ∃ R, findF s = R := ⟨_, rfl⟩
  rw [hR]
  have HRR := hide hR
  clear hR
  go_enter Tryd.func8, Tryd.ntmps8
  go_wp2_with (go_at_call 21; refine (HT.out _).mono ?_; rintro e wz ⟨rfl, hz⟩; subst wz)
  have bw1 : Below w.heap.size w ((w.alloc (.cells #[.string ⟨#[]⟩, .int .i64 0, .int .i64 0, .slice none 0 0] 24)).alloc (.cells refC.toArray 69)) := ((Below.refl _ _).alloc (Nat.le_refl _) _).alloc (by simp) _
  have hz0 : ((w.alloc (.cells #[.string ⟨#[]⟩, .int .i64 0, .int .i64 0, .slice none 0 0] 24)).alloc (.cells refC.toArray 69)).heap.size = w.heap.size + 2 := by simp
  have k0 : ((w.alloc (.cells #[.string ⟨#[]⟩, .int .i64 0, .int .i64 0, .slice none 0 0] 24)).alloc (.cells refC.toArray 69)).heap[w.heap.size]? = some (.cells #[.string ⟨#[]⟩, .int .i64 0, .int .i64 0, .slice none 0 0] 24 (0, 0)) := (Below.heap_alloc _ _ _ (by simp)).trans (World.alloc_heap_new w _)
  have k1 : ((w.alloc (.cells #[.string ⟨#[]⟩, .int .i64 0, .int .i64 0, .slice none 0 0] 24)).alloc (.cells refC.toArray 69)).heap[w.heap.size + 1]? = some (.cells refC.toArray 69 (0, 0)) := by
    have := World.alloc_heap_new (w.alloc (.cells #[.string ⟨#[]⟩, .int .i64 0, .int .i64 0, .slice none 0 0] 24)) (.cells refC.toArray 69)
    rwa [World.size_alloc] at this
  generalize hW1 : ((w.alloc (.cells #[.string ⟨#[]⟩, .int .i64 0, .int .i64 0, .slice none 0 0] 24)).alloc (.cells refC.toArray 69)) = W1 at *
  clear hW1
  have HN : Hid (∀ W, Below W1.heap.size W1 W → W.heap[w.heap.size]? = some (.cells #[.string ⟨#[]⟩, .int .i64 0, .int .i64 0, .slice none 0 0] 24 (0, 0)) ∧ W.heap[w.heap.size + 1]? = some (.cells refC.toArray 69 (0, 0))) := fun W hW => ⟨(hW.block _ (by omega)).trans k0, (hW.block _ (by omega)).trans k1⟩
  have HBW := hide bw1
  clear k0 k1 bw1
  go_loopw [5] (fun iv wr => ∃ i : Nat, iv = .int .i64 i ∧ i ≤ 20 ∧ Below W1.heap.size W1 wr ∧ ∀ f ∈ (refG.take i).flatMap rfnsOf, f.name ≠ s) (fun iv _ => 20 - (intOf iv).toNat)
  case atStart => exact ⟨0, rfl, by omega, Below.refl _ _, by simp⟩
  case round =>
    obtain ⟨i, rfl, hi, hB, hno⟩ := hrel
    have HNO := hide hno
    clear hno
    by_cases hlt : i < 20
    · have g1 : (i : Int) < 20 := by omega
      obtain ⟨g, hg⟩ : ∃ g, refG[i]? = some g := ⟨_, List.getElem?_eq_getElem (by show i < 20; exact hlt)⟩
      have hgm := ref_small g (List.mem_of_getElem? hg)
      have HG := hide hg
      have HWd : Hid (∀ W : World, Calls Tryd.prog 22 #[.string g.names] W fun e w' => ∃ v, e = .returned v ∧ Sts w' v (wordsB g.names) ∧ Below W.heap.size W w') := fun W => by
        refine (words_any g.names W hgm.1).mono ?_
        rintro e w' ⟨v, he, hown, hb⟩
        exact ⟨v, he, Sts.of hown, hb⟩
      have HC : Hid (∀ W, Below W1.heap.size W1 W → W.cell? ⟨w.heap.size + 1, i * 4, none⟩ = some (.string g.names) ∧ W.cell? ⟨w.heap.size + 1, i * 4 + 1, none⟩ = some (.int .i64 g.least) ∧ W.cell? ⟨w.heap.size + 1, i * 4 + 2, none⟩ = some (.int .i64 g.most) ∧ W.cell? ⟨w.heap.size + 1, i * 4 + 3, none⟩ = some (.string g.wants)) := fun W hW => ref_cell (HN.out W hW).2 hg
      have hc0 := (HC.out wr hB).1
      have HHit : Hid (∀ k, (wordsB g.names)[k]? = some s → (∀ x ∈ (wordsB g.names).take k, x ≠ s) → findF s = some (fnOf g s)) := fun k hk h2 => ref_hit hg hk HNO.out h2
      have HNx : Hid ((∀ x ∈ (wordsB g.names).take (wordsB g.names).length, x ≠ s) → ∀ f ∈ (refG.take (i + 1)).flatMap rfnsOf, f.name ≠ s) := fun h2 => ref_next hg HNO.out h2
      have hLs : (wordsB g.names).length ≤ 2000 := by
        have h : (refG.all fun g => decide ((wordsB g.names).length ≤ 2000)) = true := by kernel_rfl
        exact of_decide_eq_true (List.all_eq_true.1 h g (List.mem_of_getElem? hg))
      clear hg
      generalize wordsB g.names = L at *
      obtain ⟨gn, gl, gm, ws⟩ := g
      simp only [fnOf] at HWd HC hc0 hgm HHit
      have hw4 := hgm.2
      clear hgm
      obtain ⟨wo, rfl⟩ : ∃ wo : World, wo = wr := ⟨_, rfl⟩
      go_wp2_with (go_at_call 22; refine (HWd.out _).mono ?_; rintro e w2 ⟨v2, rfl, hs2, hb2⟩; obtain ⟨pL, capL, rfl, hcL⟩ := hs2; have HCL := hide hcL; have hB2 := hB.trans (hb2.mono hB.size); clear hb2 hcL)
      go_loopw [7] (fun kv wr => ∃ k : Nat, kv = .int .i64 k ∧ k ≤ L.length ∧ Below w2.heap.size w2 wr ∧ ∀ x ∈ L.take k, x ≠ s) (fun kv _ => L.length - (intOf kv).toNat)
      case atStart => exact ⟨0, rfl, by omega, Below.refl _ _, by simp⟩
      case round =>
        obtain ⟨k, rfl, hk, hBk, hnk⟩ := hrel
        have HNK := hide hnk
        clear hnk
        have hB3 := hB2.trans (hBk.mono hB2.size)
        by_cases hkl : k < L.length
        · have g2 : (k : Int) < L.length := by omega
          obtain ⟨x, hx⟩ : ∃ x, L[k]? = some x := ⟨_, List.getElem?_eq_getElem hkl⟩
          rcases HCL.out with rfl | ⟨gL, rfl, hgL⟩
          · exact absurd hkl (by simp)
          have hcx := hgL wr hBk k x hx
          have HGL := hide hgL
          clear hgL
          by_cases hxs : x = s
          · subst hxs
            have HF := hide (HHit.out k hx HNK.out)
            have e0 : (x.toList == x.toList) = true := by simp
            have HS : Hid (∀ W, Below W1.heap.size W1 W → W.cell? ⟨w.heap.size + 1, i * 4 + 1, none⟩ = some (.int .i64 gl) ∧ W.cell? ⟨w.heap.size + 1, i * 4 + 2, none⟩ = some (.int .i64 gm)) := fun W hW => ⟨(HC.out W hW).2.1, (HC.out W hW).2.2.1⟩
            have hs0 := HS.out wr hB3
            clear hx
            go_wp2
            go_region_held3 (fun W => W.cell? ⟨w.heap.size + 1, i * 4 + 1, none⟩ = some (.int .i64 gl) ∧ W.cell? ⟨w.heap.size + 1, i * 4 + 2, none⟩ = some (.int .i64 gm)) (first | assumption | (refine HS.out _ ?_; repeat' (first | with_reducible exact Below.refl _ _ | with_reducible refine Below.setCell ?_ ?_ _ | with_reducible refine Below.alloc ?_ ?_ _ | with_reducible refine below_drewN ?_ _ | with_reducible refine Below.drew ?_ | with_reducible refine Below.trans ?_ (Below.mono (by assumption) ?_) | with_reducible exact Nat.le_refl _ | with_reducible refine Nat.le_trans ?_ (Below.size (by assumption)) | with_reducible refine Nat.le_trans ?_ (size_alloc _ _) | with_reducible refine Nat.le_trans ?_ (size_set _ _ _) | with_reducible refine Nat.le_trans ?_ (size_drewN _ _) | with_reducible refine Nat.le_trans ?_ (size_drew _) | (simp; done) | (simp; omega) | omega))) (fail)
            go_wp2
            obtain rfl : R = some ⟨x, gl, gm, ws⟩ := HRR.out.symm.trans HF.out
            try simp only [Option.getD_some]
            have hF0 : (wr.alloc (.cells #[.string x, .int .i64 gl, .int .i64 gm, .slice none 0 0] 24)).drew.heap[wr.heap.size]? = some (.cells #[.string x, .int .i64 gl, .int .i64 gm, .slice none 0 0] 24 (0, 0)) := World.alloc_heap_new wr _
            have hBF : Below wr.heap.size wr (wr.alloc (.cells #[.string x, .int .i64 gl, .int .i64 gm, .slice none 0 0] 24)).drew := ((Below.refl _ wr).alloc (Nat.le_refl _) _).drew
            generalize (wr.alloc (.cells #[.string x, .int .i64 gl, .int .i64 gm, .slice none 0 0] 24)).drew = W4 at *
            obtain ⟨w3, rfl⟩ : ∃ w3 : World, w3 = wr := ⟨_, rfl⟩
            have hFz : w.heap.size + 1 < w3.heap.size := by have := hB3.size; omega
            clear hs0 hcx HS hk hBk hkl g2 e0
            go_loopw [9] (fun jv wr => ∃ (j : Nat) (ov : Value), jv = .int .i64 j ∧ j ≤ ws.size ∧ (wr.heap[w3.heap.size]? = some (.cells #[.string x, .int .i64 gl, .int .i64 gm, ov] 24 (0, 0)) ∧ wr.ownsRow (w3.heap.size + 1) 70 1 ov j (wantsL ws j)) ∧ Below w3.heap.size w3 wr) (fun jv _ => ws.size - (intOf jv).toNat)
            case atStart => exact ⟨0, .slice none 0 0, rfl, by omega, ⟨hF0, World.ownsRow_nil _ _ _ _⟩, hBF⟩
            case round =>
              obtain ⟨j, ov, rfl, hj, ⟨hF, hown⟩, hBj⟩ := hrel
              have hB5 := hB3.trans (hBj.mono hB3.size)
              have c3 := (HC.out wr hB5).2.2.2
              have hFr : w3.heap.size < wr.heap.size := (Array.getElem?_eq_some_iff.1 hF).1
              have cF : ∀ j, wr.cell? ⟨w3.heap.size, j, none⟩ = (#[.string x, .int .i64 gl, .int .i64 gm, ov] : Array Value)[j]? := fun j => by simp [World.cell?, hF]
              by_cases hjl : j < ws.size
              · have g3 : (j : Int) < ws.size := by omega
                have HWj : Hid (∀ W : World, Calls Tryd.prog 23 #[.int .u8 (ws[j].toNat : Int)] W fun e w' => e = .returned (.int .i64 (wantAt ws j)) ∧ w' = W) := fun W => by
                  have := HWn.out ws[j] W
                  rwa [want_is hjl] at this
                have bA : Below (w3.heap.size + 1) wr (wr.drew.alloc (.cells #[.int .i64 (wantAt ws j)] 70)) := ((Below.refl _ wr).drew).alloc hFr _
                have cT : wr.drew.cell? ⟨w.heap.size + 1, i * 4 + 3, none⟩ = some (.string ws) := c3
                have cT2 : (wr.drew.alloc (.cells #[.int .i64 (wantAt ws j)] 70)).cell? ⟨w.heap.size + 1, i * 4 + 3, none⟩ = some (.string ws) := (bA.cell (p := ⟨w.heap.size + 1, i * 4 + 3, none⟩) (by show w.heap.size + 1 < _; omega)).trans c3
                have cW0 : wr.cell? ⟨w3.heap.size, 3, none⟩ = some ov := cF 3
                have cW : wr.drew.cell? ⟨w3.heap.size, 3, none⟩ = some ov := cF 3
                have cW2 : (wr.drew.alloc (.cells #[.int .i64 (wantAt ws j)] 70)).cell? ⟨w3.heap.size, 3, none⟩ = some ov := (bA.cell (p := ⟨w3.heap.size, 3, none⟩) (Nat.lt_succ_self _)).trans (cF 3)
                have HOA : Hid ((wr.drew.alloc (.cells #[.int .i64 (wantAt ws j)] 70)).ownsRow (w3.heap.size + 1) 70 1 ov j (wantsL ws j)) := by
                  have h0 : wr.drew.ownsRow (w3.heap.size + 1) 70 1 ov j (wantsL ws j) := hown
                  exact h0.alloc _
                have HAP : Hid (∀ (v' : Value) (w5 : World), w5.ownsRow (w3.heap.size + 1) 70 1 v' (j + 1) (wantsL ws j ++ [.int .i64 (wantAt ws j)]) → (wr.drew.alloc (.cells #[.int .i64 (wantAt ws j)] 70)).grownBy w5 ov.ownBlock →
                    w5.cell? ⟨w.heap.size + 1, i * 4 + 3, none⟩ = some (.string ws) ∧ w5.heap[w3.heap.size]? = some (.cells #[.string x, .int .i64 gl, .int .i64 gm, ov] 24 (0, 0)) ∧
                    ((w5.setCell ⟨w3.heap.size, 3, none⟩ v').heap[w3.heap.size]? = some (.cells #[.string x, .int .i64 gl, .int .i64 gm, v'] 24 (0, 0)) ∧ (w5.setCell ⟨w3.heap.size, 3, none⟩ v').ownsRow (w3.heap.size + 1) 70 1 v' (j + 1) (wantsL ws (j + 1))) ∧
                    Below w3.heap.size w3 (w5.setCell ⟨w3.heap.size, 3, none⟩ v') ∧ (w5.setCell ⟨w3.heap.size, 3, none⟩ v').cell? ⟨w.heap.size + 1, i * 4 + 3, none⟩ = some (.string ws)) := fun v' w5 h1 h2 => by
                  have b5 : Below (w3.heap.size + 1) wr w5 := bA.grown h2 (by simp; omega) (fun g hg => (hown.lt g hg).1)
                  have k2 := (b5.block w3.heap.size (Nat.lt_succ_self _)).trans hF
                  have b6 : Below w3.heap.size w3 (w5.setCell ⟨w3.heap.size, 3, none⟩ v') := (hBj.trans ((b5.mono (Nat.le_succ _)).mono (Nat.le_refl _))).setCell (p := ⟨w3.heap.size, 3, none⟩) (Nat.le_refl _) _
                  refine ⟨(b5.cell (p := ⟨w.heap.size + 1, i * 4 + 3, none⟩) (by show w.heap.size + 1 < _; omega)).trans c3, k2, ⟨by simpa using heap_set k2 3 v', by rw [wantsL_snoc]; exact row_set h1 (Nat.lt_succ_self _)⟩, b6, (b6.cell (p := ⟨w.heap.size + 1, i * 4 + 3, none⟩) hFz).trans (HC.out w3 hB3).2.2.2⟩
                clear hF hown cF hF0 hBF
                go_wp2
                refine wp_region_held_drew (S := fun W => W.cell? ⟨w.heap.size + 1, i * 4 + 3, none⟩ = some (.string ws)) (by kernel_rfl) ?_ (fun hHeld => ?_)
                · exact cT
                (refine takeD (i := 0) (some 57) rfl rfl (by kernel_rfl) (by kernel_rfl) (by kernel_rfl) (fun _ _ _ h => h) (v := ?_) rfl ?_ (by assumption) ?_; rotate_left; (focus (intro w hSw; (try dsimp only at hSw); first | (go_simp; done) | (go_simp; with_reducible rfl))); try simp only [Act.put, List.setIfInBounds_toArray, List.set_cons_zero, List.set_cons_succ]); (refine takeD (i := 2) (some 59) rfl rfl (by kernel_rfl) (by kernel_rfl) (by kernel_rfl) (fun _ _ _ h => h) (v := ?_) rfl ?_ (by assumption) ?_; rotate_left; (focus (intro w hSw; (try dsimp only at hSw); first | (go_simp; done) | (go_simp; with_reducible rfl))); try simp only [Act.put, List.setIfInBounds_toArray, List.set_cons_zero, List.set_cons_succ]); (refine takeD (i := 3) (some 60) rfl rfl (by kernel_rfl) (by kernel_rfl) (by kernel_rfl) (fun _ _ _ h => h) (v := ?_) rfl ?_ (by assumption) ?_; rotate_left; (focus (intro w hSw; (try dsimp only at hSw); first | (go_simp; done) | (go_simp; with_reducible rfl))); try simp only [Act.put, List.setIfInBounds_toArray, List.set_cons_zero, List.set_cons_succ]); (refine takeD (i := 4) (some 61) rfl rfl (by kernel_rfl) (by kernel_rfl) (by kernel_rfl) (fun _ _ _ h => h) (v := ?_) rfl ?_ (by assumption) ?_; rotate_left; (focus (intro w hSw; (try dsimp only at hSw); first | (go_simp; done) | (go_simp; with_reducible rfl))); try simp only [Act.put, List.setIfInBounds_toArray, List.set_cons_zero, List.set_cons_succ]); (refine takeD (i := 5) (some 62) rfl rfl (by kernel_rfl) (by kernel_rfl) (by kernel_rfl) (fun _ _ _ h => h) (v := ?_) rfl ?_ (by assumption) ?_; rotate_left; (focus (intro w hSw; (try dsimp only at hSw); first | (go_simp; done) | (go_simp; with_reducible rfl))); try simp only [Act.put, List.setIfInBounds_toArray, List.set_cons_zero, List.set_cons_succ]); (refine takeD (i := 6) (some 63) rfl rfl (by kernel_rfl) (by kernel_rfl) (by kernel_rfl) (fun _ _ _ h => h) (v := ?_) rfl ?_ (by assumption) ?_; rotate_left; (focus (intro w hSw; (try dsimp only at hSw); first | (go_simp; done) | (go_simp; with_reducible rfl))); try simp only [Act.put, List.setIfInBounds_toArray, List.set_cons_zero, List.set_cons_succ]); (refine takeD (i := 7) (some 64) rfl rfl (by kernel_rfl) (by kernel_rfl) (by kernel_rfl) (fun _ _ _ h => h) (v := ?_) rfl ?_ (by assumption) ?_; rotate_left; (focus (intro w hSw; (try dsimp only at hSw); first | (go_simp; done) | (go_simp; with_reducible rfl))); try simp only [Act.put, List.setIfInBounds_toArray, List.set_cons_zero, List.set_cons_succ]); (refine takeD (i := 8) (some 65) rfl rfl (by kernel_rfl) (by kernel_rfl) (by kernel_rfl) (fun _ _ _ h => h) (v := ?_) rfl ?_ (by assumption) ?_; rotate_left; (focus (intro w hSw; (try dsimp only at hSw); first | (go_simp; done) | (go_simp; with_reducible rfl))); try simp only [Act.put, List.setIfInBounds_toArray, List.set_cons_zero, List.set_cons_succ])
                refine wpAnyH_ready (rs := [1, 9]) (by kernel_rfl) (by simp) ?_
                refine readyP (o := _) rfl rfl (fun K hK => ?_) (readyP (o := _) rfl rfl (fun K hK => ?_) AllReadyH.nil)
                · refine wp_run (v := ov) (w' := wr.drew) (by go_simp) ?_
                  refine hK.out _ _ cT (fun hHeld => ?_)
                  clear hK K
                  refine wpAnyH_ready (rs := [9]) (by kernel_rfl) (by simp) ?_
                  refine readyP (o := _) rfl rfl (fun K hK => ?_) AllReadyH.nil
                  go_simp
                  (go_at_call 23; refine (HWj.out _).mono ?_; rintro e wz ⟨rfl, hz⟩; subst wz)
                  refine hK.out _ _ cT (fun hHeld => ?_)
                  clear hK K
                  refine wpAnyH_ready (rs := [10]) (by kernel_rfl) (by simp) ?_
                  refine readyP (o := _) rfl rfl (fun K hK => ?_) AllReadyH.nil
                  go_simp
                  refine hK.out _ _ cT2 (fun hHeld => ?_)
                  clear hK K
                  refine wpAnyH_ready (rs := [11]) (by kernel_rfl) (by simp) ?_
                  refine readyP (o := _) rfl rfl (fun K hK => ?_) AllReadyH.nil
                  refine wp_append_own _ _ _ 22 rfl (w3.heap.size + 1) 70 wtI (.int .i64 0) 1 8 wts_under wtI_info wtI_zero wtI_size wtI_bytes rfl (by decide) _ _ _ rfl HOA.out ⟨wr.heap.size, 0, none⟩ 1 1 [.int .i64 (wantAt ws j)] rfl rfl (fun j u hj => cells_newW wr.drew _ _ j u hj) (by simp [Value.oneCell']) (by unfold maxLen; omega) (by omega) (by simp; omega) ?_
                  intro v' w5 hown' hgrow _
                  obtain ⟨q1, q2, q3, q4, q5⟩ := HAP.out v' w5 hown' hgrow
                  obtain ⟨gv, capv, rfl⟩ := ownsRow_succ hown'
                  clear hown' hgrow
                  refine hK.out _ _ q1 (fun hHeld => ?_)
                  clear hK K
                  (refine takeD (i := 12) (some 69) rfl rfl (by kernel_rfl) (by kernel_rfl) (by kernel_rfl) (fun _ _ _ h => h) (v := ?_) rfl ?_ (by assumption) ?_; rotate_left; (focus (intro w hSw; (try dsimp only at hSw); first | (go_simp; done) | (go_simp; with_reducible rfl))); (try simp only [Act.put, List.setIfInBounds_toArray]))
                  refine wpAnyH_ready (rs := [13]) (by kernel_rfl) (by simp) ?_
                  refine readyP (o := _) rfl rfl (fun K hK => ?_) AllReadyH.nil
                  have p3 : ∀ y, w5.frozen? ⟨w3.heap.size, y, none⟩ = false := fun y => by simp [World.frozen?, q2]
                  have p4 : w5.cell? ⟨w3.heap.size, 3, none⟩ = some ov := by simp [World.cell?, q2]
                  go_simp
                  refine hK.out _ _ q5 (fun hHeld => ?_)
                  clear hK K
                  refine wpAnyH_done (by kernel_rfl) ?_ _
                  go_wp2
                  go_roundw
                  case rel => exact ⟨j + 1, _, by go_num, by omega, q3, q4⟩
                  case measure => simp [intOf]; omega
                · go_simp
                  (go_at_call 23; refine (HWj.out _).mono ?_; rintro e wz ⟨rfl, hz⟩; subst wz)
                  refine hK.out _ _ cT (fun hHeld => ?_)
                  clear hK K
                  refine wpAnyH_ready (rs := [1, 10]) (by kernel_rfl) (by simp) ?_
                  refine readyP (o := _) rfl rfl (fun K hK => ?_) (readyP (o := _) rfl rfl (fun K hK => ?_) AllReadyH.nil)
                  · refine wp_run (v := ov) (w' := wr.drew) (by go_simp) ?_
                    refine hK.out _ _ cT (fun hHeld => ?_)
                    clear hK K
                    refine wpAnyH_ready (rs := [10]) (by kernel_rfl) (by simp) ?_
                    refine readyP (o := _) rfl rfl (fun K hK => ?_) AllReadyH.nil
                    go_simp
                    refine hK.out _ _ cT2 (fun hHeld => ?_)
                    clear hK K
                    refine wpAnyH_ready (rs := [11]) (by kernel_rfl) (by simp) ?_
                    refine readyP (o := _) rfl rfl (fun K hK => ?_) AllReadyH.nil
                    refine wp_append_own _ _ _ 22 rfl (w3.heap.size + 1) 70 wtI (.int .i64 0) 1 8 wts_under wtI_info wtI_zero wtI_size wtI_bytes rfl (by decide) _ _ _ rfl HOA.out ⟨wr.heap.size, 0, none⟩ 1 1 [.int .i64 (wantAt ws j)] rfl rfl (fun j u hj => cells_newW wr.drew _ _ j u hj) (by simp [Value.oneCell']) (by unfold maxLen; omega) (by omega) (by simp; omega) ?_
                    intro v' w5 hown' hgrow _
                    obtain ⟨q1, q2, q3, q4, q5⟩ := HAP.out v' w5 hown' hgrow
                    obtain ⟨gv, capv, rfl⟩ := ownsRow_succ hown'
                    clear hown' hgrow
                    refine hK.out _ _ q1 (fun hHeld => ?_)
                    clear hK K
                    (refine takeD (i := 12) (some 69) rfl rfl (by kernel_rfl) (by kernel_rfl) (by kernel_rfl) (fun _ _ _ h => h) (v := ?_) rfl ?_ (by assumption) ?_; rotate_left; (focus (intro w hSw; (try dsimp only at hSw); first | (go_simp; done) | (go_simp; with_reducible rfl))); (try simp only [Act.put, List.setIfInBounds_toArray]))
                    refine wpAnyH_ready (rs := [13]) (by kernel_rfl) (by simp) ?_
                    refine readyP (o := _) rfl rfl (fun K hK => ?_) AllReadyH.nil
                    have p3 : ∀ y, w5.frozen? ⟨w3.heap.size, y, none⟩ = false := fun y => by simp [World.frozen?, q2]
                    have p4 : w5.cell? ⟨w3.heap.size, 3, none⟩ = some ov := by simp [World.cell?, q2]
                    go_simp
                    refine hK.out _ _ q5 (fun hHeld => ?_)
                    clear hK K
                    refine wpAnyH_done (by kernel_rfl) ?_ _
                    go_wp2
                    go_roundw
                    case rel => exact ⟨j + 1, _, by go_num, by omega, q3, q4⟩
                    case measure => simp [intOf]; omega
                  · go_simp
                    refine hK.out _ _ cT2 (fun hHeld => ?_)
                    clear hK K
                    refine wpAnyH_ready (rs := [1]) (by kernel_rfl) (by simp) ?_
                    refine readyP (o := _) rfl rfl (fun K hK => ?_) AllReadyH.nil
                    refine wp_run (v := ov) (w' := (wr.drew.alloc (.cells #[.int .i64 (wantAt ws j)] 70))) (by go_simp) ?_
                    refine hK.out _ _ cT2 (fun hHeld => ?_)
                    clear hK K
                    refine wpAnyH_ready (rs := [11]) (by kernel_rfl) (by simp) ?_
                    refine readyP (o := _) rfl rfl (fun K hK => ?_) AllReadyH.nil
                    refine wp_append_own _ _ _ 22 rfl (w3.heap.size + 1) 70 wtI (.int .i64 0) 1 8 wts_under wtI_info wtI_zero wtI_size wtI_bytes rfl (by decide) _ _ _ rfl HOA.out ⟨wr.heap.size, 0, none⟩ 1 1 [.int .i64 (wantAt ws j)] rfl rfl (fun j u hj => cells_newW wr.drew _ _ j u hj) (by simp [Value.oneCell']) (by unfold maxLen; omega) (by omega) (by simp; omega) ?_
                    intro v' w5 hown' hgrow _
                    obtain ⟨q1, q2, q3, q4, q5⟩ := HAP.out v' w5 hown' hgrow
                    obtain ⟨gv, capv, rfl⟩ := ownsRow_succ hown'
                    clear hown' hgrow
                    refine hK.out _ _ q1 (fun hHeld => ?_)
                    clear hK K
                    (refine takeD (i := 12) (some 69) rfl rfl (by kernel_rfl) (by kernel_rfl) (by kernel_rfl) (fun _ _ _ h => h) (v := ?_) rfl ?_ (by assumption) ?_; rotate_left; (focus (intro w hSw; (try dsimp only at hSw); first | (go_simp; done) | (go_simp; with_reducible rfl))); (try simp only [Act.put, List.setIfInBounds_toArray]))
                    refine wpAnyH_ready (rs := [13]) (by kernel_rfl) (by simp) ?_
                    refine readyP (o := _) rfl rfl (fun K hK => ?_) AllReadyH.nil
                    have p3 : ∀ y, w5.frozen? ⟨w3.heap.size, y, none⟩ = false := fun y => by simp [World.frozen?, q2]
                    have p4 : w5.cell? ⟨w3.heap.size, 3, none⟩ = some ov := by simp [World.cell?, q2]
                    go_simp
                    refine hK.out _ _ q5 (fun hHeld => ?_)
                    clear hK K
                    refine wpAnyH_done (by kernel_rfl) ?_ _
                    go_wp2
                    go_roundw
                    case rel => exact ⟨j + 1, _, by go_num, by omega, q3, q4⟩
                    case measure => simp [intOf]; omega
              · have g3 : ¬ (j : Int) < ws.size := by omega
                obtain rfl : j = ws.size := by omega
                obtain ⟨k0, _⟩ := HN.out wr hB5
                have c0 : ∀ j, wr.cell? ⟨w.heap.size, j, none⟩ = (#[.string ⟨#[]⟩, .int .i64 0, .int .i64 0, .slice none 0 0] : Array Value)[j]? := fun j => by simp [World.cell?, k0]
                have p0 : ∀ j, wr.frozen? ⟨w.heap.size, j, none⟩ = false := fun j => by simp [World.frozen?, k0]
                obtain ⟨pa, na, ca, rfl⟩ : ∃ pa na ca, ov = .slice pa na ca := by rcases hown.2 with ⟨h, _⟩ | ⟨g, cp, cur, h, _⟩ <;> exact ⟨_, _, _, h⟩
                have HOW := hide hown
                have HB5 := hide (HBW.out.trans (hB5.mono HBW.out.size))
                have hzr : w.heap.size < wr.heap.size := by omega
                clear k0 hown hF hF0 hBF
                go_wp2
                refine bodyPost_ret (v := .tuple #[.agg #[.string x, .int .i64 gl, .int .i64 gm, .slice pa na ca], .int .i64 0]) (by simp [results, Tryd.results8, go_sem, c0]) rfl ⟨_, rfl, ?_, ?_⟩
                · have hz2 : w.heap.size < w3.heap.size + 1 := by omega
                  exact (row_set (row_set (row_set (row_set HOW.out hz2) hz2) hz2) hz2).mono (by omega)
                · exact (((HB5.out.setCell (p := ⟨w.heap.size, 0, none⟩) (by simp) _).setCell (p := ⟨w.heap.size, 1, none⟩) (by simp) _).setCell (p := ⟨w.heap.size, 2, none⟩) (by simp) _).setCell (p := ⟨w.heap.size, 3, none⟩) (by simp) _
          · have e0 := text_ne hxs
            have HK2 : Hid (∀ y ∈ L.take (k + 1), y ≠ s) := fun y hy => by
              rw [List.take_add_one, hx] at hy
              rcases List.mem_append.1 hy with hy | hy
              · exact HNK.out y hy
              · obtain rfl : y = x := by simpa using hy
                exact hxs
            clear hx
            go_wp2
            go_roundw
            case rel => exact ⟨k + 1, by go_num, by omega, hBk, HK2.out⟩
            case measure => simp [intOf]; omega
        · have g2 : ¬ (k : Int) < L.length := by omega
          obtain rfl : k = L.length := by omega
          have HN2 := hide (HNx.out HNK.out)
          go_wp2
          go_roundw
          case rel => exact ⟨i + 1, by go_num, by omega, hB3, HN2.out⟩
          case measure => simp [intOf]; omega
    · have g1 : ¬ (i : Int) < 20 := by omega
      obtain rfl : i = 20 := by omega
      have HF := hide (ref_miss HNO.out)
      obtain ⟨k0, _⟩ := HN.out wr hB
      have c0 : ∀ j, wr.cell? ⟨w.heap.size, j, none⟩ = (#[.string ⟨#[]⟩, .int .i64 0, .int .i64 0, .slice none 0 0] : Array Value)[j]? := fun j => by simp [World.cell?, k0]
      have p0 : ∀ j, wr.frozen? ⟨w.heap.size, j, none⟩ = false := fun j => by simp [World.frozen?, k0]
      obtain rfl : R = none := HRR.out.symm.trans HF.out
      have hb := HBW.out.trans (hB.mono HBW.out.size)
      have l1 : w.heap.size < wr.heap.size := by have := hB.size; omega
      clear k0
      go_wp2
      refine bodyPost_ret (v := .tuple #[.agg #[.string ⟨#[]⟩, .int .i64 0, .int .i64 0, .slice none 0 0], .int .i64 8]) (by simp [results, Tryd.results8, go_sem, c0]) rfl ⟨_, rfl, World.ownsRow_nil _ _ _ _, ?_⟩
      repeat' (first | with_reducible exact Below.refl _ _ | with_reducible refine Below.setCell ?_ ?_ _ | with_reducible refine Below.alloc ?_ ?_ _ | with_reducible refine below_drewN ?_ _ | with_reducible refine Below.drew ?_ | with_reducible refine Below.trans ?_ (Below.mono (by assumption) ?_) | with_reducible exact Nat.le_refl _ | with_reducible refine Nat.le_trans ?_ (Below.size (by assumption)) | with_reducible refine Nat.le_trans ?_ (size_alloc _ _) | with_reducible refine Nat.le_trans ?_ (size_set _ _ _) | with_reducible refine Nat.le_trans ?_ (size_drewN _ _) | with_reducible refine Nat.le_trans ?_ (size_drew _) | (simp; done) | (simp; omega) | omega)
end Go.Proofs.YtijjnchedgllgaaDoor
