/-
  The contract of the answer's All (made by rallgen.py).
-/
import Derived.Test.YtklldmidcmfbdaaGreatDoorFmH2
import Derived.Test.YtklldmidcmfbdaaGreatDoorFmA3
import Derived.Deep.RegionHeld3
namespace Go.Proofs.YtklldmidcmfbdaaGreatDoor
open Go.RowKit Go.Shelf

theorem addr_add (g o j : Nat) : (⟨g, o, none⟩ : Addr).add j = ⟨g, o + j, none⟩ := by
  unfold Addr.add
  split
  · simp_all
  · rfl
theorem wpl_append_none {P : Program} {w : World} {ops : Array Oper} {rest : List Oper} {o : Oper} {a : Act} {Q : Exit → Act → World → Prop} (hgd : o.guard = none) (s x : Operand) (t : TypeId)
    (ho : o.op = .call { callee := .builtin .append, args := #[s, x], argTypes := #[t, t] })
    (base : Nat) (e : TypeId) (i : TypeInfo) (size : Nat) (ht : P.underlying t = some (.slice e)) (hi : P.info? e = some i)
    (v : Value) (n : Nat) (xs : List Value) (hs : a.eval s = v) (hown : w.ownsRow base e size v n xs) (hx : a.eval x = .slice none 0 0)
    (h : wpList P ops Q rest (a.put o.dst v) w) : wpList P ops Q (o :: rest) a w := by
  refine wpList_plain hgd fun K hK => ?_
  have hr := run_append_owned_none (P := P) w base t o.type e i size ht hi v n xs hown
  unfold Oper.wp execOp
  simp only [ho, resolve, invoke, builtin, Sem.run_bind, Sem.run_pure, Result.andThen_ok, List.map_toArray, List.map_cons, List.map_nil, hs, hx, hr]
  exact hK _ _ h
theorem fold_snoc (q : List Fu) (f : Fu) : (q ++ [f]).foldl insF [] = insF (q.foldl insF []) f := by simp [List.foldl_append]
theorem fns_len86 : fnsL.length = 86 := by kernel_rfl
theorem fns_names : ∀ f ∈ fnsL, f.name.size ≤ 1000 := by
  have h : (fnsL.all fun f => decide (f.name.size ≤ 1000)) = true := by kernel_rfl
  intro f hf
  simpa using List.all_eq_true.1 h f hf
set_option maxRecDepth 100000 in
set_option maxHeartbeats 4000000 in
theorem rall_any (w : World) : Calls Tryz.prog 6 #[] w fun e w' => ∃ (g cap : Nat) (G : List (Fu × Value)), e = .returned (.slice (some ⟨g, 0, none⟩) 86 cap) ∧ G.map Prod.fst = refAll ∧ FSl w.heap.size w' (.slice (some ⟨g, 0, none⟩) 86 cap) G ∧ Below w.heap.size w w' := by
  have HT : Hid (∀ W : World, Calls Tryz.prog 14 #[] W fun e w' => e = .returned (.slice (some ⟨W.heap.size, 0, none⟩) 20 20) ∧ w' = W.alloc (.cells refC.toArray 51)) := fun W => rtable_any W
  have HWn : Hid (∀ (c : UInt8) (W : World), Calls Tryz.prog 16 #[.int .u8 (c.toNat : Int)] W fun e w' => e = .returned (.int .i64 (wantN c)) ∧ w' = W) := fun c W => rwant_any c W
  have HBy : Hid (∀ (a b : ByteArray) (W : World), a.size ≤ 1000 → Calls Tryz.prog 17 #[.string a, .string b] W fun e w' => e = .returned (.int .i64 (cmpL a.toList b.toList)) ∧ Below W.heap.size W w') := fun a b W ha => bytes_any a b W (by unfold maxLen; omega)
  go_enter Tryz.func6, Tryz.ntmps6
  go_wp2_with (go_at_call 14; refine (HT.out _).mono ?_; rintro e wz ⟨rfl, hz⟩; subst wz)
  have bw1 : Below w.heap.size w (w.alloc (.cells refC.toArray 51)) := (Below.refl _ _).alloc (Nat.le_refl _) _
  have hz0 : (w.alloc (.cells refC.toArray 51)).heap.size = w.heap.size + 1 := by simp
  have k1 : (w.alloc (.cells refC.toArray 51)).heap[w.heap.size]? = some (.cells refC.toArray 51 (0, 0)) := World.alloc_heap_new w _
  generalize w.alloc (.cells refC.toArray 51) = W1 at *
  have HN : Hid (∀ W, Below W1.heap.size W1 W → W.heap[w.heap.size]? = some (.cells refC.toArray 51 (0, 0))) := fun W hW => (hW.block _ (by omega)).trans k1
  have HBW := hide bw1
  clear k1 bw1
  go_loopw [1, 3] (fun ov iv wr => ∃ (i : Nat) (G : List (Fu × Value)), iv = .int .i64 i ∧ i ≤ 20 ∧ Below W1.heap.size W1 wr ∧ FSl w.heap.size wr ov G ∧ G.map Prod.fst = ((refG.take i).flatMap rfnsOf).foldl insF []) (fun _ iv _ => 20 - (intOf iv).toNat)
  case atStart => exact ⟨0, [], rfl, by omega, Below.refl _ _, FSl.first _ _, rfl⟩
  case round =>
    obtain ⟨i, G0, rfl, hi, hB, hfs, hG⟩ := hrel
    have HFS := hide hfs
    have HGm := hide hG
    clear hfs hG
    by_cases hlt : i < 20
    · have g1 : (i : Int) < 20 := by omega
      obtain ⟨g, hg⟩ : ∃ g, refG[i]? = some g := ⟨_, List.getElem?_eq_getElem (by show i < 20; exact hlt)⟩
      have hgm := ref_small g (List.mem_of_getElem? hg)
      have HWd : Hid (∀ W : World, Calls Tryz.prog 15 #[.string g.names] W fun e w' => ∃ v, e = .returned v ∧ Sts w' v (wordsB g.names) ∧ Below W.heap.size W w') := fun W => by
        refine (words_any g.names W hgm.1).mono ?_
        rintro e w' ⟨v, he, hown, hb⟩
        exact ⟨v, he, Sts.of hown, hb⟩
      have HC : Hid (∀ W, Below W1.heap.size W1 W → W.cell? ⟨w.heap.size, i * 4, none⟩ = some (.string g.names) ∧ W.cell? ⟨w.heap.size, i * 4 + 1, none⟩ = some (.int .i64 g.least) ∧ W.cell? ⟨w.heap.size, i * 4 + 2, none⟩ = some (.int .i64 g.most) ∧ W.cell? ⟨w.heap.size, i * 4 + 3, none⟩ = some (.string g.wants)) := fun W hW => ref_cell (HN.out W hW) hg
      have hc0 := (HC.out wr hB).1
      have hLs : (wordsB g.names).length ≤ 2000 := by
        have h : (refG.all fun g => decide ((wordsB g.names).length ≤ 2000)) = true := by kernel_rfl
        exact of_decide_eq_true (List.all_eq_true.1 h g (List.mem_of_getElem? hg))
      -- the rows ahead, and what this row adds
      obtain ⟨Q, hQ⟩ : ∃ Q, (refG.take i).flatMap rfnsOf = Q := ⟨_, rfl⟩
      have hQn : (refG.take (i + 1)).flatMap rfnsOf = Q ++ (wordsB g.names).map (fnOf g) := by
        rw [List.take_add_one, hg, List.flatMap_append, hQ]
        simp [rfnsOf]
      have hQf : ∀ k, ∀ f ∈ Q ++ ((wordsB g.names).take k).map (fnOf g), f ∈ fnsL := fun k f hf => by
        rw [← ref_fns]
        rcases List.mem_append.1 hf with hf | hf
        · rw [← hQ] at hf
          obtain ⟨r, hr, hf⟩ := List.mem_flatMap.1 hf
          exact List.mem_flatMap.2 ⟨r, List.mem_of_mem_take hr, hf⟩
        · obtain ⟨x, hx, rfl⟩ := List.mem_map.1 hf
          exact List.mem_flatMap.2 ⟨g, List.mem_of_getElem? hg, List.mem_map.2 ⟨x, List.mem_of_mem_take hx, rfl⟩⟩
      have hQl : ∀ k, (Q ++ ((wordsB g.names).take k).map (fnOf g)).length ≤ 2086 := fun k => by
        have h1 : Q.length ≤ 86 := by
          have h2 : ((refG.take i).flatMap rfnsOf).length ≤ (refG.flatMap rfnsOf).length := by
            conv => rhs; rw [← List.take_append_drop i refG, List.flatMap_append, List.length_append]
            omega
          rw [ref_fns, hQ] at h2
          exact Nat.le_trans h2 (Nat.le_of_eq fns_len86)
        have h3 : ((wordsB g.names).take k).length ≤ (wordsB g.names).length := by rw [List.length_take]; omega
        simp only [List.length_append, List.length_map]
        omega
      rw [hQ] at HGm
      have HQn := hide hQn
      have HQf := hide hQf
      have HQl := hide hQl
      clear hg hQ hQn hQf hQl
      generalize wordsB g.names = L at *
      obtain ⟨gn, gl, gm, ws⟩ := g
      have hfn : ∀ x, fnOf ⟨gn, gl, gm, ws⟩ x = ⟨x, gl, gm, ws⟩ := fun _ => rfl
      simp only at HWd HC hc0 hgm
      have hw4 := hgm.2
      have HFn := hide hfn
      clear hgm hfn
      generalize fnOf ⟨gn, gl, gm, ws⟩ = fno at *
      obtain ⟨wo, rfl⟩ : ∃ wo : World, wo = wr := ⟨_, rfl⟩
      go_wp2_with (go_at_call 15; refine (HWd.out _).mono ?_; rintro e w2 ⟨v2, rfl, hs2, hb2⟩; obtain ⟨pL, capL, rfl, hcL⟩ := hs2; have HCL := hide hcL; have hB2 := hB.trans (hb2.mono hB.size); have HF2 := hide (HFS.out.below hb2); clear hb2 hcL)
      go_loopw [1, 5] (fun ov kv wr => ∃ (k : Nat) (G : List (Fu × Value)), kv = .int .i64 k ∧ k ≤ L.length ∧ Below w2.heap.size w2 wr ∧ FSl w.heap.size wr ov G ∧ G.map Prod.fst = (Q ++ (L.take k).map fno).foldl insF []) (fun _ kv _ => L.length - (intOf kv).toNat)
      case atStart => exact ⟨0, G0, rfl, by omega, Below.refl _ _, HF2.out, by simpa using HGm.out⟩
      case round =>
        clear HF2 HFS HGm
        obtain ⟨k, G, rfl, hk, hBk, hfs, hG⟩ := hrel
        have HFS := hide hfs
        have HGm := hide hG
        clear hfs hG
        have hB3 := hB2.trans (hBk.mono hB2.size)
        by_cases hkl : k < L.length
        · have g2 : (k : Int) < L.length := by omega
          obtain ⟨x, hx⟩ : ∃ x, L[k]? = some x := ⟨_, List.getElem?_eq_getElem hkl⟩
          have HLk : Hid ((Q ++ (L.take (k + 1)).map fno).foldl insF [] = insF ((Q ++ (L.take k).map fno).foldl insF []) ⟨x, gl, gm, ws⟩) := hide (by
            rw [List.take_add_one, hx, List.map_append, ← List.append_assoc, Option.toList_some, List.map_cons, List.map_nil, fold_snoc, HFn.out])
          rcases HCL.out with rfl | ⟨gL, rfl, hgL⟩
          · exact absurd hkl (by simp)
          have HS : Hid (∀ W, Below wr.heap.size wr W → W.cell? ⟨w.heap.size, i * 4 + 1, none⟩ = some (.int .i64 gl) ∧ W.cell? ⟨w.heap.size, i * 4 + 2, none⟩ = some (.int .i64 gm) ∧ W.cell? ⟨gL, k, none⟩ = some (.string x)) := fun W hW => ⟨(HC.out W (hB3.trans (hW.mono hB3.size))).2.1, (HC.out W (hB3.trans (hW.mono hB3.size))).2.2.1, hgL W (hBk.trans (hW.mono hBk.size)) k x hx⟩
          have hs0 := HS.out wr (Below.refl _ _)
          have HGL := hide hgL
          clear hx hgL
          go_wp2
          go_region_held3 (fun W => W.cell? ⟨w.heap.size, i * 4 + 1, none⟩ = some (.int .i64 gl) ∧ W.cell? ⟨w.heap.size, i * 4 + 2, none⟩ = some (.int .i64 gm) ∧ W.cell? ⟨gL, k, none⟩ = some (.string x)) (first | assumption | (refine HS.out _ ?_; repeat' (first | with_reducible exact Below.refl _ _ | with_reducible refine Below.setCell ?_ ?_ _ | with_reducible refine Below.alloc ?_ ?_ _ | with_reducible refine below_drewN ?_ _ | with_reducible refine Below.drew ?_ | with_reducible refine Below.trans ?_ (Below.mono (by assumption) ?_) | with_reducible exact Nat.le_refl _ | with_reducible refine Nat.le_trans ?_ (Below.size (by assumption)) | with_reducible refine Nat.le_trans ?_ (size_alloc _ _) | with_reducible refine Nat.le_trans ?_ (size_set _ _ _) | with_reducible refine Nat.le_trans ?_ (size_drewN _ _) | with_reducible refine Nat.le_trans ?_ (size_drew _) | (simp; done) | (simp; omega) | omega))) (fail)
          go_wp2
          have hF0 : (wr.alloc (.cells #[.string x, .int .i64 gl, .int .i64 gm, .slice none 0 0] 27)).drew.heap[wr.heap.size]? = some (.cells #[.string x, .int .i64 gl, .int .i64 gm, .slice none 0 0] 27 (0, 0)) := World.alloc_heap_new wr _
          have hBF : Below wr.heap.size wr (wr.alloc (.cells #[.string x, .int .i64 gl, .int .i64 gm, .slice none 0 0] 27)).drew := ((Below.refl _ wr).alloc (Nat.le_refl _) _).drew
          generalize (wr.alloc (.cells #[.string x, .int .i64 gl, .int .i64 gm, .slice none 0 0] 27)).drew = W4 at *
          obtain ⟨w3, rfl⟩ : ∃ w3 : World, w3 = wr := ⟨_, rfl⟩
          have hFz : w.heap.size < w3.heap.size := by have := hB3.size; omega
          clear hs0 HS hk g2
          go_loopw [7] (fun jv wr => ∃ (j : Nat) (ov : Value), jv = .int .i64 j ∧ j ≤ ws.size ∧ (wr.heap[w3.heap.size]? = some (.cells #[.string x, .int .i64 gl, .int .i64 gm, ov] 27 (0, 0)) ∧ wr.ownsRow (w3.heap.size + 1) 28 1 ov j (wantsL ws j)) ∧ Below w3.heap.size w3 wr) (fun jv _ => ws.size - (intOf jv).toNat)
          case atStart => exact ⟨0, .slice none 0 0, rfl, by omega, ⟨hF0, World.ownsRow_nil _ _ _ _⟩, hBF⟩
          case round =>
            obtain ⟨j, ov, rfl, hj, ⟨hF, hown⟩, hBj⟩ := hrel
            have hB5 := hB3.trans (hBj.mono hB3.size)
            have c3 := (HC.out wr hB5).2.2.2
            have hFr : w3.heap.size < wr.heap.size := (Array.getElem?_eq_some_iff.1 hF).1
            have cF : ∀ j, wr.cell? ⟨w3.heap.size, j, none⟩ = (#[.string x, .int .i64 gl, .int .i64 gm, ov] : Array Value)[j]? := fun j => by simp [World.cell?, hF]
            by_cases hjl : j < ws.size
            · have g3 : (j : Int) < ws.size := by omega
              have HWj : Hid (∀ W : World, Calls Tryz.prog 16 #[.int .u8 (ws[j].toNat : Int)] W fun e w' => e = .returned (.int .i64 (wantAt ws j)) ∧ w' = W) := fun W => by
                have := HWn.out ws[j] W
                rwa [want_is hjl] at this
              have bA : Below (w3.heap.size + 1) wr (wr.drew.alloc (.cells #[.int .i64 (wantAt ws j)] 28)) := ((Below.refl _ wr).drew).alloc hFr _
              have cT : wr.drew.cell? ⟨w.heap.size, i * 4 + 3, none⟩ = some (.string ws) := c3
              have cT2 : (wr.drew.alloc (.cells #[.int .i64 (wantAt ws j)] 28)).cell? ⟨w.heap.size, i * 4 + 3, none⟩ = some (.string ws) := (bA.cell (p := ⟨w.heap.size, i * 4 + 3, none⟩) (by show w.heap.size < _; omega)).trans c3
              have cW0 : wr.cell? ⟨w3.heap.size, 3, none⟩ = some ov := cF 3
              have cW : wr.drew.cell? ⟨w3.heap.size, 3, none⟩ = some ov := cF 3
              have cW2 : (wr.drew.alloc (.cells #[.int .i64 (wantAt ws j)] 28)).cell? ⟨w3.heap.size, 3, none⟩ = some ov := (bA.cell (p := ⟨w3.heap.size, 3, none⟩) (Nat.lt_succ_self _)).trans (cF 3)
              have HOA : Hid ((wr.drew.alloc (.cells #[.int .i64 (wantAt ws j)] 28)).ownsRow (w3.heap.size + 1) 28 1 ov j (wantsL ws j)) := by
                have h0 : wr.drew.ownsRow (w3.heap.size + 1) 28 1 ov j (wantsL ws j) := hown
                exact h0.alloc _
              have HAP : Hid (∀ (v' : Value) (w5 : World), w5.ownsRow (w3.heap.size + 1) 28 1 v' (j + 1) (wantsL ws j ++ [.int .i64 (wantAt ws j)]) → (wr.drew.alloc (.cells #[.int .i64 (wantAt ws j)] 28)).grownBy w5 ov.ownBlock →
                  w5.cell? ⟨w.heap.size, i * 4 + 3, none⟩ = some (.string ws) ∧ w5.heap[w3.heap.size]? = some (.cells #[.string x, .int .i64 gl, .int .i64 gm, ov] 27 (0, 0)) ∧
                  ((w5.setCell ⟨w3.heap.size, 3, none⟩ v').heap[w3.heap.size]? = some (.cells #[.string x, .int .i64 gl, .int .i64 gm, v'] 27 (0, 0)) ∧ (w5.setCell ⟨w3.heap.size, 3, none⟩ v').ownsRow (w3.heap.size + 1) 28 1 v' (j + 1) (wantsL ws (j + 1))) ∧
                  Below w3.heap.size w3 (w5.setCell ⟨w3.heap.size, 3, none⟩ v') ∧ (w5.setCell ⟨w3.heap.size, 3, none⟩ v').cell? ⟨w.heap.size, i * 4 + 3, none⟩ = some (.string ws)) := fun v' w5 h1 h2 => by
                have b5 : Below (w3.heap.size + 1) wr w5 := bA.grown h2 (by simp; omega) (fun g hg => (hown.lt g hg).1)
                have k2 := (b5.block w3.heap.size (Nat.lt_succ_self _)).trans hF
                have b6 : Below w3.heap.size w3 (w5.setCell ⟨w3.heap.size, 3, none⟩ v') := (hBj.trans ((b5.mono (Nat.le_succ _)).mono (Nat.le_refl _))).setCell (p := ⟨w3.heap.size, 3, none⟩) (Nat.le_refl _) _
                refine ⟨(b5.cell (p := ⟨w.heap.size, i * 4 + 3, none⟩) (by show w.heap.size < _; omega)).trans c3, k2, ⟨by simpa using heap_set k2 3 v', by rw [wantsL_snoc]; exact row_set h1 (Nat.lt_succ_self _)⟩, b6, (b6.cell (p := ⟨w.heap.size, i * 4 + 3, none⟩) hFz).trans (HC.out w3 hB3).2.2.2⟩
              clear hF hown cF hF0 hBF
              go_wp2
              refine wp_region_held_drew (S := fun W => W.cell? ⟨w.heap.size, i * 4 + 3, none⟩ = some (.string ws)) (by kernel_rfl) ?_ (fun hHeld => ?_)
              · exact cT
              (refine takeD (i := 0) (some 54) rfl rfl (by kernel_rfl) (by kernel_rfl) (by kernel_rfl) (fun _ _ _ h => h) (v := ?_) rfl ?_ (by assumption) ?_; rotate_left; (focus (intro w hSw; (try dsimp only at hSw); first | (go_simp; done) | (go_simp; with_reducible rfl))); try simp only [Act.put, List.setIfInBounds_toArray, List.set_cons_zero, List.set_cons_succ]); (refine takeD (i := 2) (some 56) rfl rfl (by kernel_rfl) (by kernel_rfl) (by kernel_rfl) (fun _ _ _ h => h) (v := ?_) rfl ?_ (by assumption) ?_; rotate_left; (focus (intro w hSw; (try dsimp only at hSw); first | (go_simp; done) | (go_simp; with_reducible rfl))); try simp only [Act.put, List.setIfInBounds_toArray, List.set_cons_zero, List.set_cons_succ]); (refine takeD (i := 3) (some 57) rfl rfl (by kernel_rfl) (by kernel_rfl) (by kernel_rfl) (fun _ _ _ h => h) (v := ?_) rfl ?_ (by assumption) ?_; rotate_left; (focus (intro w hSw; (try dsimp only at hSw); first | (go_simp; done) | (go_simp; with_reducible rfl))); try simp only [Act.put, List.setIfInBounds_toArray, List.set_cons_zero, List.set_cons_succ]); (refine takeD (i := 4) (some 58) rfl rfl (by kernel_rfl) (by kernel_rfl) (by kernel_rfl) (fun _ _ _ h => h) (v := ?_) rfl ?_ (by assumption) ?_; rotate_left; (focus (intro w hSw; (try dsimp only at hSw); first | (go_simp; done) | (go_simp; with_reducible rfl))); try simp only [Act.put, List.setIfInBounds_toArray, List.set_cons_zero, List.set_cons_succ]); (refine takeD (i := 5) (some 59) rfl rfl (by kernel_rfl) (by kernel_rfl) (by kernel_rfl) (fun _ _ _ h => h) (v := ?_) rfl ?_ (by assumption) ?_; rotate_left; (focus (intro w hSw; (try dsimp only at hSw); first | (go_simp; done) | (go_simp; with_reducible rfl))); try simp only [Act.put, List.setIfInBounds_toArray, List.set_cons_zero, List.set_cons_succ]); (refine takeD (i := 6) (some 60) rfl rfl (by kernel_rfl) (by kernel_rfl) (by kernel_rfl) (fun _ _ _ h => h) (v := ?_) rfl ?_ (by assumption) ?_; rotate_left; (focus (intro w hSw; (try dsimp only at hSw); first | (go_simp; done) | (go_simp; with_reducible rfl))); try simp only [Act.put, List.setIfInBounds_toArray, List.set_cons_zero, List.set_cons_succ]); (refine takeD (i := 7) (some 61) rfl rfl (by kernel_rfl) (by kernel_rfl) (by kernel_rfl) (fun _ _ _ h => h) (v := ?_) rfl ?_ (by assumption) ?_; rotate_left; (focus (intro w hSw; (try dsimp only at hSw); first | (go_simp; done) | (go_simp; with_reducible rfl))); try simp only [Act.put, List.setIfInBounds_toArray, List.set_cons_zero, List.set_cons_succ]); (refine takeD (i := 8) (some 62) rfl rfl (by kernel_rfl) (by kernel_rfl) (by kernel_rfl) (fun _ _ _ h => h) (v := ?_) rfl ?_ (by assumption) ?_; rotate_left; (focus (intro w hSw; (try dsimp only at hSw); first | (go_simp; done) | (go_simp; with_reducible rfl))); try simp only [Act.put, List.setIfInBounds_toArray, List.set_cons_zero, List.set_cons_succ])
              refine wpAnyH_ready (rs := [1, 9]) (by kernel_rfl) (by simp) ?_
              refine readyP (o := _) rfl rfl (fun K hK => ?_) (readyP (o := _) rfl rfl (fun K hK => ?_) AllReadyH.nil)
              · refine wp_run (v := ov) (w' := wr.drew) (by go_simp) ?_
                refine hK.out _ _ cT (fun hHeld => ?_)
                clear hK K
                refine wpAnyH_ready (rs := [9]) (by kernel_rfl) (by simp) ?_
                refine readyP (o := _) rfl rfl (fun K hK => ?_) AllReadyH.nil
                go_simp
                (go_at_call 16; refine (HWj.out _).mono ?_; rintro e wz ⟨rfl, hz⟩; subst wz)
                refine hK.out _ _ cT (fun hHeld => ?_)
                clear hK K
                refine wpAnyH_ready (rs := [10]) (by kernel_rfl) (by simp) ?_
                refine readyP (o := _) rfl rfl (fun K hK => ?_) AllReadyH.nil
                go_simp
                refine hK.out _ _ cT2 (fun hHeld => ?_)
                clear hK K
                refine wpAnyH_ready (rs := [11]) (by kernel_rfl) (by simp) ?_
                refine readyP (o := _) rfl rfl (fun K hK => ?_) AllReadyH.nil
                refine wp_append_own _ _ _ 25 rfl (w3.heap.size + 1) 28 wtI (.int .i64 0) 1 8 wts_under wtI_info wtI_zero wtI_size wtI_bytes rfl (by decide) _ _ _ rfl HOA.out ⟨wr.heap.size, 0, none⟩ 1 1 [.int .i64 (wantAt ws j)] rfl rfl (fun j u hj => cells_newW wr.drew _ _ j u hj) (by simp [Value.oneCell']) (by unfold maxLen; omega) (by omega) (by simp; omega) ?_
                intro v' w5 hown' hgrow _
                obtain ⟨q1, q2, q3, q4, q5⟩ := HAP.out v' w5 hown' hgrow
                obtain ⟨gv, capv, rfl⟩ := ownsRow_succ hown'
                clear hown' hgrow
                refine hK.out _ _ q1 (fun hHeld => ?_)
                clear hK K
                (refine takeD (i := 12) (some 66) rfl rfl (by kernel_rfl) (by kernel_rfl) (by kernel_rfl) (fun _ _ _ h => h) (v := ?_) rfl ?_ (by assumption) ?_; rotate_left; (focus (intro w hSw; (try dsimp only at hSw); first | (go_simp; done) | (go_simp; with_reducible rfl))); (try simp only [Act.put, List.setIfInBounds_toArray]))
                refine wpAnyH_ready (rs := [13]) (by kernel_rfl) (by simp) ?_
                refine readyP (o := _) rfl rfl (fun K hK => ?_) AllReadyH.nil
                have p3 : ∀ y, w5.frozen? ⟨w3.heap.size, y, none⟩ = false := fun y => by simp [World.frozen?, q2]
                have p4 : w5.cell? ⟨w3.heap.size, 3, none⟩ = some ov := by simp [World.cell?, q2]
                go_simp
                refine hK.out _ _ q5 (fun hHeld => ?_)
                clear hK K
                refine wpAnyH_done (by kernel_rfl) ?_ _
                go_wp2
                go_roundw
                case rel => exact ⟨j + 1, _, by go_num, by omega, q3, q4⟩
                case measure => simp [intOf]; omega
              · go_simp
                (go_at_call 16; refine (HWj.out _).mono ?_; rintro e wz ⟨rfl, hz⟩; subst wz)
                refine hK.out _ _ cT (fun hHeld => ?_)
                clear hK K
                refine wpAnyH_ready (rs := [1, 10]) (by kernel_rfl) (by simp) ?_
                refine readyP (o := _) rfl rfl (fun K hK => ?_) (readyP (o := _) rfl rfl (fun K hK => ?_) AllReadyH.nil)
                · refine wp_run (v := ov) (w' := wr.drew) (by go_simp) ?_
                  refine hK.out _ _ cT (fun hHeld => ?_)
                  clear hK K
                  refine wpAnyH_ready (rs := [10]) (by kernel_rfl) (by simp) ?_
                  refine readyP (o := _) rfl rfl (fun K hK => ?_) AllReadyH.nil
                  go_simp
                  refine hK.out _ _ cT2 (fun hHeld => ?_)
                  clear hK K
                  refine wpAnyH_ready (rs := [11]) (by kernel_rfl) (by simp) ?_
                  refine readyP (o := _) rfl rfl (fun K hK => ?_) AllReadyH.nil
                  refine wp_append_own _ _ _ 25 rfl (w3.heap.size + 1) 28 wtI (.int .i64 0) 1 8 wts_under wtI_info wtI_zero wtI_size wtI_bytes rfl (by decide) _ _ _ rfl HOA.out ⟨wr.heap.size, 0, none⟩ 1 1 [.int .i64 (wantAt ws j)] rfl rfl (fun j u hj => cells_newW wr.drew _ _ j u hj) (by simp [Value.oneCell']) (by unfold maxLen; omega) (by omega) (by simp; omega) ?_
                  intro v' w5 hown' hgrow _
                  obtain ⟨q1, q2, q3, q4, q5⟩ := HAP.out v' w5 hown' hgrow
                  obtain ⟨gv, capv, rfl⟩ := ownsRow_succ hown'
                  clear hown' hgrow
                  refine hK.out _ _ q1 (fun hHeld => ?_)
                  clear hK K
                  (refine takeD (i := 12) (some 66) rfl rfl (by kernel_rfl) (by kernel_rfl) (by kernel_rfl) (fun _ _ _ h => h) (v := ?_) rfl ?_ (by assumption) ?_; rotate_left; (focus (intro w hSw; (try dsimp only at hSw); first | (go_simp; done) | (go_simp; with_reducible rfl))); (try simp only [Act.put, List.setIfInBounds_toArray]))
                  refine wpAnyH_ready (rs := [13]) (by kernel_rfl) (by simp) ?_
                  refine readyP (o := _) rfl rfl (fun K hK => ?_) AllReadyH.nil
                  have p3 : ∀ y, w5.frozen? ⟨w3.heap.size, y, none⟩ = false := fun y => by simp [World.frozen?, q2]
                  have p4 : w5.cell? ⟨w3.heap.size, 3, none⟩ = some ov := by simp [World.cell?, q2]
                  go_simp
                  refine hK.out _ _ q5 (fun hHeld => ?_)
                  clear hK K
                  refine wpAnyH_done (by kernel_rfl) ?_ _
                  go_wp2
                  go_roundw
                  case rel => exact ⟨j + 1, _, by go_num, by omega, q3, q4⟩
                  case measure => simp [intOf]; omega
                · go_simp
                  refine hK.out _ _ cT2 (fun hHeld => ?_)
                  clear hK K
                  refine wpAnyH_ready (rs := [1]) (by kernel_rfl) (by simp) ?_
                  refine readyP (o := _) rfl rfl (fun K hK => ?_) AllReadyH.nil
                  refine wp_run (v := ov) (w' := (wr.drew.alloc (.cells #[.int .i64 (wantAt ws j)] 28))) (by go_simp) ?_
                  refine hK.out _ _ cT2 (fun hHeld => ?_)
                  clear hK K
                  refine wpAnyH_ready (rs := [11]) (by kernel_rfl) (by simp) ?_
                  refine readyP (o := _) rfl rfl (fun K hK => ?_) AllReadyH.nil
                  refine wp_append_own _ _ _ 25 rfl (w3.heap.size + 1) 28 wtI (.int .i64 0) 1 8 wts_under wtI_info wtI_zero wtI_size wtI_bytes rfl (by decide) _ _ _ rfl HOA.out ⟨wr.heap.size, 0, none⟩ 1 1 [.int .i64 (wantAt ws j)] rfl rfl (fun j u hj => cells_newW wr.drew _ _ j u hj) (by simp [Value.oneCell']) (by unfold maxLen; omega) (by omega) (by simp; omega) ?_
                  intro v' w5 hown' hgrow _
                  obtain ⟨q1, q2, q3, q4, q5⟩ := HAP.out v' w5 hown' hgrow
                  obtain ⟨gv, capv, rfl⟩ := ownsRow_succ hown'
                  clear hown' hgrow
                  refine hK.out _ _ q1 (fun hHeld => ?_)
                  clear hK K
                  (refine takeD (i := 12) (some 66) rfl rfl (by kernel_rfl) (by kernel_rfl) (by kernel_rfl) (fun _ _ _ h => h) (v := ?_) rfl ?_ (by assumption) ?_; rotate_left; (focus (intro w hSw; (try dsimp only at hSw); first | (go_simp; done) | (go_simp; with_reducible rfl))); (try simp only [Act.put, List.setIfInBounds_toArray]))
                  refine wpAnyH_ready (rs := [13]) (by kernel_rfl) (by simp) ?_
                  refine readyP (o := _) rfl rfl (fun K hK => ?_) AllReadyH.nil
                  have p3 : ∀ y, w5.frozen? ⟨w3.heap.size, y, none⟩ = false := fun y => by simp [World.frozen?, q2]
                  have p4 : w5.cell? ⟨w3.heap.size, 3, none⟩ = some ov := by simp [World.cell?, q2]
                  go_simp
                  refine hK.out _ _ q5 (fun hHeld => ?_)
                  clear hK K
                  refine wpAnyH_done (by kernel_rfl) ?_ _
                  go_wp2
                  go_roundw
                  case rel => exact ⟨j + 1, _, by go_num, by omega, q3, q4⟩
                  case measure => simp [intOf]; omega
            · have g3 : ¬ (j : Int) < ws.size := by omega
              obtain rfl : j = ws.size := by omega
              obtain ⟨w4, rfl⟩ : ∃ w4 : World, w4 = wr := ⟨_, rfl⟩
              have HF4 : Hid (∀ W, Below w4.heap.size w4 W → W.heap[w3.heap.size]? = some (.cells #[.string x, .int .i64 gl, .int .i64 gm, ov] 27 (0, 0))) := fun W hW => (hW.block _ hFr).trans hF
              have HW4 : Hid (WtN w.heap.size w4 ov ws) := hide ((WtN.of hown).mono (by have := hB3.size; omega))
              have HFS4 := hide (HFS.out.below hBj)
              have HB4 := hide (hB3.trans (hBj.mono hB3.size))
              have HBk4 := hide (hBk.trans (hBj.mono hBk.size))
              have hz4 : w.heap.size ≤ w4.heap.size := by omega
              have HQm : Hid (∀ y ∈ G, y.1.name.size ≤ 1000) := fun y hy => by
                have h1 : y.1 ∈ (Q ++ (L.take k).map fno).foldl insF [] := by rw [← HGm.out]; exact List.mem_map.2 ⟨y, hy, rfl⟩
                have h2 := (fold_perm (Q ++ (L.take k).map fno) []).subset h1
                rw [List.append_nil] at h2
                exact fns_names _ (HQf.out k _ h2)
              have hGl : G.length ≤ 2086 := by
                have h1 : (G.map Prod.fst).length = (Q ++ (L.take k).map fno).length := by
                  rw [HGm.out, (fold_perm (Q ++ (L.take k).map fno) []).length_eq, List.append_nil]
                rw [List.length_map] at h1
                have := HQl.out k
                omega
              clear hF hown cF hFr hF0 hBF hBj hB5 hj HFS hBk hB3
              rcases HFS4.out.1 with ⟨rfl, hv⟩ | ⟨g0, cap0, hv, hc1, hc2, hg0, hg1, hcell⟩
              · cases hv
                go_wp2
                go_loopw [8] (fun av wr => av = .int .i64 0 ∧ Below w4.heap.size w4 wr) (fun _ _ => 0)
                case atStart => exact ⟨rfl, Below.refl _ _⟩
                case round =>
                  obtain ⟨rfl, hBp⟩ := hrel
                  have HBp := hide hBp
                  clear hBp
                  go_wp2
                  refine wp_region_held_drew (S := fun W => Below w4.heap.size w4 W) (by kernel_rfl) HBp.out.drew (fun hHeld => ?_)
                  (refine takeD (i := 0) (some 67) rfl rfl (by kernel_rfl) (by kernel_rfl) (by kernel_rfl) (fun _ _ _ h => h) (v := ?_) rfl ?_ (by assumption) ?_; rotate_left; (focus (intro w hSw; (try dsimp only at hSw); first | (go_simp; done) | (go_simp; with_reducible rfl))); try simp only [Act.put, List.setIfInBounds_toArray, List.set_cons_zero, List.set_cons_succ]); (refine takeD (i := 1) (some 68) rfl rfl (by kernel_rfl) (by kernel_rfl) (by kernel_rfl) (fun _ _ _ h => h) (v := ?_) rfl ?_ (by assumption) ?_; rotate_left; (focus (intro w hSw; (try dsimp only at hSw); first | (go_simp; done) | (go_simp; with_reducible rfl))); try simp only [Act.put, List.setIfInBounds_toArray, List.set_cons_zero, List.set_cons_succ]); (refine takeD (i := 2) (some 69) rfl rfl (by kernel_rfl) (by kernel_rfl) (by kernel_rfl) (fun _ _ _ h => h) (v := ?_) rfl ?_ (by assumption) ?_; rotate_left; (focus (intro w hSw; (try dsimp only at hSw); first | (go_simp; done) | (go_simp; with_reducible rfl))); try simp only [Act.put, List.setIfInBounds_toArray, List.set_cons_zero, List.set_cons_succ]); (refine takeD (i := 3) (some 70) rfl rfl (by kernel_rfl) (by kernel_rfl) (by kernel_rfl) (fun _ _ _ h => h) (v := ?_) rfl ?_ (by assumption) ?_; rotate_left; (focus (intro w hSw; (try dsimp only at hSw); first | (go_simp; done) | (go_simp; with_reducible rfl))); try simp only [Act.put, List.setIfInBounds_toArray, List.set_cons_zero, List.set_cons_succ]); (refine takeD (i := 4) (some 71) rfl rfl (by kernel_rfl) (by kernel_rfl) (by kernel_rfl) (fun _ _ _ h => h) (v := ?_) rfl ?_ (by assumption) ?_; rotate_left; (focus (intro w hSw; (try dsimp only at hSw); first | (go_simp; done) | (go_simp; with_reducible rfl))); try simp only [Act.put, List.setIfInBounds_toArray, List.set_cons_zero, List.set_cons_succ]); (refine skipD (i := 5) (some 72) rfl rfl (by kernel_rfl) (by kernel_rfl) (by kernel_rfl) (fun _ _ _ h => h) rfl (by assumption) ?_; try simp only [Act.put, List.setIfInBounds_toArray, List.set_cons_zero, List.set_cons_succ]); (refine skipD (i := 6) (some 73) rfl rfl (by kernel_rfl) (by kernel_rfl) (by kernel_rfl) (fun _ _ _ h => h) rfl (by assumption) ?_; try simp only [Act.put, List.setIfInBounds_toArray, List.set_cons_zero, List.set_cons_succ]); (refine skipD (i := 7) (some 74) rfl rfl (by kernel_rfl) (by kernel_rfl) (by kernel_rfl) (fun _ _ _ h => h) rfl (by assumption) ?_; try simp only [Act.put, List.setIfInBounds_toArray, List.set_cons_zero, List.set_cons_succ]); (refine skipD (i := 8) (some 75) rfl rfl (by kernel_rfl) (by kernel_rfl) (by kernel_rfl) (fun _ _ _ h => h) rfl (by assumption) ?_; try simp only [Act.put, List.setIfInBounds_toArray, List.set_cons_zero, List.set_cons_succ]); (refine skipD (i := 9) (some 76) rfl rfl (by kernel_rfl) (by kernel_rfl) (by kernel_rfl) (fun _ _ _ h => h) rfl (by assumption) ?_; try simp only [Act.put, List.setIfInBounds_toArray, List.set_cons_zero, List.set_cons_succ]); (refine skipD (i := 10) (some 77) rfl rfl (by kernel_rfl) (by kernel_rfl) (by kernel_rfl) (fun _ _ _ h => h) rfl (by assumption) ?_; try simp only [Act.put, List.setIfInBounds_toArray, List.set_cons_zero, List.set_cons_succ]); (refine skipD (i := 11) (some 78) rfl rfl (by kernel_rfl) (by kernel_rfl) (by kernel_rfl) (fun _ _ _ h => h) rfl (by assumption) ?_; try simp only [Act.put, List.setIfInBounds_toArray, List.set_cons_zero, List.set_cons_succ]); (refine skipD (i := 12) (some 79) rfl rfl (by kernel_rfl) (by kernel_rfl) (by kernel_rfl) (fun _ _ _ h => h) rfl (by assumption) ?_; try simp only [Act.put, List.setIfInBounds_toArray, List.set_cons_zero, List.set_cons_succ]); (refine skipD (i := 13) (some 80) rfl rfl (by kernel_rfl) (by kernel_rfl) (by kernel_rfl) (fun _ _ _ h => h) rfl (by assumption) ?_; try simp only [Act.put, List.setIfInBounds_toArray, List.set_cons_zero, List.set_cons_succ]); (refine takeD (i := 14) (some 81) rfl rfl (by kernel_rfl) (by kernel_rfl) (by kernel_rfl) (fun _ _ _ h => h) (v := ?_) rfl ?_ (by assumption) ?_; rotate_left; (focus (intro w hSw; (try dsimp only at hSw); first | (go_simp; done) | (go_simp; with_reducible rfl))); try simp only [Act.put, List.setIfInBounds_toArray, List.set_cons_zero, List.set_cons_succ]); refine wpAnyH_done (by kernel_rfl) ?_ _
                  have HB6 := hide HBp.out.drew
                  clear hHeld HBp
                  generalize wr.drew = w6 at *
                  obtain ⟨w6, hw6⟩ : ∃ w6' : World, w6' = w6 := ⟨_, rfl⟩
                  subst hw6
                  have hz6 := HB6.out.size
                  have HO1 : Hid ((w6.alloc (.cells #[] 27)).ownsRow w6.heap.size 27 4 (.slice (some ⟨w6.heap.size, 0, none⟩) 0 0) 0 []) := hide ⟨rfl, .inr ⟨w6.heap.size, 0, #[], rfl, Nat.le_refl _, World.alloc_heap_new w6 _, Nat.le_refl _, by unfold maxLen; omega, rfl, rfl⟩⟩
                  have HB7 : Hid (Below w4.heap.size w4 (w6.alloc (.cells #[] 27))) := hide (HB6.out.alloc hz6 _)
                  have Hb7 : Hid (Below w6.heap.size w6 (w6.alloc (.cells #[] 27))) := hide ((Below.refl _ w6).alloc (Nat.le_refl _) (.cells #[] 27))
                  have HO2 : Hid (((w6.alloc (.cells #[] 27)).alloc (.cells #[.string x, .int .i64 gl, .int .i64 gm, ov] 27)).ownsRow w6.heap.size 27 4 (.slice (some ⟨w6.heap.size, 0, none⟩) 0 0) 0 []) := hide (HO1.out.alloc _)
                  have hF7 := HF4.out _ HB7.out
                  have cF7 : ∀ j, (w6.alloc (.cells #[] 27)).cell? ⟨w3.heap.size, j, none⟩ = (#[.string x, .int .i64 gl, .int .i64 gm, ov] : Array Value)[j]? := fun j => by simp only [World.cell?, hF7]; rfl
                  have f0 : (w6.alloc (.cells #[] 27)).cell? ⟨w3.heap.size, 0, none⟩ = some (.string x) := cF7 0
                  have f1 : (w6.alloc (.cells #[] 27)).cell? ⟨w3.heap.size, 1, none⟩ = some (.int .i64 gl) := cF7 1
                  have f2 : (w6.alloc (.cells #[] 27)).cell? ⟨w3.heap.size, 2, none⟩ = some (.int .i64 gm) := cF7 2
                  have f3 : (w6.alloc (.cells #[] 27)).cell? ⟨w3.heap.size, 3, none⟩ = some ov := cF7 3
                  clear hF7 cF7
                  go_wp2_with (first | (at_builtin; refine wpl_append_none rfl _ _ 22 rfl w6.heap.size 27 fmI 4 fms_under fmI_info _ _ _ rfl HO1.out rfl ?_) | (at_builtin; go_loud (refine wpList_append_own_at _ rfl _ _ 22 rfl w6.heap.size 27 fmI (.agg #[.string ⟨#[]⟩, .int .i64 0, .int .i64 0, .slice none 0 0]) 4 56 fms_under fmI_info fmI_zero fmI_size fmI_bytes rfl (by decide) _ _ _ rfl HO2.out ⟨w6.heap.size + 1, 0, none⟩ 1 1 (fvR (⟨x, gl, gm, ws⟩, ov)) rfl rfl ?c21 ?c22 ?c23 ?c24 ?c25 ?_)))
                  case c21 =>
                    intro j u hu
                    have := World.alloc_heap_new (w6.alloc (.cells #[] 27)) (.cells #[.string x, .int .i64 gl, .int .i64 gm, ov] 27)
                    rw [show (w6.alloc (.cells #[] 27)).heap.size = w6.heap.size + 1 by simp] at this
                    have hj : (#[.string x, .int .i64 gl, .int .i64 gm, ov] : Array Value)[j]? = some u := by simpa [fvR] using hu
                    rw [addr_add, Nat.zero_add]
                    simp only [World.cell?, this]
                    exact hj
                  case c22 => exact one_fvR (x := (⟨x, gl, gm, ws⟩, ov)) HW4.out.one
                  case c23 => unfold maxLen; omega
                  case c24 => omega
                  case c25 => simp; omega
                  intro v8 w8 ho8 hg8 _ _
                  have b8 : Below w6.heap.size w6 w8 := (Hb7.out.alloc (by simp) (.cells #[.string x, .int .i64 gl, .int .i64 gm, ov] 27)).grown hg8 (by simp; omega) (fun g e => (HO2.out.lt g e).1)
                  have HB8 := hide (HB6.out.trans (b8.mono hz6))
                  have HO3 := hide ho8
                  have HNew : Hid (FSl w.heap.size w8 v8 [(⟨x, gl, gm, ws⟩, ov)]) := by
                    refine hide (FSl.of (base := w6.heap.size) ?_ (by omega) (fun z hz => ?_) (by simp))
                    · simpa using ho8
                    · obtain rfl := List.mem_singleton.1 hz
                      exact HW4.out.below HB8.out
                  have HMap : Hid ([((⟨x, gl, gm, ws⟩ : Fu), ov)].map Prod.fst = (Q ++ (L.take (k + 1)).map fno).foldl insF []) := by
                    refine hide ?_
                    rw [HLk.out, ← HGm.out]
                    rfl
                  have HB9 := hide (HBk4.out.trans (HB8.out.mono HBk4.out.size))
                  clear hg8 b8 ho8 f0 f1 f2 f3
                  go_wp2_with ((at_builtin; refine wpl_append_none rfl _ _ 22 rfl w6.heap.size 27 fmI 4 fms_under fmI_info _ _ _ rfl HO3.out rfl ?_))
                  go_roundw
                  case rel => exact ⟨k + 1, _, by go_num, by omega, HB9.out, HNew.out, HMap.out⟩
                  case measure => simp [intOf]; omega
              · subst hv
                have HCell := hide hcell
                have HC1 := hide hc1
                have HC2 := hide hc2
                clear hcell hc1 hc2
                go_wp2
                go_loopw [8] (fun av wr => ∃ p : Nat, av = .int .i64 p ∧ p ≤ G.length ∧ (∀ (m : Nat) y, m < p → G[m]? = some y → lessN y.1 ⟨x, gl, gm, ws⟩ = true) ∧ Below w4.heap.size w4 wr) (fun av _ => G.length - (intOf av).toNat)
                case atStart => exact ⟨0, rfl, by omega, fun m y hm => absurd hm (Nat.not_lt_zero m), Below.refl _ _⟩
                case round =>
                  obtain ⟨p, rfl, hp, hls, hBp⟩ := hrel
                  have HLs := hide hls
                  have HBp := hide hBp
                  clear hls hBp
                  by_cases hpl : p < G.length
                  · have g4 : (p : Int) < G.length := by omega
                    obtain ⟨y, hy⟩ : ∃ y, G[p]? = some y := ⟨_, List.getElem?_eq_getElem hpl⟩
                    have hym := HQm.out y (List.mem_of_getElem? hy)
                    have HSp : Hid (∀ W, Below w4.heap.size w4 W → Below w4.heap.size w4 W ∧ W.cell? ⟨g0, p * 4, none⟩ = some (.string y.1.name) ∧ W.cell? ⟨w3.heap.size, 0, none⟩ = some (.string x)) := fun W hW => ⟨hW, (hW.cell (p := ⟨g0, p * 4, none⟩) hg1).trans (HCell.out p y hy 0 (by omega)), by simp [World.cell?, HF4.out W hW]⟩
                    have hs0 := HSp.out wr HBp.out
                    have HBc : Hid (∀ W : World, Calls Tryz.prog 17 #[.string y.1.name, .string x] W fun e w' => e = .returned (.int .i64 (cmpL y.1.name.toList x.toList)) ∧ Below W.heap.size W w') := fun W => HBy.out _ _ W hym
                    cases hle : lessN y.1 ⟨x, gl, gm, ws⟩
                    · have hpos := pos_is (G.map Prod.fst) ⟨x, gl, gm, ws⟩ p (fun m q hm hq => by
                        rw [List.getElem?_map] at hq
                        obtain ⟨z, hz, rfl⟩ := Option.map_eq_some_iff.1 hq
                        exact HLs.out m z hm hz) (by simpa using hp) (fun q hq => by
                        rw [List.getElem?_map, hy] at hq
                        obtain rfl := Option.some.inj hq
                        exact hle)
                      have hcn : (cmpL y.1.name.toList x.toList < 0) = False := eq_false (by
                        have : Op.bytesLess y.1.name.toList x.toList = false := hle
                        unfold cmpL
                        rw [this]
                        split
                        · contradiction
                        · split <;> omega)
                      have HPos := hide hpos
                      generalize cmpL y.1.name.toList x.toList = cc at *
                      clear hpos hle hy hym
                      go_wp2
                      go_region_held3 (fun W => Below w4.heap.size w4 W ∧ W.cell? ⟨g0, p * 4, none⟩ = some (.string y.1.name) ∧ W.cell? ⟨w3.heap.size, 0, none⟩ = some (.string x)) (first | assumption | (refine HSp.out _ ?_; first | exact HBp.out.drew | exact And.left (by assumption))) (first | (go_at_call 17; refine (HBc.out _).mono ?_; rintro e w6 ⟨rfl, hb6⟩; have hs6 := HSp.out w6 (HBp.out.drew.trans (hb6.mono HBp.out.drew.size)); have HB6 := hide hs6.1; clear hb6))
                      obtain ⟨w6, hw6⟩ : ∃ w6' : World, w6' = w6 := ⟨_, rfl⟩
                      subst hw6
                      have hz6 := HB6.out.size
                      have HO1 : Hid ((w6.alloc (.cells #[] 27)).ownsRow w6.heap.size 27 4 (.slice (some ⟨w6.heap.size, 0, none⟩) 0 0) 0 []) := hide ⟨rfl, .inr ⟨w6.heap.size, 0, #[], rfl, Nat.le_refl _, World.alloc_heap_new w6 _, Nat.le_refl _, by unfold maxLen; omega, rfl, rfl⟩⟩
                      have HB6a : Hid (Below w4.heap.size w4 (w6.alloc (.cells #[] 27))) := hide (HB6.out.alloc hz6 _)
                      have HCs := hide (FSl.cells HCell.out)
                      have HOne : Hid (∀ z ∈ G, z.2.oneCell' = true) := hide (fun z hz => (HFS4.out.2 z hz).one)
                      have hlen1 : ((G.take p).flatMap fvR).length = p * 4 := by rw [flatR_len, List.length_take]; omega
                      have hlen3 : ((G.drop p).flatMap fvR).length = (G.length - p) * 4 := by rw [flatR_len, List.length_drop]
                      have hpc1 : p ≤ cap0 := by have := HC1.out; omega
                      have hpc2 : p ≤ G.length := by omega
                      go_wp2_with ((at_builtin; go_loud (refine wpList_append_own_at _ rfl _ _ 22 rfl w6.heap.size 27 fmI (.agg #[.string ⟨#[]⟩, .int .i64 0, .int .i64 0, .slice none 0 0]) 4 56 fms_under fmI_info fmI_zero fmI_size fmI_bytes rfl (by decide) _ _ _ rfl HO1.out ⟨g0, 0, none⟩ p cap0 ((G.take p).flatMap fvR) rfl hlen1 ?c11 ?c12 ?c13 ?c14 ?c15 ?_)))
                      case c11 =>
                        intro j u hu
                        rw [← flatR_take] at hu
                        have hu2 : (G.flatMap fvR)[j]? = some u := by
                          rw [List.getElem?_take] at hu
                          split at hu
                          · exact hu
                          · cases hu
                        rw [addr_add, Nat.zero_add, ← HCs.out j u hu2]
                        exact HB6a.out.cell (p := ⟨g0, j, none⟩) hg1
                      case c12 => exact one_flatR (fun z hz => HOne.out z (List.mem_of_mem_take hz))
                      case c13 => unfold maxLen; omega
                      case c14 => omega
                      case c15 => simp
                      intro v7 w7 ho7 hg7 _ _
                      have b7 : Below w6.heap.size w6 w7 := ((Below.refl _ w6).alloc (Nat.le_refl _) (.cells #[] 27)).grown hg7 (by simp) (fun g e => (HO1.out.lt g e).1)
                      have hB7 : Below w4.heap.size w4 w7 := HB6.out.trans (b7.mono hz6)
                      have HB7 := hide hB7
                      have Hb7 := hide b7
                      have HO2 : Hid ((w7.alloc (.cells #[.string x, .int .i64 gl, .int .i64 gm, ov] 27)).ownsRow w6.heap.size 27 4 v7 p ((G.take p).flatMap fvR)) := hide (ho7.alloc _)
                      have hF7 := HF4.out w7 hB7
                      have cF7 : ∀ j, w7.cell? ⟨w3.heap.size, j, none⟩ = (#[.string x, .int .i64 gl, .int .i64 gm, ov] : Array Value)[j]? := fun j => by simp [World.cell?, hF7]
                      have f0 : w7.cell? ⟨w3.heap.size, 0, none⟩ = some (.string x) := cF7 0
                      have f1 : w7.cell? ⟨w3.heap.size, 1, none⟩ = some (.int .i64 gl) := cF7 1
                      have f2 : w7.cell? ⟨w3.heap.size, 2, none⟩ = some (.int .i64 gm) := cF7 2
                      have f3 : w7.cell? ⟨w3.heap.size, 3, none⟩ = some ov := cF7 3
                      have hz7 : w6.heap.size ≤ w7.heap.size := b7.size
                      clear hg7 ho7 b7 hB7 hF7 cF7
                      go_wp2_with ((at_builtin; go_loud (refine wpList_append_own_at _ rfl _ _ 22 rfl w6.heap.size 27 fmI (.agg #[.string ⟨#[]⟩, .int .i64 0, .int .i64 0, .slice none 0 0]) 4 56 fms_under fmI_info fmI_zero fmI_size fmI_bytes rfl (by decide) _ _ _ rfl HO2.out ⟨w7.heap.size, 0, none⟩ 1 1 (fvR (⟨x, gl, gm, ws⟩, ov)) rfl rfl ?c21 ?c22 ?c23 ?c24 ?c25 ?_)))
                      case c21 =>
                        intro j u hu
                        have := World.alloc_heap_new w7 (.cells #[.string x, .int .i64 gl, .int .i64 gm, ov] 27)
                        have hj : (#[.string x, .int .i64 gl, .int .i64 gm, ov] : Array Value)[j]? = some u := by simpa [fvR] using hu
                        rw [addr_add, Nat.zero_add]
                        simp only [World.cell?, this]
                        exact hj
                      case c22 => exact one_fvR (x := (⟨x, gl, gm, ws⟩, ov)) HW4.out.one
                      case c23 => unfold maxLen; omega
                      case c24 => omega
                      case c25 => simp; omega
                      intro v8 w8 ho8 hg8 _ _
                      have b8 : Below w6.heap.size w6 w8 := (Hb7.out.alloc hz7 (.cells #[.string x, .int .i64 gl, .int .i64 gm, ov] 27)).grown hg8 (by simp; omega) (fun g e => (HO2.out.lt g e).1)
                      have HB8 := hide (HB6.out.trans (b8.mono hz6))
                      have Hb8 := hide b8
                      have HO3 := hide ho8
                      have hz8 : w6.heap.size ≤ w8.heap.size := b8.size
                      clear hg8 ho8 b8 f0 f1 f2 f3
                      have hcc := HC1.out
                      have hcc2 := HC2.out
                      unfold maxLen at hcc2
                      have hpc3 : ¬ cap0 = p := by omega
                      go_wp2_with ((at_builtin; go_loud (refine wpList_append_own_at _ rfl _ _ 22 rfl w6.heap.size 27 fmI (.agg #[.string ⟨#[]⟩, .int .i64 0, .int .i64 0, .slice none 0 0]) 4 56 fms_under fmI_info fmI_zero fmI_size fmI_bytes rfl (by decide) _ _ _ rfl HO3.out ⟨g0, p * 4, none⟩ (G.length - p) (cap0 - p) ((G.drop p).flatMap fvR) rfl hlen3 ?c31 ?c32 ?c33 ?c34 ?c35 ?_)))
                      case c31 =>
                        intro j u hu
                        rw [← flatR_drop, List.getElem?_drop] at hu
                        rw [addr_add, ← HCs.out _ u hu]
                        exact HB8.out.cell (p := ⟨g0, p * 4 + j, none⟩) hg1
                      case c32 => exact one_flatR (fun z hz => HOne.out z (List.mem_of_mem_drop hz))
                      case c33 => unfold maxLen; omega
                      case c34 => omega
                      case c35 => omega
                      intro v9 w9 ho9 hg9 _ _
                      have b9 : Below w6.heap.size w6 w9 := Hb8.out.grown hg9 hz8 (fun g e => (HO3.out.lt g e).1)
                      have hB9 : Below w4.heap.size w4 w9 := HB6.out.trans (b9.mono hz6)
                      have HNew : Hid (FSl w.heap.size w9 v9 (G.take p ++ (⟨x, gl, gm, ws⟩, ov) :: G.drop p)) := by
                        refine hide (FSl.of (base := w6.heap.size) ?_ (by omega) (fun z hz => ?_) (by simp; omega))
                        · have e1 : (G.take p ++ (⟨x, gl, gm, ws⟩, ov) :: G.drop p).length = p + 1 + (G.length - p) := by simp; omega
                          have e2 : (G.take p ++ (⟨x, gl, gm, ws⟩, ov) :: G.drop p).flatMap fvR = (G.take p).flatMap fvR ++ (fvR (⟨x, gl, gm, ws⟩, ov) ++ (G.drop p).flatMap fvR) := by simp
                          rw [e1, e2]
                          exact ho9
                        · rcases List.mem_append.1 hz with hz | hz
                          · exact (HFS4.out.2 z (List.mem_of_mem_take hz)).below hB9
                          · rcases List.mem_cons.1 hz with rfl | hz
                            · exact HW4.out.below hB9
                            · exact (HFS4.out.2 z (List.mem_of_mem_drop hz)).below hB9
                      have HMap : Hid ((G.take p ++ (⟨x, gl, gm, ws⟩, ov) :: G.drop p).map Prod.fst = (Q ++ (L.take (k + 1)).map fno).foldl insF []) := by
                        refine hide ?_
                        rw [HLk.out, ← HGm.out]
                        unfold insF
                        rw [HPos.out]
                        simp
                      have HB9 := hide (HBk4.out.trans (hB9.mono HBk4.out.size))
                      clear ho9 hg9 b9 hB9
                      go_wp2
                      go_roundw
                      case rel => exact ⟨k + 1, _, by go_num, by omega, HB9.out, HNew.out, HMap.out⟩
                      case measure => simp [intOf]; omega
                    · have hcn : cmpL y.1.name.toList x.toList = -1 := by
                        have : Op.bytesLess y.1.name.toList x.toList = true := hle
                        unfold cmpL
                        rw [this]
                        rfl
                      rw [hcn] at HBc
                      have HLs2 : Hid (∀ (m : Nat) z, m < p + 1 → G[m]? = some z → lessN z.1 ⟨x, gl, gm, ws⟩ = true) := fun m z hm hz => by
                        by_cases hmp : m = p
                        · subst hmp
                          rw [hy] at hz
                          obtain rfl := Option.some.inj hz
                          exact hle
                        · exact HLs.out m z (by omega) hz
                      clear hcn hle hy hym
                      go_wp2
                      go_region_held3 (fun W => Below w4.heap.size w4 W ∧ W.cell? ⟨g0, p * 4, none⟩ = some (.string y.1.name) ∧ W.cell? ⟨w3.heap.size, 0, none⟩ = some (.string x)) (first | assumption | (refine HSp.out _ ?_; first | exact HBp.out.drew | exact And.left (by assumption))) (first | (go_at_call 17; refine (HBc.out _).mono ?_; rintro e w6 ⟨rfl, hb6⟩; have hs6 := HSp.out w6 (HBp.out.drew.trans (hb6.mono HBp.out.drew.size)); have HB6 := hide hs6.1; clear hb6))
                      go_wp2
                      go_roundw
                      case rel => exact ⟨p + 1, by go_num, by omega, HLs2.out, HB6.out⟩
                      case measure => simp [intOf]; omega
                  · have g4 : ¬ (p : Int) < G.length := by omega
                    have hpos := pos_is (G.map Prod.fst) ⟨x, gl, gm, ws⟩ p (fun m q hm hq => by
                      rw [List.getElem?_map] at hq
                      obtain ⟨z, hz, rfl⟩ := Option.map_eq_some_iff.1 hq
                      exact HLs.out m z hm hz) (by simpa using hp) (fun q hq => by
                      rw [List.getElem?_eq_none (by simp; omega)] at hq
                      cases hq)
                    have HPos := hide hpos
                    clear hpos
                    go_wp2
                    refine wp_region_held_drew (S := fun W => Below w4.heap.size w4 W) (by kernel_rfl) HBp.out.drew (fun hHeld => ?_)
                    (refine takeD (i := 0) (some 67) rfl rfl (by kernel_rfl) (by kernel_rfl) (by kernel_rfl) (fun _ _ _ h => h) (v := ?_) rfl ?_ (by assumption) ?_; rotate_left; (focus (intro w hSw; (try dsimp only at hSw); first | (go_simp; done) | (go_simp; with_reducible rfl))); try simp only [Act.put, List.setIfInBounds_toArray, List.set_cons_zero, List.set_cons_succ]); (refine takeD (i := 1) (some 68) rfl rfl (by kernel_rfl) (by kernel_rfl) (by kernel_rfl) (fun _ _ _ h => h) (v := ?_) rfl ?_ (by assumption) ?_; rotate_left; (focus (intro w hSw; (try dsimp only at hSw); first | (go_simp; done) | (go_simp; with_reducible rfl))); try simp only [Act.put, List.setIfInBounds_toArray, List.set_cons_zero, List.set_cons_succ]); (refine takeD (i := 2) (some 69) rfl rfl (by kernel_rfl) (by kernel_rfl) (by kernel_rfl) (fun _ _ _ h => h) (v := ?_) rfl ?_ (by assumption) ?_; rotate_left; (focus (intro w hSw; (try dsimp only at hSw); first | (go_simp; done) | (go_simp; with_reducible rfl))); try simp only [Act.put, List.setIfInBounds_toArray, List.set_cons_zero, List.set_cons_succ]); (refine takeD (i := 3) (some 70) rfl rfl (by kernel_rfl) (by kernel_rfl) (by kernel_rfl) (fun _ _ _ h => h) (v := ?_) rfl ?_ (by assumption) ?_; rotate_left; (focus (intro w hSw; (try dsimp only at hSw); first | (go_simp; done) | (go_simp; with_reducible rfl))); try simp only [Act.put, List.setIfInBounds_toArray, List.set_cons_zero, List.set_cons_succ]); (refine takeD (i := 4) (some 71) rfl rfl (by kernel_rfl) (by kernel_rfl) (by kernel_rfl) (fun _ _ _ h => h) (v := ?_) rfl ?_ (by assumption) ?_; rotate_left; (focus (intro w hSw; (try dsimp only at hSw); first | (go_simp; done) | (go_simp; with_reducible rfl))); try simp only [Act.put, List.setIfInBounds_toArray, List.set_cons_zero, List.set_cons_succ]); (refine skipD (i := 5) (some 72) rfl rfl (by kernel_rfl) (by kernel_rfl) (by kernel_rfl) (fun _ _ _ h => h) rfl (by assumption) ?_; try simp only [Act.put, List.setIfInBounds_toArray, List.set_cons_zero, List.set_cons_succ]); (refine skipD (i := 6) (some 73) rfl rfl (by kernel_rfl) (by kernel_rfl) (by kernel_rfl) (fun _ _ _ h => h) rfl (by assumption) ?_; try simp only [Act.put, List.setIfInBounds_toArray, List.set_cons_zero, List.set_cons_succ]); (refine skipD (i := 7) (some 74) rfl rfl (by kernel_rfl) (by kernel_rfl) (by kernel_rfl) (fun _ _ _ h => h) rfl (by assumption) ?_; try simp only [Act.put, List.setIfInBounds_toArray, List.set_cons_zero, List.set_cons_succ]); (refine skipD (i := 8) (some 75) rfl rfl (by kernel_rfl) (by kernel_rfl) (by kernel_rfl) (fun _ _ _ h => h) rfl (by assumption) ?_; try simp only [Act.put, List.setIfInBounds_toArray, List.set_cons_zero, List.set_cons_succ]); (refine skipD (i := 9) (some 76) rfl rfl (by kernel_rfl) (by kernel_rfl) (by kernel_rfl) (fun _ _ _ h => h) rfl (by assumption) ?_; try simp only [Act.put, List.setIfInBounds_toArray, List.set_cons_zero, List.set_cons_succ]); (refine skipD (i := 10) (some 77) rfl rfl (by kernel_rfl) (by kernel_rfl) (by kernel_rfl) (fun _ _ _ h => h) rfl (by assumption) ?_; try simp only [Act.put, List.setIfInBounds_toArray, List.set_cons_zero, List.set_cons_succ]); (refine skipD (i := 11) (some 78) rfl rfl (by kernel_rfl) (by kernel_rfl) (by kernel_rfl) (fun _ _ _ h => h) rfl (by assumption) ?_; try simp only [Act.put, List.setIfInBounds_toArray, List.set_cons_zero, List.set_cons_succ]); (refine skipD (i := 12) (some 79) rfl rfl (by kernel_rfl) (by kernel_rfl) (by kernel_rfl) (fun _ _ _ h => h) rfl (by assumption) ?_; try simp only [Act.put, List.setIfInBounds_toArray, List.set_cons_zero, List.set_cons_succ]); (refine skipD (i := 13) (some 80) rfl rfl (by kernel_rfl) (by kernel_rfl) (by kernel_rfl) (fun _ _ _ h => h) rfl (by assumption) ?_; try simp only [Act.put, List.setIfInBounds_toArray, List.set_cons_zero, List.set_cons_succ]); (refine takeD (i := 14) (some 81) rfl rfl (by kernel_rfl) (by kernel_rfl) (by kernel_rfl) (fun _ _ _ h => h) (v := ?_) rfl ?_ (by assumption) ?_; rotate_left; (focus (intro w hSw; (try dsimp only at hSw); first | (go_simp; done) | (go_simp; with_reducible rfl))); try simp only [Act.put, List.setIfInBounds_toArray, List.set_cons_zero, List.set_cons_succ]); refine wpAnyH_done (by kernel_rfl) ?_ _
                    have HB6 := hide HBp.out.drew
                    clear hHeld HBp
                    generalize wr.drew = w6 at *
                    obtain ⟨w6, hw6⟩ : ∃ w6' : World, w6' = w6 := ⟨_, rfl⟩
                    subst hw6
                    have hz6 := HB6.out.size
                    have HO1 : Hid ((w6.alloc (.cells #[] 27)).ownsRow w6.heap.size 27 4 (.slice (some ⟨w6.heap.size, 0, none⟩) 0 0) 0 []) := hide ⟨rfl, .inr ⟨w6.heap.size, 0, #[], rfl, Nat.le_refl _, World.alloc_heap_new w6 _, Nat.le_refl _, by unfold maxLen; omega, rfl, rfl⟩⟩
                    have HB6a : Hid (Below w4.heap.size w4 (w6.alloc (.cells #[] 27))) := hide (HB6.out.alloc hz6 _)
                    have HCs := hide (FSl.cells HCell.out)
                    have HOne : Hid (∀ z ∈ G, z.2.oneCell' = true) := hide (fun z hz => (HFS4.out.2 z hz).one)
                    have hlen1 : ((G.take p).flatMap fvR).length = p * 4 := by rw [flatR_len, List.length_take]; omega
                    have hlen3 : ((G.drop p).flatMap fvR).length = (G.length - p) * 4 := by rw [flatR_len, List.length_drop]
                    have hpc1 : p ≤ cap0 := by have := HC1.out; omega
                    have hpc2 : p ≤ G.length := by omega
                    go_wp2_with ((at_builtin; go_loud (refine wpList_append_own_at _ rfl _ _ 22 rfl w6.heap.size 27 fmI (.agg #[.string ⟨#[]⟩, .int .i64 0, .int .i64 0, .slice none 0 0]) 4 56 fms_under fmI_info fmI_zero fmI_size fmI_bytes rfl (by decide) _ _ _ rfl HO1.out ⟨g0, 0, none⟩ p cap0 ((G.take p).flatMap fvR) rfl hlen1 ?c11 ?c12 ?c13 ?c14 ?c15 ?_)))
                    case c11 =>
                      intro j u hu
                      rw [← flatR_take] at hu
                      have hu2 : (G.flatMap fvR)[j]? = some u := by
                        rw [List.getElem?_take] at hu
                        split at hu
                        · exact hu
                        · cases hu
                      rw [addr_add, Nat.zero_add, ← HCs.out j u hu2]
                      exact HB6a.out.cell (p := ⟨g0, j, none⟩) hg1
                    case c12 => exact one_flatR (fun z hz => HOne.out z (List.mem_of_mem_take hz))
                    case c13 => unfold maxLen; omega
                    case c14 => omega
                    case c15 => simp
                    intro v7 w7 ho7 hg7 _ _
                    have b7 : Below w6.heap.size w6 w7 := ((Below.refl _ w6).alloc (Nat.le_refl _) (.cells #[] 27)).grown hg7 (by simp) (fun g e => (HO1.out.lt g e).1)
                    have hB7 : Below w4.heap.size w4 w7 := HB6.out.trans (b7.mono hz6)
                    have HB7 := hide hB7
                    have Hb7 := hide b7
                    have HO2 : Hid ((w7.alloc (.cells #[.string x, .int .i64 gl, .int .i64 gm, ov] 27)).ownsRow w6.heap.size 27 4 v7 p ((G.take p).flatMap fvR)) := hide (ho7.alloc _)
                    have hF7 := HF4.out w7 hB7
                    have cF7 : ∀ j, w7.cell? ⟨w3.heap.size, j, none⟩ = (#[.string x, .int .i64 gl, .int .i64 gm, ov] : Array Value)[j]? := fun j => by simp [World.cell?, hF7]
                    have f0 : w7.cell? ⟨w3.heap.size, 0, none⟩ = some (.string x) := cF7 0
                    have f1 : w7.cell? ⟨w3.heap.size, 1, none⟩ = some (.int .i64 gl) := cF7 1
                    have f2 : w7.cell? ⟨w3.heap.size, 2, none⟩ = some (.int .i64 gm) := cF7 2
                    have f3 : w7.cell? ⟨w3.heap.size, 3, none⟩ = some ov := cF7 3
                    have hz7 : w6.heap.size ≤ w7.heap.size := b7.size
                    clear hg7 ho7 b7 hB7 hF7 cF7
                    go_wp2_with ((at_builtin; go_loud (refine wpList_append_own_at _ rfl _ _ 22 rfl w6.heap.size 27 fmI (.agg #[.string ⟨#[]⟩, .int .i64 0, .int .i64 0, .slice none 0 0]) 4 56 fms_under fmI_info fmI_zero fmI_size fmI_bytes rfl (by decide) _ _ _ rfl HO2.out ⟨w7.heap.size, 0, none⟩ 1 1 (fvR (⟨x, gl, gm, ws⟩, ov)) rfl rfl ?c21 ?c22 ?c23 ?c24 ?c25 ?_)))
                    case c21 =>
                      intro j u hu
                      have := World.alloc_heap_new w7 (.cells #[.string x, .int .i64 gl, .int .i64 gm, ov] 27)
                      have hj : (#[.string x, .int .i64 gl, .int .i64 gm, ov] : Array Value)[j]? = some u := by simpa [fvR] using hu
                      rw [addr_add, Nat.zero_add]
                      simp only [World.cell?, this]
                      exact hj
                    case c22 => exact one_fvR (x := (⟨x, gl, gm, ws⟩, ov)) HW4.out.one
                    case c23 => unfold maxLen; omega
                    case c24 => omega
                    case c25 => simp; omega
                    intro v8 w8 ho8 hg8 _ _
                    have b8 : Below w6.heap.size w6 w8 := (Hb7.out.alloc hz7 (.cells #[.string x, .int .i64 gl, .int .i64 gm, ov] 27)).grown hg8 (by simp; omega) (fun g e => (HO2.out.lt g e).1)
                    have HB8 := hide (HB6.out.trans (b8.mono hz6))
                    have Hb8 := hide b8
                    have HO3 := hide ho8
                    have hz8 : w6.heap.size ≤ w8.heap.size := b8.size
                    clear hg8 ho8 b8 f0 f1 f2 f3
                    have hcc := HC1.out
                    by_cases hpc3 : cap0 = p
                    · skip
                      have hcc := HC1.out
                      have hcc2 := HC2.out
                      unfold maxLen at hcc2
                      
                      go_wp2_with ((at_builtin; go_loud (refine wpList_append_own_at _ rfl _ _ 22 rfl w6.heap.size 27 fmI (.agg #[.string ⟨#[]⟩, .int .i64 0, .int .i64 0, .slice none 0 0]) 4 56 fms_under fmI_info fmI_zero fmI_size fmI_bytes rfl (by decide) _ _ _ rfl HO3.out ⟨g0, 0, none⟩ (G.length - p) _ ((G.drop p).flatMap fvR) rfl hlen3 ?c31 ?c32 ?c33 ?c34 ?c35 ?_)))
                      case c31 =>
                        intro j u hu
                        rw [List.drop_eq_nil_of_le (by omega)] at hu
                        simp at hu
                      case c32 => exact one_flatR (fun z hz => HOne.out z (List.mem_of_mem_drop hz))
                      case c33 => unfold maxLen; omega
                      case c34 => omega
                      case c35 => omega
                      intro v9 w9 ho9 hg9 _ _
                      have b9 : Below w6.heap.size w6 w9 := Hb8.out.grown hg9 hz8 (fun g e => (HO3.out.lt g e).1)
                      have hB9 : Below w4.heap.size w4 w9 := HB6.out.trans (b9.mono hz6)
                      have HNew : Hid (FSl w.heap.size w9 v9 (G.take p ++ (⟨x, gl, gm, ws⟩, ov) :: G.drop p)) := by
                        refine hide (FSl.of (base := w6.heap.size) ?_ (by omega) (fun z hz => ?_) (by simp; omega))
                        · have e1 : (G.take p ++ (⟨x, gl, gm, ws⟩, ov) :: G.drop p).length = p + 1 + (G.length - p) := by simp; omega
                          have e2 : (G.take p ++ (⟨x, gl, gm, ws⟩, ov) :: G.drop p).flatMap fvR = (G.take p).flatMap fvR ++ (fvR (⟨x, gl, gm, ws⟩, ov) ++ (G.drop p).flatMap fvR) := by simp
                          rw [e1, e2]
                          exact ho9
                        · rcases List.mem_append.1 hz with hz | hz
                          · exact (HFS4.out.2 z (List.mem_of_mem_take hz)).below hB9
                          · rcases List.mem_cons.1 hz with rfl | hz
                            · exact HW4.out.below hB9
                            · exact (HFS4.out.2 z (List.mem_of_mem_drop hz)).below hB9
                      have HMap : Hid ((G.take p ++ (⟨x, gl, gm, ws⟩, ov) :: G.drop p).map Prod.fst = (Q ++ (L.take (k + 1)).map fno).foldl insF []) := by
                        refine hide ?_
                        rw [HLk.out, ← HGm.out]
                        unfold insF
                        rw [HPos.out]
                        simp
                      have HB9 := hide (HBk4.out.trans (hB9.mono HBk4.out.size))
                      clear ho9 hg9 b9 hB9
                      go_wp2
                      go_roundw
                      case rel => exact ⟨k + 1, _, by go_num, by omega, HB9.out, HNew.out, HMap.out⟩
                      case measure => simp [intOf]; omega
                    · skip
                      have hcc := HC1.out
                      have hcc2 := HC2.out
                      unfold maxLen at hcc2
                      
                      go_wp2_with ((at_builtin; go_loud (refine wpList_append_own_at _ rfl _ _ 22 rfl w6.heap.size 27 fmI (.agg #[.string ⟨#[]⟩, .int .i64 0, .int .i64 0, .slice none 0 0]) 4 56 fms_under fmI_info fmI_zero fmI_size fmI_bytes rfl (by decide) _ _ _ rfl HO3.out ⟨g0, p * 4, none⟩ (G.length - p) (cap0 - p) ((G.drop p).flatMap fvR) rfl hlen3 ?c31 ?c32 ?c33 ?c34 ?c35 ?_)))
                      case c31 =>
                        intro j u hu
                        rw [← flatR_drop, List.getElem?_drop] at hu
                        rw [addr_add, ← HCs.out _ u hu]
                        exact HB8.out.cell (p := ⟨g0, p * 4 + j, none⟩) hg1
                      case c32 => exact one_flatR (fun z hz => HOne.out z (List.mem_of_mem_drop hz))
                      case c33 => unfold maxLen; omega
                      case c34 => omega
                      case c35 => omega
                      intro v9 w9 ho9 hg9 _ _
                      have b9 : Below w6.heap.size w6 w9 := Hb8.out.grown hg9 hz8 (fun g e => (HO3.out.lt g e).1)
                      have hB9 : Below w4.heap.size w4 w9 := HB6.out.trans (b9.mono hz6)
                      have HNew : Hid (FSl w.heap.size w9 v9 (G.take p ++ (⟨x, gl, gm, ws⟩, ov) :: G.drop p)) := by
                        refine hide (FSl.of (base := w6.heap.size) ?_ (by omega) (fun z hz => ?_) (by simp; omega))
                        · have e1 : (G.take p ++ (⟨x, gl, gm, ws⟩, ov) :: G.drop p).length = p + 1 + (G.length - p) := by simp; omega
                          have e2 : (G.take p ++ (⟨x, gl, gm, ws⟩, ov) :: G.drop p).flatMap fvR = (G.take p).flatMap fvR ++ (fvR (⟨x, gl, gm, ws⟩, ov) ++ (G.drop p).flatMap fvR) := by simp
                          rw [e1, e2]
                          exact ho9
                        · rcases List.mem_append.1 hz with hz | hz
                          · exact (HFS4.out.2 z (List.mem_of_mem_take hz)).below hB9
                          · rcases List.mem_cons.1 hz with rfl | hz
                            · exact HW4.out.below hB9
                            · exact (HFS4.out.2 z (List.mem_of_mem_drop hz)).below hB9
                      have HMap : Hid ((G.take p ++ (⟨x, gl, gm, ws⟩, ov) :: G.drop p).map Prod.fst = (Q ++ (L.take (k + 1)).map fno).foldl insF []) := by
                        refine hide ?_
                        rw [HLk.out, ← HGm.out]
                        unfold insF
                        rw [HPos.out]
                        simp
                      have HB9 := hide (HBk4.out.trans (hB9.mono HBk4.out.size))
                      clear ho9 hg9 b9 hB9
                      go_wp2
                      go_roundw
                      case rel => exact ⟨k + 1, _, by go_num, by omega, HB9.out, HNew.out, HMap.out⟩
                      case measure => simp [intOf]; omega
        · have g2 : ¬ (k : Int) < L.length := by omega
          obtain rfl : k = L.length := by omega
          have HX := hide HGm.out
          rw [List.take_length, ← HQn.out] at HX
          go_wp2
          go_roundw
          case rel => exact ⟨i + 1, G, by go_num, by omega, hB3, HFS.out, HX.out⟩
          case measure => simp [intOf]; omega
    · have g1 : ¬ (i : Int) < 20 := by omega
      obtain rfl : i = 20 := by omega
      have hG : G0.map Prod.fst = refAll := by
        rw [HGm.out, show refG.take 20 = refG from rfl, ref_fns]
        rfl
      have hl : G0.length = 86 := by rw [← List.length_map (f := Prod.fst), hG, ref_len]
      rcases HFS.out.1 with ⟨rfl, _⟩ | ⟨gg, cap, rfl, _⟩
      · simp at hl
      rw [hl] at HFS
      rw [hl]
      have HG2 := hide hG
      have HB9 := hide (HBW.out.trans (hB.mono HBW.out.size))
      clear hG hl
      go_wp2
      go_ret
      exact ⟨gg, cap, rfl, G0, HG2.out, HFS.out, HB9.out⟩
end Go.Proofs.YtklldmidcmfbdaaGreatDoor
