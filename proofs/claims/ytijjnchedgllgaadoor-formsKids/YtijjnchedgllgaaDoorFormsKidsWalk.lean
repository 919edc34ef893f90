/-
  The walk of FormsKids.
-/
import Derived.Test.YtijjnchedgllgaaDoorFmD
import Derived.Deep.MidRow
import Derived.Deep.RegionHeld3
namespace Go.Proofs.YtijjnchedgllgaaDoor
open Go.RowKit Go.Shelf

theorem idxL (p : Int) (n : Nat) (hn : 0 < n) (hm : n ≤ maxLen) : ∃ i : Nat, i < n ∧ IntKind.i64.wrap ((IntKind.u64.wrap p).tmod (n : Int)) = (i : Int) := by
  have h1 : 0 ≤ IntKind.u64.wrap p := by rw [IntKind.wrap_u64]; omega
  have h2 : (IntKind.u64.wrap p) % (n : Int) < (n : Int) := Int.emod_lt_of_pos _ (by omega)
  have h3 : 0 ≤ (IntKind.u64.wrap p) % (n : Int) := Int.emod_nonneg _ (by omega)
  unfold maxLen at hm
  refine ⟨((IntKind.u64.wrap p) % (n : Int)).toNat, by omega, ?_⟩
  rw [Int.tmod_eq_emod_of_nonneg h1, IntKind.wrap_i64]
  omega
theorem wrapN (n : Nat) (hm : n ≤ maxLen) : IntKind.u64.wrap (n : Int) = (n : Int) := by
  unfold maxLen at hm
  rw [IntKind.wrap_u64]
  omega
set_option maxRecDepth 100000 in
set_option maxHeartbeats 4000000 in
theorem formsKids_walk (D : Nat → Prop) (h : Hd) (k : Fo) (a : Option Addr) (n cap : Nat) (p : Int) (w : World) (hD : ∀ c, D c → c < w.heap.size) (hk : Kv w D (.slice a n cap) k) (hv : h.vs.length ≤ maxLen) (ht : h.txt.length ≤ maxLen) (ho : okF k) :
    Calls Tryd.prog 6 #[.agg (hdC h (.slice a n cap)).toArray, .int .i64 p] w fun e w' => e = .returned (.bool true) ∧ Below w.heap.size w w' := by
  have HDp : Hid (∀ W : World, Below w.heap.size w W → Calls Tryd.prog 11 #[.agg (hdC h (.slice a n cap)).toArray] W fun e w' => e = .returned (.bool (decide (depthN k = 0))) ∧ Below W.heap.size W w') := fun W hW => deep_any D h k a n cap W (fun c hc => Nat.lt_of_lt_of_le (hD c hc) hW.size) (kv_to hk (fun b hb => ⟨hb, hW.block b (hD b hb)⟩))
  have HC : Hid (depthN k ≠ 0 → ∀ W : World, Below w.heap.size w W → Calls Tryd.prog 12 #[.agg (hdC h (.slice a n cap)).toArray] W fun e w' => e = .returned (.int .i64 (formsE h k)) ∧ Below W.heap.size W w') := fun hd W hW => by
    refine formsCheck_any D h k a n cap W (fun c hc => Nat.lt_of_lt_of_le (hD c hc) hW.size) (kv_to hk (fun b hb => ⟨hb, hW.block b (hD b hb)⟩)) ?_ hv ht ho
    unfold depthN at hd
    by_cases hq : k.many + 1 ≤ 4096 ∧ k.deep + 1 ≤ 160
    · exact hq.1
    · rw [if_neg hq] at hd
      exact absurd rfl hd
  have HL : Hid (∀ W : World, Calls Tryd.prog 10 #[] W fun e w' => e = .returned (.bool true) ∧ Below W.heap.size W w') := fun W => lives9_any W
  have HX := hide (Box.new w (hdC h (.slice a n cap)))
  have HB := hide ((Below.refl _ w).alloc (Nat.le_refl _) (.cells (hdC h (.slice a n cap)).toArray 44))
  have HKV := hide hk
  have HDD := hide hD
  have HOK := hide ho
  clear hv ht ho hk hD
  by_cases hd : depthN k = 0
  · rw [hd] at HDp
    simp only [decide_true] at HDp
    clear HC hd
    go_enter Tryd.func6, Tryd.ntmps6
    go_wp2_with (first | (with_reducible refine wpl_id ?_; refine wpl_load rfl _ rfl _ rfl (by ((repeat' (first | with_reducible exact Hid.out (by assumption) | with_reducible apply Box.set | with_reducible exact Box.new _ _ | with_reducible apply Box.other | with_reducible apply Box.alloc | with_reducible apply Box.drew | with_reducible apply Box.drewN | omega)); done)) ?_) | (with_reducible refine wpl_id ?_; refine wpl_loadW rfl _ rfl _ rfl (by ((repeat' (first | with_reducible exact Hid.out (by assumption) | with_reducible apply Box.set | with_reducible exact Box.new _ _ | with_reducible apply Box.other | with_reducible apply Box.alloc | with_reducible apply Box.drew | with_reducible apply Box.drewN | omega)); done)) ?_) | (go_at_call 11; refine (HDp.out _ HB.out).mono ?_; rintro e w1 ⟨rfl, hb1⟩; have HB1 := hide (HB.out.trans (hb1.mono HB.out.size)); clear hb1) | (go_at_call 10; refine (HL.out _).mono ?_; rintro e w2 ⟨rfl, hb2⟩; have HB2 := hide (HB1.out.trans (hb2.mono HB1.out.size)); clear hb2))
    go_ret
    exact ⟨rfl, HB2.out⟩
  · have HC' := hide (HC.out hd)
    have hde : decide (depthN k = 0) = false := by simpa using hd
    rw [hde] at HDp
    by_cases hf : formsE h k = 0
    · rw [hf] at HC'
      have HF := hide hf
      have HDN := hide hd
      clear hf HC hd hde
      by_cases hn : n = 0
      · have hn0 : ((n : Int) == 0) = true := by simp [hn]
        clear hn
        go_enter Tryd.func6, Tryd.ntmps6
        go_wp2_with (first | (with_reducible refine wpl_id ?_; refine wpl_load rfl _ rfl _ rfl (by ((repeat' (first | with_reducible exact Hid.out (by assumption) | with_reducible apply Box.set | with_reducible exact Box.new _ _ | with_reducible apply Box.other | with_reducible apply Box.alloc | with_reducible apply Box.drew | with_reducible apply Box.drewN | omega)); done)) ?_) | (with_reducible refine wpl_id ?_; refine wpl_loadW rfl _ rfl _ rfl (by ((repeat' (first | with_reducible exact Hid.out (by assumption) | with_reducible apply Box.set | with_reducible exact Box.new _ _ | with_reducible apply Box.other | with_reducible apply Box.alloc | with_reducible apply Box.drew | with_reducible apply Box.drewN | omega)); done)) ?_) | (go_at_call 11; refine (HDp.out _ HB.out).mono ?_; rintro e w1 ⟨rfl, hb1⟩; have HB1 := hide (HB.out.trans (hb1.mono HB.out.size)); have HX1 := hide (HX.out.below hb1); clear hb1) | (go_at_call 12; refine (HC'.out _ HB1.out).mono ?_; rintro e w2 ⟨rfl, hb2⟩; have HB2 := hide (HB1.out.trans (hb2.mono HB1.out.size)); have HX2 := hide (HX1.out.below hb2); have c15 : w2.cell? ⟨w.heap.size, 15, none⟩ = some (.slice a n cap) := (cell_of_row _ _ _ _ _ _ HX2.out).trans rfl; clear hb2) | (go_at_call 10; refine (HL.out _).mono ?_; rintro e w3 ⟨rfl, hb3⟩; have HB3 := hide (HB2.out.trans (hb3.mono HB2.out.size)); clear hb3))
        go_ret
        exact ⟨rfl, HB3.out⟩
      · obtain ⟨_, _, _, e1, e2, e3⟩ := HKV.out
        cases e1
        rcases e3 with rfl | ⟨b', o', rfl, g1, g2, hrow⟩
        · exact absurd e2 hn
        obtain ⟨i, hi, hI⟩ := idxL p n (by omega) (by omega)
        have hN := wrapN n (by omega)
        have hn0 : ((n : Int) == 0) = false := by simpa using hn
        obtain ⟨x, hx⟩ : ∃ x, (kidsL k)[i]? = some x := ⟨_, List.getElem?_eq_getElem (by rw [kidsL_len]; omega)⟩
        have hxm := List.mem_of_getElem? hx
        have hxr := kid_row k b' o' i x hx hrow
        obtain ⟨o1, o2, o3⟩ := kid_ok k x hxm HOK.out
        have o4 := (kid_deep k x hxm).2
        have hxf := kid_forms hxm HF.out
        have hmany : k.many + 1 ≤ 4096 := by
          have hd := HDN.out
          unfold depthN at hd
          by_cases hq : k.many + 1 ≤ 4096 ∧ k.deep + 1 ≤ 160
          · exact hq.1
          · rw [if_neg hq] at hd
            exact absurd rfl hd
        obtain ⟨xh, xk⟩ := x
        simp only at o1 o2 o3 o4 hxf
        obtain ⟨xD, ⟨_, xc, xa, xn, xcap, rfl, x1, x2⟩, _⟩ := hxr
        have hxk : Kv w D (.slice xa xn xcap) xk := ⟨xa, xn, xcap, rfl, x1, x2⟩
        have hbl := HDD.out _ xD
        have HCx : Hid (∀ W : World, Below w.heap.size w W → Calls Tryd.prog 12 #[.agg (hdC xh (.slice xa xn xcap)).toArray] W fun e w' => e = .returned (.int .i64 0) ∧ Below W.heap.size W w') := fun W hW => by
          have := formsCheck_any D xh xk xa xn xcap W (fun c hc => Nat.lt_of_lt_of_le (HDD.out c hc) hW.size) (kv_to hxk (fun b hb => ⟨hb, hW.block b (HDD.out b hb)⟩)) (by omega) o1 o2 o3
          rw [hxf] at this
          exact this
        have HXC : Hid (∀ W : World, Below w.heap.size w W → ∀ j, j < 16 → W.cell? ⟨b', o' + i * 16 + j, none⟩ = (hdC xh (.slice xa xn xcap))[j]?) := fun W hW j hj => (hW.cell (p := ⟨b', o' + i * 16 + j, none⟩) hbl).trans (xc j hj)
        clear hx hxm hxf hrow xD xc x1 x2 hxk o1 o2 o3 o4 hmany e2 HOK HF HDN HKV HDD
        go_enter Tryd.func6, Tryd.ntmps6
        go_wp2_with (first | (with_reducible refine wpl_id ?_; refine wpl_load rfl _ rfl _ rfl (by ((repeat' (first | with_reducible exact Hid.out (by assumption) | with_reducible apply Box.set | with_reducible exact Box.new _ _ | with_reducible apply Box.other | with_reducible apply Box.alloc | with_reducible apply Box.drew | with_reducible apply Box.drewN | omega)); done)) ?_) | (with_reducible refine wpl_id ?_; refine wpl_loadW rfl _ rfl _ rfl (by ((repeat' (first | with_reducible exact Hid.out (by assumption) | with_reducible apply Box.set | with_reducible exact Box.new _ _ | with_reducible apply Box.other | with_reducible apply Box.alloc | with_reducible apply Box.drew | with_reducible apply Box.drewN | omega)); done)) ?_) | (go_at_call 11; refine (HDp.out _ HB.out).mono ?_; rintro e w1 ⟨rfl, hb1⟩; have HB1 := hide (HB.out.trans (hb1.mono HB.out.size)); have HX1 := hide (HX.out.below hb1); clear hb1) | (go_at_call 12; refine (HC'.out _ HB1.out).mono ?_; rintro e w2 ⟨rfl, hb2⟩; have HB2 := hide (HB1.out.trans (hb2.mono HB1.out.size)); have HX2 := hide (HX1.out.below hb2); have c15 : w2.cell? ⟨w.heap.size, 15, none⟩ = some (.slice (some ⟨b', o', none⟩) n cap) := (cell_of_row _ _ _ _ _ _ HX2.out).trans rfl; clear hb2))
        have hS : ∀ W, Below w2.heap.size w2 W → Below w2.heap.size w2 W ∧ W.cell? ⟨w.heap.size, 15, none⟩ = some (.slice (some ⟨b', o', none⟩) n cap) ∧ W.cell? ⟨b', o' + i * 16, none⟩ = some (.int .i64 xh.kind) ∧ W.cell? ⟨b', o' + i * 16 + 1, none⟩ = some (.int .i64 xh.vk) ∧ W.cell? ⟨b', o' + i * 16 + 2, none⟩ = some (.int .i64 xh.vn) ∧ W.cell? ⟨b', o' + i * 16 + 3, none⟩ = some (.string ⟨xh.vs.toArray⟩) ∧ W.cell? ⟨b', o' + i * 16 + 4, none⟩ = some (.bool xh.vb) ∧ W.cell? ⟨b', o' + i * 16 + 5, none⟩ = some (.int .i64 xh.vc) ∧ W.cell? ⟨b', o' + i * 16 + 6, none⟩ = some (.int .i64 xh.row) ∧ W.cell? ⟨b', o' + i * 16 + 7, none⟩ = some (.int .i64 xh.col) ∧ W.cell? ⟨b', o' + i * 16 + 8, none⟩ = some (.bool xh.fr) ∧ W.cell? ⟨b', o' + i * 16 + 9, none⟩ = some (.bool xh.fc) ∧ W.cell? ⟨b', o' + i * 16 + 10, none⟩ = some (.int .i64 xh.row2) ∧ W.cell? ⟨b', o' + i * 16 + 11, none⟩ = some (.int .i64 xh.col2) ∧ W.cell? ⟨b', o' + i * 16 + 12, none⟩ = some (.bool xh.fr2) ∧ W.cell? ⟨b', o' + i * 16 + 13, none⟩ = some (.bool xh.fc2) ∧ W.cell? ⟨b', o' + i * 16 + 14, none⟩ = some (.string ⟨xh.txt.toArray⟩) ∧ W.cell? ⟨b', o' + i * 16 + 15, none⟩ = some (.slice xa xn xcap) := fun W hW => by
          have hx := HXC.out W (HB2.out.trans (hW.mono HB2.out.size))
          exact ⟨hW, (hW.cell (p := ⟨w.heap.size, 15, none⟩) HX2.out.lt).trans c15, hx 0 (by omega), hx 1 (by omega), hx 2 (by omega), hx 3 (by omega), hx 4 (by omega), hx 5 (by omega), hx 6 (by omega), hx 7 (by omega), hx 8 (by omega), hx 9 (by omega), hx 10 (by omega), hx 11 (by omega), hx 12 (by omega), hx 13 (by omega), hx 14 (by omega), hx 15 (by omega)⟩
        have HS := hide hS
        have hs0 := hS w2 (Below.refl _ _)
        clear hS c15
        go_region_held3 (fun w' => Below w2.heap.size w2 w' ∧ w'.cell? ⟨w.heap.size, 15, none⟩ = some (.slice (some ⟨b', o', none⟩) n cap) ∧ w'.cell? ⟨b', o' + i * 16, none⟩ = some (.int .i64 xh.kind) ∧ w'.cell? ⟨b', o' + i * 16 + 1, none⟩ = some (.int .i64 xh.vk) ∧ w'.cell? ⟨b', o' + i * 16 + 2, none⟩ = some (.int .i64 xh.vn) ∧ w'.cell? ⟨b', o' + i * 16 + 3, none⟩ = some (.string ⟨xh.vs.toArray⟩) ∧ w'.cell? ⟨b', o' + i * 16 + 4, none⟩ = some (.bool xh.vb) ∧ w'.cell? ⟨b', o' + i * 16 + 5, none⟩ = some (.int .i64 xh.vc) ∧ w'.cell? ⟨b', o' + i * 16 + 6, none⟩ = some (.int .i64 xh.row) ∧ w'.cell? ⟨b', o' + i * 16 + 7, none⟩ = some (.int .i64 xh.col) ∧ w'.cell? ⟨b', o' + i * 16 + 8, none⟩ = some (.bool xh.fr) ∧ w'.cell? ⟨b', o' + i * 16 + 9, none⟩ = some (.bool xh.fc) ∧ w'.cell? ⟨b', o' + i * 16 + 10, none⟩ = some (.int .i64 xh.row2) ∧ w'.cell? ⟨b', o' + i * 16 + 11, none⟩ = some (.int .i64 xh.col2) ∧ w'.cell? ⟨b', o' + i * 16 + 12, none⟩ = some (.bool xh.fr2) ∧ w'.cell? ⟨b', o' + i * 16 + 13, none⟩ = some (.bool xh.fc2) ∧ w'.cell? ⟨b', o' + i * 16 + 14, none⟩ = some (.string ⟨xh.txt.toArray⟩) ∧ w'.cell? ⟨b', o' + i * 16 + 15, none⟩ = some (.slice xa xn xcap)) (first | assumption | (refine HS.out _ ?_; first | exact (Below.refl _ _).drew | exact And.left (by assumption) | exact (Below.refl _ _))) (first | (go_at_call 12; refine (HCx.out _ HB2.out.drew).mono ?_; rintro e w3 ⟨rfl, hb3⟩; have hs3 := HS.out w3 ((Below.refl _ w2).drew.trans (hb3.mono (Nat.le_refl _))); have HB3 := hide hs3.1; clear hb3) | (go_at_call 10; refine (HL.out _).mono ?_; rintro e w4 ⟨rfl, hb4⟩; have hs4 := HS.out w4 (HB3.out.trans (hb4.mono HB3.out.size)); have HB4 := hide hs4.1; clear hb4))
        go_wp2
        go_ret
        exact ⟨rfl, HB2.out.trans (HB4.out.mono HB2.out.size)⟩
    · have e0 : (formsE h k != 0) = true := by simpa using hf
      generalize formsE h k = E at *
      clear hf HC hd hde
      go_enter Tryd.func6, Tryd.ntmps6
      go_wp2_with (first | (with_reducible refine wpl_id ?_; refine wpl_load rfl _ rfl _ rfl (by ((repeat' (first | with_reducible exact Hid.out (by assumption) | with_reducible apply Box.set | with_reducible exact Box.new _ _ | with_reducible apply Box.other | with_reducible apply Box.alloc | with_reducible apply Box.drew | with_reducible apply Box.drewN | omega)); done)) ?_) | (with_reducible refine wpl_id ?_; refine wpl_loadW rfl _ rfl _ rfl (by ((repeat' (first | with_reducible exact Hid.out (by assumption) | with_reducible apply Box.set | with_reducible exact Box.new _ _ | with_reducible apply Box.other | with_reducible apply Box.alloc | with_reducible apply Box.drew | with_reducible apply Box.drewN | omega)); done)) ?_) | (go_at_call 11; refine (HDp.out _ HB.out).mono ?_; rintro e w1 ⟨rfl, hb1⟩; have HB1 := hide (HB.out.trans (hb1.mono HB.out.size)); have HX1 := hide (HX.out.below hb1); clear hb1) | (go_at_call 12; refine (HC'.out _ HB1.out).mono ?_; rintro e w2 ⟨rfl, hb2⟩; have HB2 := hide (HB1.out.trans (hb2.mono HB1.out.size)); clear hb2) | (go_at_call 10; refine (HL.out _).mono ?_; rintro e w3 ⟨rfl, hb3⟩; have HB3 := hide (HB2.out.trans (hb3.mono HB2.out.size)); clear hb3))
      go_ret
      exact ⟨rfl, HB3.out⟩
end Go.Proofs.YtijjnchedgllgaaDoor
