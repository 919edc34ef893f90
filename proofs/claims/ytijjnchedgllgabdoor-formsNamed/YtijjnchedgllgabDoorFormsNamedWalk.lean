/-
  The walk of FormsNamed.
-/
import Derived.Test.YtijjnchedgllgabDoorFmPc
import Derived.Deep.MidRow
import Derived.Deep.RegionHeld3
namespace Go.Proofs.YtijjnchedgllgabDoor
open Go.RowKit Go.Shelf

theorem idxL (p : Int) (n : Nat) (hn : 0 < n) (hm : n ≤ maxLen) : ∃ i : Nat, i < n ∧ IntKind.i64.wrap ((IntKind.u64.wrap p).tmod (n : Int)) = (i : Int) := by
  have h1 : 0 ≤ IntKind.u64.wrap p := by rw [IntKind.wrap_u64]; omega
  have h2 : (IntKind.u64.wrap p) % (n : Int) < (n : Int) := Int.emod_lt_of_pos _ (by omega)
  have h3 : 0 ≤ (IntKind.u64.wrap p) % (n : Int) := Int.emod_nonneg _ (by omega)
  unfold maxLen at hm
  refine ⟨((IntKind.u64.wrap p) % (n : Int)).toNat, by omega, ?_⟩
  rw [Int.tmod_eq_emod_of_nonneg h1, IntKind.wrap_i64]
  omega
theorem wrapN (n : Nat) (hm : n ≤ maxLen) : IntKind.u64.wrap (n : Int) = (n : Int) := by
  unfold maxLen at hm
  rw [IntKind.wrap_u64]
  omega
set_option maxRecDepth 100000 in
set_option maxHeartbeats 8000000 in
theorem formsNamed_walk (D : Nat → Prop) (h : Hd) (k : Fo) (a : Option Addr) (n cap : Nat) (p : Int) (w : World) (hD : ∀ c, D c → c < w.heap.size) (hk : Kv w D (.slice a n cap) k) (hv : h.vs.length ≤ maxLen) (ht : h.txt.length ≤ maxLen) (ho : okF k) :
    Calls Tryd.prog 3 #[.agg (hdC h (.slice a n cap)).toArray, .int .i64 p] w fun e w' => e = .returned (.bool true) ∧ Below w.heap.size w w' := by
  have HDp : Hid (∀ W : World, Below w.heap.size w W → Calls Tryd.prog 4 #[.agg (hdC h (.slice a n cap)).toArray] W fun e w' => e = .returned (.bool (decide (depthN k = 0))) ∧ Below W.heap.size W w') := fun W hW => deep_any D h k a n cap W (fun c hc => Nat.lt_of_lt_of_le (hD c hc) hW.size) (kv_to hk (fun b hb => ⟨hb, hW.block b (hD b hb)⟩))
  have HMN : Hid (depthN k ≠ 0 → k.many + 1 ≤ 4096) := fun hd => by
    unfold depthN at hd
    by_cases hq : k.many + 1 ≤ 4096 ∧ k.deep + 1 ≤ 160
    · exact hq.1
    · rw [if_neg hq] at hd
      exact absurd rfl hd
  have HR0 : Hid (depthN k ≠ 0 → ∀ W : World, Below w.heap.size w W → Calls Tryd.prog 6 #[.agg (hdC h (.slice a n cap)).toArray] W fun e w' => ∃ v, e = .returned (.tuple #[v, .int .i64 (checkN h k)]) ∧ Rcs w' v (rectsN h k) ∧ Below W.heap.size W w') := fun hd W hW => by
    refine (rects_any D h k a n cap W (fun c hc => Nat.lt_of_lt_of_le (hD c hc) hW.size) (kv_to hk (fun b hb => ⟨hb, hW.block b (hD b hb)⟩)) (HMN.out hd) hv ht ho).mono ?_
    rintro e w' ⟨v, he, hown, hb⟩
    exact ⟨v, he, Rcs.of hown, hb⟩
  have HL : Hid (∀ W : World, Calls Tryd.prog 5 #[] W fun e w' => e = .returned (.bool true) ∧ Below W.heap.size W w') := fun W => lives9_any W
  have HX := hide (Box.new w (hdC h (.slice a n cap)))
  have HB := hide ((Below.refl _ w).alloc (Nat.le_refl _) (.cells (hdC h (.slice a n cap)).toArray 33))
  have HKV := hide hk
  have HDD := hide hD
  have HOK := hide ho
  clear hv ht ho hk hD
  by_cases hd : depthN k = 0
  · rw [hd] at HDp
    simp only [decide_true] at HDp
    clear HR0 hd
    go_enter Tryd.func3, Tryd.ntmps3
    go_wp2_with (first | (with_reducible refine wpl_id ?_; refine wpl_load rfl _ rfl _ rfl (by ((repeat' (first | with_reducible exact Hid.out (by assumption) | with_reducible apply Box.set | with_reducible exact Box.new _ _ | with_reducible apply Box.other | with_reducible apply Box.alloc | with_reducible apply Box.drew | with_reducible apply Box.drewN | omega)); done)) ?_) | (go_at_call 4; refine (HDp.out _ HB.out).mono ?_; rintro e w1 ⟨rfl, hb1⟩; have HB1 := hide (HB.out.trans (hb1.mono HB.out.size)); have HX1 := hide (HX.out.below hb1); clear hb1) | (go_at_call 5; refine (HL.out _).mono ?_; rintro e w3 ⟨rfl, hb3⟩; have HB3 := hide (HB1.out.trans (hb3.mono HB1.out.size)); clear hb3))
    go_ret
    exact ⟨rfl, HB3.out⟩
  · have HR := hide (HR0.out hd)
    have HM := hide (HMN.out hd)
    have hde : decide (depthN k = 0) = false := by simpa using hd
    rw [hde] at HDp
    clear HR0 HMN hd hde
    by_cases hf : checkN h k = 0
    · rw [hf] at HR
      have HF := hide hf
      clear hf
      have hLn : (rectsN h k).length ≤ 4096 := Nat.le_trans (rectsN_len h k) HM.out
      go_enter Tryd.func3, Tryd.ntmps3
      go_wp2_with (first | (with_reducible refine wpl_id ?_; refine wpl_load rfl _ rfl _ rfl (by ((repeat' (first | with_reducible exact Hid.out (by assumption) | with_reducible apply Box.set | with_reducible exact Box.new _ _ | with_reducible apply Box.other | with_reducible apply Box.alloc | with_reducible apply Box.drew | with_reducible apply Box.drewN | omega)); done)) ?_) | (go_at_call 4; refine (HDp.out _ HB.out).mono ?_; rintro e w1 ⟨rfl, hb1⟩; have HB1 := hide (HB.out.trans (hb1.mono HB.out.size)); have HX1 := hide (HX.out.below hb1); clear hb1) | (go_at_call 6; refine (HR.out _ HB1.out).mono ?_; rintro e w2 ⟨v2, rfl, hq2, hb2⟩; obtain ⟨pL, capL, rfl, hcL⟩ := hq2; have HB2 := hide (HB1.out.trans (hb2.mono HB1.out.size)); have HX2 := hide (HX1.out.below hb2); have HCL := hide hcL; clear hb2 hcL))
      have HND := hide (rectsN_nodup h k)
      have HRT := hide (rectsN_right h k)
      have HKR : Hid (∀ x ∈ kidsL k, ∀ s ∈ rectsN x.1 x.2, s ∈ rectsN h k) := fun x hx => kid_rects hx HF.out
      generalize rectsN h k = L at *
      go_loopw [7] (fun iv wr => ∃ i : Nat, iv = .int .i64 i ∧ i ≤ L.length ∧ i ≤ 60 ∧ Below w2.heap.size w2 wr) (fun iv _ => 61 - (intOf iv).toNat)
      case atStart => exact ⟨0, rfl, Nat.zero_le _, by omega, Below.refl _ _⟩
      case round =>
        obtain ⟨i, rfl, hi, hi6, hB⟩ := hrel
        by_cases hlt : i < L.length ∧ i < 60
        · have g1 : (i : Int) < L.length := by omega
          have g2 : (i : Int) < 60 := by omega
          obtain ⟨ri, hri⟩ : ∃ ri, L[i]? = some ri := ⟨_, List.getElem?_eq_getElem hlt.1⟩
          rcases HCL.out with rfl | ⟨g, rfl, hg⟩
          · exact absurd hlt.1 (by simp)
          have HG := hide hg
          have HPC : Hid (∀ W : World, Calls Tryd.prog 7 #[.agg #[.int .i64 ri.1, .int .i64 ri.2.1, .int .i64 ri.2.2.1, .int .i64 ri.2.2.2]] W fun e w' => e = .returned (.int .i64 0) ∧ Below W.heap.size W w') := fun W => pcheck_right ri (HRT.out ri (List.mem_of_getElem? hri)) W
          clear hg
          obtain ⟨wo, rfl⟩ : ∃ wo : World, wo = wr := ⟨_, rfl⟩
          go_wp2
          go_loopw [8] (fun jv wr => ∃ j : Nat, jv = .int .i64 j ∧ j ≤ i ∧ Below w2.heap.size w2 wr) (fun jv _ => i - (intOf jv).toNat)
          case atStart => exact ⟨0, rfl, Nat.zero_le _, hB⟩
          case round =>
            obtain ⟨j, rfl, hj, hB'⟩ := hrel
            by_cases hji : j < i
            · have g3 : (j : Int) < i := by omega
              have g4 : (j : Int) < L.length := by omega
              obtain ⟨rj, hrj⟩ : ∃ rj, L[j]? = some rj := ⟨_, List.getElem?_eq_getElem (by omega)⟩
              have hne : ri ≠ rj := fun e => by
                have := (List.getElem?_inj hlt.1 HND.out).1 (by rw [hri, hrj, e] : L[i]? = L[j]?)
                omega
              have HS : Hid (∀ W, Below w2.heap.size w2 W → Below w2.heap.size w2 W ∧ W.cell? ⟨g, i * 4, none⟩ = some (.int .i64 ri.1) ∧ W.cell? ⟨g, i * 4 + 1, none⟩ = some (.int .i64 ri.2.1) ∧ W.cell? ⟨g, i * 4 + 2, none⟩ = some (.int .i64 ri.2.2.1) ∧ W.cell? ⟨g, i * 4 + 3, none⟩ = some (.int .i64 ri.2.2.2) ∧ W.cell? ⟨g, j * 4, none⟩ = some (.int .i64 rj.1) ∧ W.cell? ⟨g, j * 4 + 1, none⟩ = some (.int .i64 rj.2.1) ∧ W.cell? ⟨g, j * 4 + 2, none⟩ = some (.int .i64 rj.2.2.1) ∧ W.cell? ⟨g, j * 4 + 3, none⟩ = some (.int .i64 rj.2.2.2)) := fun W hW => by
                obtain ⟨a1, a2, a3, a4⟩ := HG.out W hW i ri hri
                obtain ⟨b1, b2, b3, b4⟩ := HG.out W hW j rj hrj
                exact ⟨hW, a1, a2, a3, a4, b1, b2, b3, b4⟩
              have hs0 := HS.out wr hB'
              have HBj := hide hB'
              clear hB'
              obtain ⟨x1, x2, x3, x4⟩ := ri
              obtain ⟨y1, y2, y3, y4⟩ := rj
              simp only at HS hs0 HPC
              have key : (x1 == y1) = false ∨ ((x1 == y1) = true ∧ (x2 == y2) = false) ∨ ((x1 == y1) = true ∧ (x2 == y2) = true ∧ (x3 == y3) = false) ∨ ((x1 == y1) = true ∧ (x2 == y2) = true ∧ (x3 == y3) = true ∧ (x4 == y4) = false) := by
                by_cases c1 : x1 = y1
                · by_cases c2 : x2 = y2
                  · by_cases c3 : x3 = y3
                    · by_cases c4 : x4 = y4
                      · exact absurd (by rw [c1, c2, c3, c4]) hne
                      · exact .inr (.inr (.inr ⟨by simpa using c1, by simpa using c2, by simpa using c3, by simpa using c4⟩))
                    · exact .inr (.inr (.inl ⟨by simpa using c1, by simpa using c2, by simpa using c3⟩))
                  · exact .inr (.inl ⟨by simpa using c1, by simpa using c2⟩)
                · exact .inl (by simpa using c1)
              clear hne hri hrj
              rcases key with z1 | ⟨z1, z2⟩ | ⟨z1, z2, z3⟩ | ⟨z1, z2, z3, z4⟩
              all_goals
                go_wp2
                go_region_held3 (fun W => Below w2.heap.size w2 W ∧ W.cell? ⟨g, i * 4, none⟩ = some (.int .i64 x1) ∧ W.cell? ⟨g, i * 4 + 1, none⟩ = some (.int .i64 x2) ∧ W.cell? ⟨g, i * 4 + 2, none⟩ = some (.int .i64 x3) ∧ W.cell? ⟨g, i * 4 + 3, none⟩ = some (.int .i64 x4) ∧ W.cell? ⟨g, j * 4, none⟩ = some (.int .i64 y1) ∧ W.cell? ⟨g, j * 4 + 1, none⟩ = some (.int .i64 y2) ∧ W.cell? ⟨g, j * 4 + 2, none⟩ = some (.int .i64 y3) ∧ W.cell? ⟨g, j * 4 + 3, none⟩ = some (.int .i64 y4)) (first | assumption | (refine HS.out _ ?_; exact HBj.out.drew)) (fail)
                go_wp2
                go_roundw
                case rel => exact ⟨j + 1, by go_num, by omega, HBj.out.drew⟩
                case measure => simp [intOf]; omega
            · have g3 : ¬ (j : Int) < i := by omega
              obtain ⟨a1, a2, a3, a4⟩ := HG.out wr hB' i ri hri
              have HBj := hide hB'
              clear hB'
              go_wp2_with (go_at_call 7; refine (HPC.out _).mono ?_; rintro e w3 ⟨rfl, hb3⟩; have HB4 := hide (HBj.out.trans (hb3.mono HBj.out.size)); clear hb3)
              go_roundw
              case rel => exact ⟨i + 1, by go_num, by omega, by omega, HB4.out⟩
              case measure => simp [intOf]; omega
        · have hcond : (¬ (i : Int) < L.length) ∨ ((i : Int) < L.length ∧ ¬ (i : Int) < 60) := by omega
          have HBi := hide hB
          clear hlt hi hi6 hB
          by_cases hn : n = 0
          · have hn0 : ((n : Int) == 0) = true := by simp [hn]
            have c15 : wr.cell? ⟨w.heap.size, 15, none⟩ = some (.slice a n cap) := (HBi.out.cell (p := ⟨w.heap.size, 15, none⟩) HX2.out.lt).trans ((cell_of_row _ _ _ _ _ _ HX2.out).trans rfl)
            clear hn
            rcases hcond with q1 | ⟨q1, q2⟩
            all_goals
              go_wp2_with (go_at_call 5; refine (HL.out _).mono ?_; rintro e w3 ⟨rfl, hb3⟩; have HB3 := hide (HBi.out.trans (hb3.mono HBi.out.size)); clear hb3)
              go_ret
              exact ⟨rfl, HB2.out.trans (HB3.out.mono HB2.out.size)⟩
          · obtain ⟨_, _, _, e1, e2, e3⟩ := HKV.out
            cases e1
            rcases e3 with rfl | ⟨b', o', rfl, g1, g2, hrow⟩
            · exact absurd e2 hn
            obtain ⟨ii, hii, hI⟩ := idxL p n (by omega) (by omega)
            have hN := wrapN n (by omega)
            have hn0 : ((n : Int) == 0) = false := by simpa using hn
            obtain ⟨x, hx⟩ : ∃ x, (kidsL k)[ii]? = some x := ⟨_, List.getElem?_eq_getElem (by rw [kidsL_len]; omega)⟩
            have hxm := List.mem_of_getElem? hx
            have hxr := kid_row k b' o' ii x hx hrow
            obtain ⟨o1, o2, o3⟩ := kid_ok k x hxm HOK.out
            have o4 := (kid_deep k x hxm).2
            have hxc := kid_check hxm HF.out
            have hsub := HKR.out x hxm
            obtain ⟨xh, xk⟩ := x
            simp only at o1 o2 o3 o4 hxc hsub
            have hm := HM.out
            have hMn := rectsN_len xh xk
            obtain ⟨xD, ⟨_, xc, xa, xn, xcap, rfl, x1, x2⟩, _⟩ := hxr
            have hxk : Kv w D (.slice xa xn xcap) xk := ⟨xa, xn, xcap, rfl, x1, x2⟩
            have hbl := HDD.out _ xD
            have HRx : Hid (∀ W : World, Below w.heap.size w W → Calls Tryd.prog 6 #[.agg (hdC xh (.slice xa xn xcap)).toArray] W fun e w' => ∃ v, e = .returned (.tuple #[v, .int .i64 0]) ∧ Rcs w' v (rectsN xh xk) ∧ Below W.heap.size W w') := fun W hW => by
              refine (rects_any D xh xk xa xn xcap W (fun c hc => Nat.lt_of_lt_of_le (HDD.out c hc) hW.size) (kv_to hxk (fun b hb => ⟨hb, hW.block b (HDD.out b hb)⟩)) (by omega) o1 o2 o3).mono ?_
              rintro e w' ⟨v, he, hown, hb⟩
              rw [hxc] at he
              exact ⟨v, he, Rcs.of hown, hb⟩
            generalize rectsN xh xk = M at *
            have hM4 : M.length ≤ 4096 := by omega
            have hS : ∀ W, Below w2.heap.size w2 W → Below w2.heap.size w2 W ∧ W.cell? ⟨w.heap.size, 15, none⟩ = some (.slice (some ⟨b', o', none⟩) n cap) ∧ W.cell? ⟨b', o' + ii * 16, none⟩ = some (.int .i64 xh.kind) ∧ W.cell? ⟨b', o' + ii * 16 + 1, none⟩ = some (.int .i64 xh.vk) ∧ W.cell? ⟨b', o' + ii * 16 + 2, none⟩ = some (.int .i64 xh.vn) ∧ W.cell? ⟨b', o' + ii * 16 + 3, none⟩ = some (.string ⟨xh.vs.toArray⟩) ∧ W.cell? ⟨b', o' + ii * 16 + 4, none⟩ = some (.bool xh.vb) ∧ W.cell? ⟨b', o' + ii * 16 + 5, none⟩ = some (.int .i64 xh.vc) ∧ W.cell? ⟨b', o' + ii * 16 + 6, none⟩ = some (.int .i64 xh.row) ∧ W.cell? ⟨b', o' + ii * 16 + 7, none⟩ = some (.int .i64 xh.col) ∧ W.cell? ⟨b', o' + ii * 16 + 8, none⟩ = some (.bool xh.fr) ∧ W.cell? ⟨b', o' + ii * 16 + 9, none⟩ = some (.bool xh.fc) ∧ W.cell? ⟨b', o' + ii * 16 + 10, none⟩ = some (.int .i64 xh.row2) ∧ W.cell? ⟨b', o' + ii * 16 + 11, none⟩ = some (.int .i64 xh.col2) ∧ W.cell? ⟨b', o' + ii * 16 + 12, none⟩ = some (.bool xh.fr2) ∧ W.cell? ⟨b', o' + ii * 16 + 13, none⟩ = some (.bool xh.fc2) ∧ W.cell? ⟨b', o' + ii * 16 + 14, none⟩ = some (.string ⟨xh.txt.toArray⟩) ∧ W.cell? ⟨b', o' + ii * 16 + 15, none⟩ = some (.slice xa xn xcap) := fun W hW => by
              have hx := fun j hj => ((HB2.out.trans (hW.mono HB2.out.size)).cell (p := ⟨b', o' + ii * 16 + j, none⟩) hbl).trans (xc j hj)
              exact ⟨hW, (hW.cell (p := ⟨w.heap.size, 15, none⟩) HX2.out.lt).trans ((cell_of_row _ _ _ _ _ _ HX2.out).trans rfl), hx 0 (by omega), hx 1 (by omega), hx 2 (by omega), hx 3 (by omega), hx 4 (by omega), hx 5 (by omega), hx 6 (by omega), hx 7 (by omega), hx 8 (by omega), hx 9 (by omega), hx 10 (by omega), hx 11 (by omega), hx 12 (by omega), hx 13 (by omega), hx 14 (by omega), hx 15 (by omega)⟩
            have HS := hide hS
            have c15 := (hS wr HBi.out).2.1
            have hs0 := hS wr HBi.out
            have HSUB := hide hsub
            clear hS hx hxm hrow xD xc x1 x2 hxk o1 o2 o3 o4 hxc e2 hm hsub HOK HF HKR
            rcases hcond with q1 | ⟨q1, q2⟩
            all_goals
              go_wp2
              go_region_held3 (fun w' => Below w2.heap.size w2 w' ∧ w'.cell? ⟨w.heap.size, 15, none⟩ = some (.slice (some ⟨b', o', none⟩) n cap) ∧ w'.cell? ⟨b', o' + ii * 16, none⟩ = some (.int .i64 xh.kind) ∧ w'.cell? ⟨b', o' + ii * 16 + 1, none⟩ = some (.int .i64 xh.vk) ∧ w'.cell? ⟨b', o' + ii * 16 + 2, none⟩ = some (.int .i64 xh.vn) ∧ w'.cell? ⟨b', o' + ii * 16 + 3, none⟩ = some (.string ⟨xh.vs.toArray⟩) ∧ w'.cell? ⟨b', o' + ii * 16 + 4, none⟩ = some (.bool xh.vb) ∧ w'.cell? ⟨b', o' + ii * 16 + 5, none⟩ = some (.int .i64 xh.vc) ∧ w'.cell? ⟨b', o' + ii * 16 + 6, none⟩ = some (.int .i64 xh.row) ∧ w'.cell? ⟨b', o' + ii * 16 + 7, none⟩ = some (.int .i64 xh.col) ∧ w'.cell? ⟨b', o' + ii * 16 + 8, none⟩ = some (.bool xh.fr) ∧ w'.cell? ⟨b', o' + ii * 16 + 9, none⟩ = some (.bool xh.fc) ∧ w'.cell? ⟨b', o' + ii * 16 + 10, none⟩ = some (.int .i64 xh.row2) ∧ w'.cell? ⟨b', o' + ii * 16 + 11, none⟩ = some (.int .i64 xh.col2) ∧ w'.cell? ⟨b', o' + ii * 16 + 12, none⟩ = some (.bool xh.fr2) ∧ w'.cell? ⟨b', o' + ii * 16 + 13, none⟩ = some (.bool xh.fc2) ∧ w'.cell? ⟨b', o' + ii * 16 + 14, none⟩ = some (.string ⟨xh.txt.toArray⟩) ∧ w'.cell? ⟨b', o' + ii * 16 + 15, none⟩ = some (.slice xa xn xcap)) (first | assumption | (refine HS.out _ ?_; first | exact HBi.out.drew | exact And.left (by assumption))) (first | (go_at_call 6; refine (HRx.out _ (HB2.out.trans (HBi.out.drew.mono HB2.out.size))).mono ?_; rintro e w3 ⟨v3, rfl, hq3, hb3⟩; obtain ⟨pM, capM, rfl, hcM⟩ := hq3; have hs3 := HS.out w3 (HBi.out.drew.trans (hb3.mono HBi.out.drew.size)); have HB3 := hide hs3.1; have HCM := hide hcM; clear hb3 hcM))
              go_wp2
              obtain ⟨wq, rfl⟩ : ∃ wq : World, wq = wr := ⟨_, rfl⟩
              go_loopw [11] (fun iv wr => ∃ i : Nat, iv = .int .i64 i ∧ i ≤ M.length ∧ Below w3.heap.size w3 wr) (fun iv _ => M.length - (intOf iv).toNat)
              case atStart => exact ⟨0, rfl, Nat.zero_le _, Below.refl _ _⟩
              case round =>
                obtain ⟨i3, rfl, hi3, hB5⟩ := hrel
                by_cases h3 : i3 < M.length
                · have g5 : (i3 : Int) < M.length := by omega
                  obtain ⟨mi, hmi⟩ : ∃ mi, M[i3]? = some mi := ⟨_, List.getElem?_eq_getElem h3⟩
                  have hmL : mi ∈ L := HSUB.out mi (List.mem_of_getElem? hmi)
                  rcases HCM.out with rfl | ⟨g', rfl, hg'⟩
                  · exact absurd h3 (by simp)
                  rcases HCL.out with rfl | ⟨g, rfl, hg⟩
                  · cases hmL
                  have HG := hide hg
                  have HG' := hide hg'
                  have HML := hide hmL
                  clear hg hg' hmL
                  obtain ⟨wp, rfl⟩ : ∃ wp : World, wp = wr := ⟨_, rfl⟩
                  go_wp2
                  go_loopw [12, 13] (fun bv jv wr => ∃ j : Nat, jv = .int .i64 j ∧ j ≤ L.length ∧ bv = .bool (decide (mi ∈ L.take j)) ∧ Below w3.heap.size w3 wr) (fun _ jv _ => L.length - (intOf jv).toNat)
                  case atStart => exact ⟨0, rfl, Nat.zero_le _, by simp, hB5⟩
                  case round =>
                    obtain ⟨j, rfl, hj, hbv, hB6⟩ := hrel
                    by_cases hjL : j < L.length
                    · have g6 : (j : Int) < L.length := by omega
                      obtain ⟨rj, hrj⟩ : ∃ rj, L[j]? = some rj := ⟨_, List.getElem?_eq_getElem hjL⟩
                      have htk : decide (mi ∈ L.take (j + 1)) = (decide (mi ∈ L.take j) || decide (rj = mi)) := by
                        rw [List.take_add_one, hrj]
                        simp [eq_comm]
                      have HS0 := hide (HG.out wr (HB3.out.trans (hB6.mono HB3.out.size)) j rj hrj)
                      obtain ⟨x1, x2, x3, x4⟩ := rj
                      obtain ⟨y1, y2, y3, y4⟩ := mi
                      have HS5 : Hid (∀ W, Below w3.heap.size w3 W → Below w3.heap.size w3 W ∧ W.cell? ⟨g, j * 4, none⟩ = some (.int .i64 x1) ∧ W.cell? ⟨g, j * 4 + 1, none⟩ = some (.int .i64 x2) ∧ W.cell? ⟨g, j * 4 + 2, none⟩ = some (.int .i64 x3) ∧ W.cell? ⟨g, j * 4 + 3, none⟩ = some (.int .i64 x4) ∧ W.cell? ⟨g', i3 * 4, none⟩ = some (.int .i64 y1) ∧ W.cell? ⟨g', i3 * 4 + 1, none⟩ = some (.int .i64 y2) ∧ W.cell? ⟨g', i3 * 4 + 2, none⟩ = some (.int .i64 y3) ∧ W.cell? ⟨g', i3 * 4 + 3, none⟩ = some (.int .i64 y4)) := fun W hW => by
                        obtain ⟨a1, a2, a3, a4⟩ := HG.out W (HB3.out.trans (hW.mono HB3.out.size)) j _ hrj
                        obtain ⟨b1, b2, b3, b4⟩ := HG'.out W hW i3 _ hmi
                        exact ⟨hW, a1, a2, a3, a4, b1, b2, b3, b4⟩
                      have hs5 := HS5.out wr hB6
                      have HB6 := hide hB6
                      obtain ⟨bt, hbt⟩ : ∃ bt, decide ((y1, y2, y3, y4) ∈ L.take j) = bt := ⟨_, rfl⟩
                      rw [hbt] at hbv htk
                      subst hbv
                      clear hbt hB6 hrj HS0
                      cases bt
                      · have key : ((x1 == y1) = false ∧ decide ((x1, x2, x3, x4) = (y1, y2, y3, y4)) = false) ∨ ((x1 == y1) = true ∧ (x2 == y2) = false ∧ decide ((x1, x2, x3, x4) = (y1, y2, y3, y4)) = false) ∨ ((x1 == y1) = true ∧ (x2 == y2) = true ∧ (x3 == y3) = false ∧ decide ((x1, x2, x3, x4) = (y1, y2, y3, y4)) = false) ∨ ((x1 == y1) = true ∧ (x2 == y2) = true ∧ (x3 == y3) = true ∧ (x4 == y4) = false ∧ decide ((x1, x2, x3, x4) = (y1, y2, y3, y4)) = false) ∨ ((x1 == y1) = true ∧ (x2 == y2) = true ∧ (x3 == y3) = true ∧ (x4 == y4) = true ∧ decide ((x1, x2, x3, x4) = (y1, y2, y3, y4)) = true) := by
                          by_cases c1 : x1 = y1 <;> by_cases c2 : x2 = y2 <;> by_cases c3 : x3 = y3 <;> by_cases c4 : x4 = y4 <;> simp [c1, c2, c3, c4]
                        simp only [Bool.false_or] at htk
                        rcases key with ⟨z1, z5⟩ | ⟨z1, z2, z5⟩ | ⟨z1, z2, z3, z5⟩ | ⟨z1, z2, z3, z4, z5⟩ | ⟨z1, z2, z3, z4, z5⟩
                        all_goals
                          have HTK := hide (htk.trans z5)
                          clear htk z5
                          go_wp2
                          go_region_held3 (fun W => Below w3.heap.size w3 W ∧ W.cell? ⟨g, j * 4, none⟩ = some (.int .i64 x1) ∧ W.cell? ⟨g, j * 4 + 1, none⟩ = some (.int .i64 x2) ∧ W.cell? ⟨g, j * 4 + 2, none⟩ = some (.int .i64 x3) ∧ W.cell? ⟨g, j * 4 + 3, none⟩ = some (.int .i64 x4) ∧ W.cell? ⟨g', i3 * 4, none⟩ = some (.int .i64 y1) ∧ W.cell? ⟨g', i3 * 4 + 1, none⟩ = some (.int .i64 y2) ∧ W.cell? ⟨g', i3 * 4 + 2, none⟩ = some (.int .i64 y3) ∧ W.cell? ⟨g', i3 * 4 + 3, none⟩ = some (.int .i64 y4)) (first | assumption | (refine HS5.out _ ?_; exact HB6.out.drew)) (fail)
                          go_wp2
                          go_roundw
                          case rel => exact ⟨j + 1, by go_num, by omega, by rw [HTK.out], HB6.out.drew⟩
                          case measure => simp [intOf]; omega
                      · simp only [Bool.true_or] at htk
                        have HTK := hide htk
                        clear htk
                        go_wp2
                        refine wp_region_held_drew (S := fun W => Below w3.heap.size w3 W) (by kernel_rfl) ?_ (fun hHeld => ?_)
                        · exact HB6.out.drew
                        (refine takeD (i := 0) (some 93) rfl rfl (by kernel_rfl) (by kernel_rfl) (by kernel_rfl) (fun _ _ _ h => h) (v := ?_) rfl ?_ (by assumption) ?_; rotate_left; (focus (intro w hSw; (try dsimp only at hSw); first | (go_simp; done) | (go_simp; with_reducible rfl))); try simp only [Act.put, List.setIfInBounds_toArray, List.set_cons_zero, List.set_cons_succ]); (refine takeD (i := 1) (some 94) rfl rfl (by kernel_rfl) (by kernel_rfl) (by kernel_rfl) (fun _ _ _ h => h) (v := ?_) rfl ?_ (by assumption) ?_; rotate_left; (focus (intro w hSw; (try dsimp only at hSw); first | (go_simp; done) | (go_simp; with_reducible rfl))); try simp only [Act.put, List.setIfInBounds_toArray, List.set_cons_zero, List.set_cons_succ]); (refine skipD (i := 2) (some 95) rfl rfl (by kernel_rfl) (by kernel_rfl) (by kernel_rfl) (fun _ _ _ h => h) rfl (by assumption) ?_; try simp only [Act.put, List.setIfInBounds_toArray, List.set_cons_zero, List.set_cons_succ]); (refine skipD (i := 3) (some 96) rfl rfl (by kernel_rfl) (by kernel_rfl) (by kernel_rfl) (fun _ _ _ h => h) rfl (by assumption) ?_; try simp only [Act.put, List.setIfInBounds_toArray, List.set_cons_zero, List.set_cons_succ]); (refine skipD (i := 4) (some 97) rfl rfl (by kernel_rfl) (by kernel_rfl) (by kernel_rfl) (fun _ _ _ h => h) rfl (by assumption) ?_; try simp only [Act.put, List.setIfInBounds_toArray, List.set_cons_zero, List.set_cons_succ]); (refine skipD (i := 5) (some 98) rfl rfl (by kernel_rfl) (by kernel_rfl) (by kernel_rfl) (fun _ _ _ h => h) rfl (by assumption) ?_; try simp only [Act.put, List.setIfInBounds_toArray, List.set_cons_zero, List.set_cons_succ]); (refine skipD (i := 6) (some 99) rfl rfl (by kernel_rfl) (by kernel_rfl) (by kernel_rfl) (fun _ _ _ h => h) rfl (by assumption) ?_; try simp only [Act.put, List.setIfInBounds_toArray, List.set_cons_zero, List.set_cons_succ]); (refine skipD (i := 7) (some 100) rfl rfl (by kernel_rfl) (by kernel_rfl) (by kernel_rfl) (fun _ _ _ h => h) rfl (by assumption) ?_; try simp only [Act.put, List.setIfInBounds_toArray, List.set_cons_zero, List.set_cons_succ]); (refine skipD (i := 8) (some 101) rfl rfl (by kernel_rfl) (by kernel_rfl) (by kernel_rfl) (fun _ _ _ h => h) rfl (by assumption) ?_; try simp only [Act.put, List.setIfInBounds_toArray, List.set_cons_zero, List.set_cons_succ]); (refine skipD (i := 9) (some 102) rfl rfl (by kernel_rfl) (by kernel_rfl) (by kernel_rfl) (fun _ _ _ h => h) rfl (by assumption) ?_; try simp only [Act.put, List.setIfInBounds_toArray, List.set_cons_zero, List.set_cons_succ]); (refine skipD (i := 10) (some 103) rfl rfl (by kernel_rfl) (by kernel_rfl) (by kernel_rfl) (fun _ _ _ h => h) rfl (by assumption) ?_; try simp only [Act.put, List.setIfInBounds_toArray, List.set_cons_zero, List.set_cons_succ]); (refine takeD (i := 11) (some 104) rfl rfl (by kernel_rfl) (by kernel_rfl) (by kernel_rfl) (fun _ _ _ h => h) (v := ?_) rfl ?_ (by assumption) ?_; rotate_left; (focus (intro w hSw; (try dsimp only at hSw); first | (go_simp; done) | (go_simp; with_reducible rfl))); try simp only [Act.put, List.setIfInBounds_toArray, List.set_cons_zero, List.set_cons_succ]); (refine takeD (i := 12) (some 12) rfl rfl (by kernel_rfl) (by kernel_rfl) (by kernel_rfl) (fun _ _ _ h => h) (v := ?_) rfl ?_ (by assumption) ?_; rotate_left; (focus (intro w hSw; (try dsimp only at hSw); first | (go_simp; done) | (go_simp; with_reducible rfl))); try simp only [Act.put, List.setIfInBounds_toArray, List.set_cons_zero, List.set_cons_succ]); refine wpAnyH_done (by kernel_rfl) ?_ _
                        go_wp2
                        go_roundw
                        case rel => exact ⟨j + 1, by go_num, by omega, by rw [HTK.out], HB6.out.drew⟩
                        case measure => simp [intOf]; omega
                    · have g6 : ¬ (j : Int) < L.length := by omega
                      obtain rfl : j = L.length := by omega
                      rw [List.take_length, decide_eq_true HML.out] at hbv
                      subst hbv
                      go_wp2
                      go_roundw
                      case rel => exact ⟨i3 + 1, by go_num, by omega, hB6⟩
                      case measure => simp [intOf]; omega
                · have g5 : ¬ (i3 : Int) < M.length := by omega
                  have HB5 := hide hB5
                  clear hB5
                  go_wp2_with (go_at_call 5; refine (HL.out _).mono ?_; rintro e w5 ⟨rfl, hb5⟩; have HB9 := hide (HB5.out.trans (hb5.mono HB5.out.size)); clear hb5)
                  go_ret
                  have b3 := HB2.out.trans (HB3.out.mono HB2.out.size)
                  exact ⟨rfl, b3.trans (HB9.out.mono b3.size)⟩
    · have e0 : (checkN h k != 0) = true := by simpa using hf
      rw [show rectsN h k = [] by unfold rectsN; rw [if_neg hf]] at HR
      generalize checkN h k = E at *
      clear hf
      go_enter Tryd.func3, Tryd.ntmps3
      go_wp2_with (first | (with_reducible refine wpl_id ?_; refine wpl_load rfl _ rfl _ rfl (by ((repeat' (first | with_reducible exact Hid.out (by assumption) | with_reducible apply Box.set | with_reducible exact Box.new _ _ | with_reducible apply Box.other | with_reducible apply Box.alloc | with_reducible apply Box.drew | with_reducible apply Box.drewN | omega)); done)) ?_) | (go_at_call 4; refine (HDp.out _ HB.out).mono ?_; rintro e w1 ⟨rfl, hb1⟩; have HB1 := hide (HB.out.trans (hb1.mono HB.out.size)); have HX1 := hide (HX.out.below hb1); clear hb1) | (go_at_call 6; refine (HR.out _ HB1.out).mono ?_; rintro e w2 ⟨v2, rfl, hq2, hb2⟩; obtain ⟨pL, capL, rfl, hcL⟩ := hq2; have HB2 := hide (HB1.out.trans (hb2.mono HB1.out.size)); have HX2 := hide (HX1.out.below hb2); have HCL := hide hcL; clear hb2 hcL) | (go_at_call 5; refine (HL.out _).mono ?_; rintro e w3 ⟨rfl, hb3⟩; have HB3 := hide (HB2.out.trans (hb3.mono HB2.out.size)); clear hb3))
      go_ret
      exact ⟨rfl, HB3.out⟩
end Go.Proofs.YtijjnchedgllgabDoor
