/-
  The contract of crit's match: what a walk with one place to come back to tells.
-/
import Derived.Test.YthooimaadgabiabDoorCr0
import Derived.Test.YthooimaadgabiabDoorKNum
import Derived.Deep.LoopGhost
import Derived.Deep.RegionHeld3
import Derived.Lib.TrimByte
namespace Go.Proofs.YthooimaadgabiabDoor
open Go.RowKit
set_option linter.unusedSimpArgs false

theorem takes_any (p : Stp) (b : UInt8) (w : World) :
    Calls Tryd.prog 59 #[.agg #[.int .u8 (p.k : Int), .int .u8 (p.o.toNat : Int)], .int .u8 (b.toNat : Int)] w fun e w' => e = .returned (.bool (takesB p b)) ∧ Below w.heap.size w w' := by
  unfold takesB
  have hk : (p.k == 1) = decide ((p.k : Int) = 1) := by
    by_cases h : p.k = 1
    · rw [h]; rfl
    · rw [decide_eq_false (by omega)]; simp [h]
  have ho : (p.o == b) = decide ((p.o.toNat : Int) = (b.toNat : Int)) := by
    by_cases h : p.o = b
    · subst h; simp
    · have : p.o.toNat ≠ b.toNat := fun e => h (UInt8.toNat_inj.1 e)
      rw [decide_eq_false (by omega)]; simp [h]
  rw [hk, ho]
  generalize (p.k : Int) = x at *
  generalize (p.o.toNat : Int) = y at *
  generalize (b.toNat : Int) = z at *
  clear hk ho
  by_cases h1 : x = 1
  · subst h1
    go_enter Tryd.func59, Tryd.ntmps59
    go_wp2
    go_ret
    exact ⟨by simp, (Below.refl _ w).alloc (Nat.le_refl _) _⟩
  · have e1 : (x == 1) = false := by simp [h1]
    have e2 : decide (x = 1) = false := decide_eq_false h1
    go_enter Tryd.func59, Tryd.ntmps59
    go_wp2
    go_ret
    rw [e2, Bool.false_or]
    exact ⟨rfl, (Below.refl _ w).alloc (Nat.le_refl _) _⟩
/-- A row of steps lies somewhere, and is read. -/
def StAt (w : World) (g o : Nat) (l : List Stp) : Prop := ∀ j p, l[j]? = some p → w.cell? ⟨g, o + j * 2, none⟩ = some (.int .u8 (p.k : Int)) ∧ w.cell? ⟨g, o + j * 2 + 1, none⟩ = some (.int .u8 (p.o.toNat : Int))
theorem StAt.none {w : World} {g o : Nat} {l m : List Stp} (_ : StAt w g o l) (hm : m.length = 0) : StAt w g o m := by
  intro j p hj
  have := (List.getElem?_eq_some_iff.1 hj).1
  omega
theorem StAt.drop {w : World} {g o : Nat} {l : List Stp} (h : StAt w g o l) (k : Nat) : StAt w g (o + k * 2) (l.drop k) := by
  intro j p hj
  rw [List.getElem?_drop] at hj
  rw [show o + k * 2 + j * 2 = o + (k + j) * 2 by omega]
  exact h _ _ hj
theorem cut_from (l : List UInt8) (k : Nat) : (⟨l.toArray⟩ : ByteArray).extract k l.length = ⟨(l.drop k).toArray⟩ := by
  rw [Lib.extract_mk]
  congr 2
  exact List.take_of_length_le (by simp)
theorem cut_from1 (l : List UInt8) : (⟨l.toArray⟩ : ByteArray).extract 1 (⟨l.toArray⟩ : ByteArray).size = ⟨(l.drop 1).toArray⟩ := cut_from l 1
theorem cut_from2 (l : List UInt8) (k : Nat) : (⟨l.toArray⟩ : ByteArray).extract k (⟨l.toArray⟩ : ByteArray).size = ⟨(l.drop k).toArray⟩ := cut_from l k
/-- A step in its box. -/
def OnS (w0 : World) (bb : Nat) (p : Stp) (X : World) : Prop := X.cell? ⟨bb, 0, none⟩ = some (.int .u8 (p.k : Int)) ∧ X.cell? ⟨bb, 1, none⟩ = some (.int .u8 (p.o.toNat : Int)) ∧ bb < X.heap.size ∧ Below w0.heap.size w0 X
theorem OnS.below {w0 X Y : World} {bb : Nat} {p : Stp} (h : OnS w0 bb p X) (k : Below X.heap.size X Y) : OnS w0 bb p Y :=
  ⟨(k.cell (p := ⟨bb, 0, .none⟩) h.2.2.1).trans h.1, (k.cell (p := ⟨bb, 1, .none⟩) h.2.2.1).trans h.2.1, Nat.lt_of_lt_of_le h.2.2.1 k.size, h.2.2.2.trans (k.mono h.2.2.2.size)⟩
theorem OnS.out {w0 X : World} {bb : Nat} {p : Stp} (h : OnS w0 bb p X) : Below w0.heap.size w0 X := h.2.2.2
theorem OnS.drew {w0 X : World} {bb : Nat} {p : Stp} (h : OnS w0 bb p X) : OnS w0 bb p X.drew := h.below (Below.refl _ _).drew
theorem OnS.new {w0 w : World} (h : Below w0.heap.size w0 w) (p : Stp) : OnS w0 w.heap.size p (w.alloc (.cells #[.int .u8 (p.k : Int), .int .u8 (p.o.toNat : Int)] 81)) := by
  refine ⟨?_, ?_, by simp, h.alloc h.size _⟩
  · rw [World.cell?_alloc_new]; rfl
  · rw [World.cell?_alloc_new]; rfl
set_option maxRecDepth 100000 in
set_option maxHeartbeats 4000000 in
theorem match_any (g o cap : Nat) (l : List Stp) (s : List UInt8) (w : World) (h : StAt w g o l) (hg : g < w.heap.size) (h1 : l.length ≤ cap) (h2 : cap ≤ maxLen) (h3 : s.length ≤ maxLen) :
    Calls Tryd.prog 50 #[.slice (some ⟨g, o, none⟩) l.length cap, .string ⟨s.toArray⟩] w fun e w' => e = .returned (.bool (lk l s)) ∧ Below w.heap.size w w' := by
  go_enter Tryd.func50, Tryd.ntmps50
  go_wp2
  go_step3
  go_wp2
  go_step3
  go_wp2
  go_loopg [0, 1, 5] (l.length + s.length + 1) (fun G av sv fv wr => ∃ (o' cap' : Nat) (l' : List Stp) (s' : List UInt8) (af : Bool), av = .slice (some ⟨g, o', none⟩) l'.length cap' ∧ sv = .string ⟨s'.toArray⟩ ∧ fv = .bool af ∧ StAt w g o' l' ∧ l'.length ≤ cap' ∧ cap' ≤ maxLen ∧ s'.length ≤ maxLen ∧ askB af l' s' = lk l s ∧ Below w.heap.size w wr ∧ l'.length + s'.length < G)
  case atStart => exact ⟨o, cap, l, s, false, rfl, rfl, rfl, h, h1, h2, h3, rfl, Below.refl _ _, by omega⟩
  case round =>
    obtain ⟨o', cap', l', s', af, rfl, rfl, rfl, hs, h1, h2, h3, hk, hB, hG⟩ := hrel
    clear h
    have HS := hide hs
    have HK := hide hk
    have sz : (⟨s'.toArray⟩ : ByteArray).size = s'.length := by show s'.toArray.size = _; simp
    clear hs hk
    unfold maxLen at h2 h3
    cases gk with
    | zero => omega
    | succ G =>
      go_wp2
      obtain ⟨wo, hwo⟩ : ∃ wo : World, wo = wr := ⟨wr, rfl⟩
      subst hwo
      go_loopg [0, 1, 5, 10] l'.length (fun G' av sv fv iv wx => ∃ i : Nat, i + G' = l'.length ∧ av = .slice (some ⟨g, o', none⟩) l'.length cap' ∧ sv = .string ⟨s'.toArray⟩ ∧ fv = .bool af ∧ iv = .int .i64 i ∧ Hid (Ahd l' s' i) ∧ Below w.heap.size w wx)
      case atStart => exact ⟨0, by omega, rfl, rfl, rfl, rfl, Ahd.zero _ _, hB⟩
      case round =>
        obtain ⟨i, hi, rfl, rfl, rfl, rfl, HA, hBx⟩ := hrel
        cases gk with
        | zero =>
          have hi' : i = l'.length := by omega
          have HA' : Ahd l' s' l'.length := by have := HA.out; rwa [hi'] at this
          have hle := HA'.le
          have hw := lk_whole HA'
          have g1 : ¬ (i : Int) < (l'.length : Int) := by omega
          clear HA hi
          by_cases hsl : s'.length = l'.length
          · have HV : Hid (lk l s = true) := by
              show _ = _
              rw [← HK.out]
              rw [decide_eq_true hsl] at hw
              unfold askB
              cases af
              · exact hw
              · exact star_self hw
            have g2 : ((s'.length : Int) == (l'.length : Int)) = true := by rw [hsl]; simp
            have g3 : (s'.length : Int) = (l'.length : Int) := by omega
            clear hw HA' hsl
            go_wp2
            go_ret
            rw [HV.out]
            exact ⟨rfl, hBx⟩
          · rw [decide_eq_false hsl] at hw
            have g2 : ((s'.length : Int) == (l'.length : Int)) = false := by rw [beq_eq_false_iff_ne]; omega
            have g3 : ¬ (s'.length : Int) = (l'.length : Int) := by omega
            cases af
            · have HV : Hid (lk l s = false) := by
                show _ = _
                rw [← HK.out]; exact hw
              clear hw HA' hsl
              go_wp2
              go_ret
              rw [HV.out]
              exact ⟨rfl, hBx⟩
            · have HV : Hid (askB true l' (s'.drop 1) = lk l s) := by
                show _ = _
                rw [← HK.out]
                exact (star_tail hw (by omega)).symm
              have g4 : (1 : Int) ≤ (s'.length : Int) := by omega
              clear hw HA' hsl
              go_wp2
              go_roundg G
              case rel => exact ⟨o', cap', l', s'.drop 1, true, rfl, by first | rw [cut_from1] | rw [cut_from], rfl, HS.out, h1, by unfold maxLen; omega, by rw [List.length_drop]; unfold maxLen; omega, HV.out, hBx, by rw [List.length_drop]; omega⟩
              case measure => exact Nat.le_refl _
        | succ G' =>
          have hlt : i < l'.length := by omega
          have hi1 : (i : Int) < (l'.length : Int) := by omega
          obtain ⟨p, hp⟩ : ∃ p, l'[i]? = some p := ⟨l'[i], List.getElem?_eq_getElem hlt⟩
          obtain ⟨c0, c1⟩ := HS.out i p hp
          rw [← hBx.cell (p := ⟨g, o' + i * 2, none⟩) hg] at c0
          rw [← hBx.cell (p := ⟨g, o' + i * 2 + 1, none⟩) hg] at c1
          have HP := hide hp
          clear hp
          have hle := HA.out.le
          have HB0 := hide (hBx.alloc hBx.size (.cells #[.int .u8 (p.k : Int), .int .u8 (p.o.toNat : Int)] 81))
          by_cases hk2 : p.k = 2
          · have e2 : (p.k : Int) = 2 := by omega
            rw [e2] at c0 HB0
            have i1 : (i : Int) + 1 ≤ (cap' : Int) := by omega
            have i2 : (0 : Int) ≤ (i : Int) + 1 := by omega
            have i3 : IntKind.i64.wrap ((i : Int) + 1) = (i : Int) + 1 := by rw [IntKind.wrap_i64]; omega
            have i4 : (i : Int) ≤ (s'.length : Int) := by omega
            have i5 : (0 : Int) ≤ (i : Int) := by omega
            have i6 : (i : Int) + 1 ≤ (l'.length : Int) := by omega
            have HV := hide (ask_row (a := af) HA.out HP.out hk2)
            clear e2 hk2 HA HP
            go_wp2
            go_region_held3 (fun W => Below w.heap.size w W) (first | assumption | exact HB0.out | exact Below.drew (by assumption)) (fail)
            all_goals go_wp2
            all_goals go_roundg G
            all_goals first
              | exact ⟨o', 0, l'.drop (i + 1), s'.drop i, true, by rw [List.length_drop], by first | rw [cut_from2] | rw [cut_from], rfl, HS.out.none (by rw [List.length_drop]; omega), by rw [List.length_drop]; omega, by unfold maxLen; omega, by rw [List.length_drop]; unfold maxLen; omega, HV.out.symm.trans HK.out, by assumption, by rw [List.length_drop, List.length_drop]; omega⟩
              | exact ⟨o' + (i + 1) * 2, cap' - (i + 1), l'.drop (i + 1), s'.drop i, true, by rw [List.length_drop], by first | rw [cut_from2] | rw [cut_from], rfl, HS.out.drop (i + 1), by rw [List.length_drop]; omega, by unfold maxLen; omega, by rw [List.length_drop]; unfold maxLen; omega, HV.out.symm.trans HK.out, by assumption, by rw [List.length_drop, List.length_drop]; omega⟩
              | exact Nat.le_refl _
          · have e2 : ((p.k : Int) == 2) = false := by rw [beq_eq_false_iff_ne]; omega
            have e3 : ¬ (p.k : Int) = 2 := by omega
            by_cases hend : i = s'.length
            · have HV : Hid (lk l s = false) := by
                show _ = _
                rw [← HK.out]; exact ask_short HA.out HP.out hk2 (by omega)
              subst hend
              clear hk2 HA HP
              go_wp2
              try rw [Exit.noGoto_ret]
              go_ret
              rw [HV.out]
              exact ⟨rfl, HB0.out⟩
            · have i1 : ((i : Int) == (s'.length : Int)) = false := by rw [beq_eq_false_iff_ne]; omega
              have i2 : ¬ (i : Int) = (s'.length : Int) := by omega
              have i4 : (i : Int) < (s'.length : Int) := by omega
              obtain ⟨b, hb⟩ : ∃ b, s'[i]? = some b := ⟨s'[i]'(by omega), List.getElem?_eq_getElem (by omega)⟩
              have hx : ∀ h, (⟨s'.toArray⟩ : ByteArray)[i]'h = b := fun h => by
                have := (List.getElem?_eq_some_iff.1 hb).2
                rw [← this]; rfl
              have HT : Hid (∀ W : World, Calls Tryd.prog 59 #[.agg #[.int .u8 (p.k : Int), .int .u8 (p.o.toNat : Int)], .int .u8 (b.toNat : Int)] W fun e w' => e = .returned (.bool (takesB p b)) ∧ Below W.heap.size W w') := fun W => takes_any p b W
              have HM := hide (fun h4 => HA.out.more HP.out hb hk2 h4)
              have HN := hide (fun h4 => lk_wrong HA.out HP.out hb hk2 h4)
              clear HA HP hb hend
              have HO := hide (OnS.new hBx p)
              cases htb : takesB p b
              · rw [htb] at HT
                have HN := hide (HN.out htb)
                cases af
                · have HV : Hid (lk l s = false) := by show _ = _; rw [← HK.out]; exact HN.out
                  clear hk2 HM HN htb
                  go_wp2
                  go_region_held3 (fun X => X.cell? ⟨wr.heap.size, 0, none⟩ = some (.int .u8 (p.k : Int)) ∧ X.cell? ⟨wr.heap.size, 1, none⟩ = some (.int .u8 (p.o.toNat : Int)) ∧ wr.heap.size < X.heap.size ∧ Below w.heap.size w X) (first | exact HO.out | assumption | exact OnS.drew (by assumption)) (first | (go_at_call 59; refine (HT.out _).mono ?_; rintro e w2 ⟨rfl, hb2⟩; have hs2 := OnS.below (by assumption) hb2))
                  all_goals go_wp2
                  all_goals (try rw [Exit.noGoto_ret])
                  all_goals go_ret
                  all_goals rw [HV.out]
                  all_goals exact ⟨rfl, OnS.out (by assumption)⟩
                · have HV : Hid (askB true l' (s'.drop 1) = lk l s) := by
                    show _ = _
                    rw [← HK.out]
                    exact (star_tail HN.out (by omega)).symm
                  have g4 : (1 : Int) ≤ (s'.length : Int) := by omega
                  clear hk2 HM HN htb
                  go_wp2
                  go_region_held3 (fun X => X.cell? ⟨wr.heap.size, 0, none⟩ = some (.int .u8 (p.k : Int)) ∧ X.cell? ⟨wr.heap.size, 1, none⟩ = some (.int .u8 (p.o.toNat : Int)) ∧ wr.heap.size < X.heap.size ∧ Below w.heap.size w X) (first | exact HO.out | assumption | exact OnS.drew (by assumption)) (first | (go_at_call 59; refine (HT.out _).mono ?_; rintro e w2 ⟨rfl, hb2⟩; have hs2 := OnS.below (by assumption) hb2))
                  all_goals go_wp2
                  all_goals go_roundg G
                  all_goals first | exact Nat.le_refl _ | exact ⟨o', cap', l', s'.drop 1, true, rfl, by first | rw [cut_from1] | rw [cut_from], rfl, HS.out, h1, by unfold maxLen; omega, by rw [List.length_drop]; unfold maxLen; omega, HV.out, OnS.out (by assumption), by rw [List.length_drop]; omega⟩
              · rw [htb] at HT
                have HM := hide (HM.out htb)
                clear hk2 HN htb
                go_wp2
                go_region_held3 (fun X => X.cell? ⟨wr.heap.size, 0, none⟩ = some (.int .u8 (p.k : Int)) ∧ X.cell? ⟨wr.heap.size, 1, none⟩ = some (.int .u8 (p.o.toNat : Int)) ∧ wr.heap.size < X.heap.size ∧ Below w.heap.size w X) (first | exact HO.out | assumption | exact OnS.drew (by assumption)) (first | (go_at_call 59; refine (HT.out _).mono ?_; rintro e w2 ⟨rfl, hb2⟩; have hs2 := OnS.below (by assumption) hb2))
                all_goals go_wp2
                all_goals go_roundg G'
                all_goals first | exact Nat.le_refl _ | exact ⟨i + 1, by omega, rfl, rfl, rfl, by go_num, HM.out, OnS.out (by assumption)⟩
end Go.Proofs.YthooimaadgabiabDoor
