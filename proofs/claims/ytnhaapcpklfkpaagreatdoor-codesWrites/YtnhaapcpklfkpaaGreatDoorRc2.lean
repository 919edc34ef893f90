/-
  The answer's Place.
-/
import Derived.Test.YtnhaapcpklfkpaaGreatDoorRc1
namespace Go.Proofs.YtnhaapcpklfkpaaGreatDoor
open Go.RowKit
set_option linter.unusedSimpArgs false

theorem cut_to (l : List UInt8) (k : Nat) : (⟨l.toArray⟩ : ByteArray).extract 0 k = ⟨(l.take k).toArray⟩ := by
  rw [Lib.extract_mk]; simp
theorem wOk_drop {f z : Bool} {W : List UInt8} {k : Nat} (h : k < W.length) : wOk f z (W.drop k) = wOk f z (W[k] :: W.drop (k + 1)) := by rw [List.drop_eq_getElem_cons h]
theorem wOk_comma {z : Bool} {r : List UInt8} : wOk true z (44 :: r) = false := by rw [wOk, if_pos rfl]; rfl
theorem fOk_drop {h : Bool} {F : List UInt8} {k : Nat} (hk : k < F.length) : fOk h (F.drop k) = fOk h (F[k] :: F.drop (k + 1)) := by rw [List.drop_eq_getElem_cons hk]
theorem place_at {t : List UInt8} {k : Nat} (hk : k ≤ t.length) (h : ∀ c ∈ t.take k, c ≠ 46) (he : ∀ c, t[k]? = some c → c = 46) : wholeOf t = t.take k ∧ fracOf t = t.drop (k + 1) := by
  by_cases hl : k < t.length
  · have h46 := he t[k] (List.getElem?_eq_getElem hl)
    have e : t = t.take k ++ 46 :: t.drop (k + 1) := by
      conv => lhs; rw [← List.take_append_drop k t, List.drop_eq_getElem_cons hl, h46]
    have := point_some (W := t.take k) (F := t.drop (k + 1)) h
    rw [← e] at this
    exact this
  · have ek : k = t.length := by omega
    subst ek
    rw [List.take_length] at h ⊢
    obtain ⟨a, b⟩ := point_none h
    exact ⟨a, by rw [b, List.drop_eq_nil_of_le (by omega)]⟩
/-- A place's bytes. -/
def marksB (t : List UInt8) : Prop := ∀ c ∈ t, c = 48 ∨ c = 35 ∨ c = 44 ∨ c = 46
set_option maxRecDepth 100000 in
set_option maxHeartbeats 8000000 in
theorem rPlace_any (t : List UInt8) (w : World) (hm : marksB t) (hs : t.length ≤ 1000) :
    Calls Tryz.prog 66 #[.string ⟨t.toArray⟩] w fun e w' => e = .returned (.bool (placeB t)) ∧ Below w.heap.size w w' := by
  have sz := mk_size t
  obtain ⟨R, hR⟩ : ∃ R, placeB t = R := ⟨_, rfl⟩
  rw [hR]
  have HR : Hid (∀ k, k ≤ t.length → (∀ c ∈ t.take k, c ≠ 46) → (∀ c, t[k]? = some c → c = 46) → (wOk true false (t.take k) && fOk false (t.drop (k + 1))) = R) := fun k a b c => by
    obtain ⟨p, q⟩ := place_at a b c
    rw [← hR, place_scan, p, q]
  clear hR
  have HM := hide hm
  clear hm
  have hti : (t.length : Int) ≤ 1000 := by omega
  go_enter Tryz.func66, Tryz.ntmps66
  go_wp2
  go_loopw [3] (fun iv wr => ∃ k : Nat, k ≤ t.length ∧ iv = .int .i64 k ∧ Hid (∀ c ∈ t.take k, c ≠ 46) ∧ Below w.heap.size w wr) (fun iv _ => t.length - (intOf iv).toNat)
  case atStart => exact ⟨0, Nat.zero_le _, rfl, by intro d hd; simp at hd, Below.refl _ w⟩
  case round =>
    obtain ⟨p, hp, rfl, HQ, hB⟩ := hrel
    have HB := hide hB
    clear hB
    have hcut := cut_to t p
    have szW := mk_size (t.take p)
    have lW : (t.take p).length = p := by rw [List.length_take]; omega
    have p1 : (p : Int) ≤ (t.length : Int) := by omega
    have p0 : (0 : Int) ≤ (p : Int) := by omega
    by_cases hlt : p < t.length
    · have g1 : (p : Int) < (t.length : Int) := by omega
      have hx : ∀ h, (⟨t.toArray⟩ : ByteArray)[p]'h = t[p] := fun h => rfl
      by_cases c1 : (t[p].toNat : Int) = 46
      · have b1 : ((t[p].toNat : Int) == 46) = true := by rw [c1]; rfl
        have b2 : ((t[p].toNat : Int) != 46) = false := by rw [bne, b1]; rfl
        have HV := hide (HR.out p hp HQ.out (fun c h => by rw [List.getElem?_eq_getElem hlt] at h; cases h; exact UInt8.toNat_inj.1 (by show t[p].toNat = 46; omega)))
        have HQ0 := hide HQ.out
        clear HR HQ
        obtain ⟨W, hW⟩ : ∃ W, t.take p = W := ⟨_, rfl⟩
        rw [hW] at hcut szW lW HV
        have HMW : Hid (∀ c ∈ W, c = 48 ∨ c = 35 ∨ c = 44 ∨ c = 46) := fun c hc => HM.out c (by rw [← hW] at hc; exact List.mem_of_mem_take hc)
        have HW46 : Hid (∀ c ∈ W, c ≠ 46) := by rw [← hW]; exact HQ0.out
        clear hW HQ0
        go_wp2
        obtain ⟨wo, hwo⟩ : ∃ wo : World, wo = wr := ⟨wr, rfl⟩
        subst hwo
        go_loopw [5, 6, 7] (fun mv zv iv wx => ∃ (m k : Nat) (z f : Bool), k ≤ W.length ∧ m ≤ k ∧ mv = .int .i64 m ∧ zv = .bool z ∧ iv = .int .i64 k ∧ Hid (wOk true false W = wOk f z (W.drop k)) ∧ Hid ((k = 0 → f = true) ∧ (∀ c, 0 < k → W[k - 1]? = some c → f = (c == 44)) ∧ (0 < k → k = W.length → f = false) ∧ (0 < k → f = false → 0 < m)) ∧ Below w.heap.size w wx) (fun _ _ iv _ => W.length - (intOf iv).toNat)
        case atStart => exact ⟨0, 0, false, true, Nat.zero_le _, Nat.le_refl _, rfl, rfl, rfl, rfl, ⟨fun _ => rfl, fun _ h => absurd h (by omega), fun h => absurd h (by omega), fun h => absurd h (by omega)⟩, HB.out⟩
        case round =>
          obtain ⟨m, k, z, f, hk, hmk, rfl, rfl, rfl, HQ, HP, hB⟩ := hrel
          replace HB := hide hB
          clear hB
          by_cases hlt2 : k < W.length
          · have g2 : (k : Int) < (W.length : Int) := by omega
            have hx2 : ∀ h, (⟨W.toArray⟩ : ByteArray)[k]'h = W[k] := fun h => rfl
            have hw := HQ.out.trans (wOk_drop hlt2)
            rcases HMW.out W[k] (List.getElem_mem hlt2) with e | e | e | e
            · have d1 : (W[k].toNat : Int) = 48 := by rw [e]; rfl
              have d2 : ((W[k].toNat : Int) == 44) = false := by rw [d1]; rfl
              have d3 : ((W[k].toNat : Int) == 35) = false := by rw [d1]; rfl
              have d4 : ((W[k].toNat : Int) == 48) = true := by rw [d1]; rfl
              rw [e, wOk, if_neg (by decide), if_neg (by decide), if_pos rfl] at hw
              have HQ2 := hide hw
              have HP2 : Hid ((k + 1 = 0 → false = true) ∧ (∀ c, 0 < k + 1 → W[k + 1 - 1]? = some c → false = (c == 44)) ∧ (0 < k + 1 → k + 1 = W.length → false = false) ∧ (0 < k + 1 → false = false → 0 < m + 1)) := ⟨fun h => by omega, fun c _ h => by rw [Nat.add_sub_cancel, List.getElem?_eq_getElem hlt2, e] at h; cases h; rfl, fun _ _ => rfl, fun _ _ => by omega⟩
              clear HQ HP hw e HV
              go_wp2
              go_roundw
              case rel => exact ⟨m + 1, k + 1, true, false, hlt2, by omega, by go_num, rfl, by go_num, HQ2, HP2, HB.out⟩
              case measure => simp [intOf] <;> omega
            · have d1 : (W[k].toNat : Int) = 35 := by rw [e]; rfl
              have d2 : ((W[k].toNat : Int) == 44) = false := by rw [d1]; rfl
              have d3 : ((W[k].toNat : Int) == 35) = true := by rw [d1]; rfl
              have d4 : ((W[k].toNat : Int) == 48) = false := by rw [d1]; rfl
              rw [e, wOk, if_neg (by decide), if_pos rfl] at hw
              cases z
              · have HQ2 : Hid (wOk true false W = wOk false false (W.drop (k + 1))) := hw
                have HP2 : Hid ((k + 1 = 0 → false = true) ∧ (∀ c, 0 < k + 1 → W[k + 1 - 1]? = some c → false = (c == 44)) ∧ (0 < k + 1 → k + 1 = W.length → false = false) ∧ (0 < k + 1 → false = false → 0 < m + 1)) := ⟨fun h => by omega, fun c _ h => by rw [Nat.add_sub_cancel, List.getElem?_eq_getElem hlt2, e] at h; cases h; rfl, fun _ _ => rfl, fun _ _ => by omega⟩
                clear HQ HP hw e HV
                go_wp2
                go_roundw
                case rel => exact ⟨m + 1, k + 1, false, false, hlt2, by omega, by go_num, rfl, by go_num, HQ2, HP2, HB.out⟩
                case measure => simp [intOf] <;> omega
              · have HF : Hid (R = false) := by show _ = _; rw [← HV.out, hw]; rfl
                clear HQ HP hw e HV
                go_wp2
                go_ret
                rw [HF.out]
                exact ⟨rfl, HB.out⟩
            · have d1 : (W[k].toNat : Int) = 44 := by rw [e]; rfl
              have d2 : ((W[k].toNat : Int) == 44) = true := by rw [d1]; rfl
              rw [e] at hw
              by_cases k0 : k = 0
              · have hf := HP.out.1 k0
                have HF : Hid (R = false) := by show _ = _; rw [← HV.out, hw, hf, wOk_comma]; rfl
                subst k0
                clear HQ HP hw e HV hf
                go_wp2
                go_ret
                rw [HF.out]
                exact ⟨rfl, HB.out⟩
              have i1 : ((k : Int) == 0) = false := by rw [beq_eq_false_iff_ne]; omega
              have i1' : ¬ (k : Int) = 0 := by omega
              by_cases k1 : k + 1 = W.length
              · have i2 : ((k : Int) + 1 == (W.length : Int)) = true := by rw [← k1]; simp
                have i2' : (k : Int) + 1 = (W.length : Int) := by omega
                have HF : Hid (R = false) := by
                  show _ = _
                  rw [← HV.out, hw, wOk, if_pos rfl, List.drop_eq_nil_of_le (by omega)]
                  simp [wOk]
                clear HQ HP hw e HV
                go_wp2
                go_ret
                rw [HF.out]
                exact ⟨rfl, HB.out⟩
              have i2 : ((k : Int) + 1 == (W.length : Int)) = false := by rw [beq_eq_false_iff_ne]; omega
              have i2' : ¬ (k : Int) + 1 = (W.length : Int) := by omega
              obtain ⟨j, hj⟩ : ∃ j, k = j + 1 := ⟨k - 1, by omega⟩
              have hpf := HP.out.2.1
              subst hj
              clear i1 i1' i2 i2'
              have i1 : ((j : Int) + 1 == 0) = false := by rw [beq_eq_false_iff_ne]; omega
              have i1' : ¬ (j : Int) + 1 = 0 := by omega
              have i2 : ((j : Int) + 1 + 1 == (W.length : Int)) = false := by rw [beq_eq_false_iff_ne]; omega
              have i2' : ¬ (j : Int) + 1 + 1 = (W.length : Int) := by omega
              have i2p : ((j : Int) + 1 + 1 == (p : Int)) = false := by rw [beq_eq_false_iff_ne]; omega
              have i2p' : ¬ (j : Int) + 1 + 1 = (p : Int) := by omega
              have i3p : (j : Int) < (p : Int) := by omega
              have g2p : (j : Int) + 1 < (p : Int) := by omega
              have g2j : (j : Int) + 1 < (W.length : Int) := by omega
              have hx3 : ∀ h, (⟨W.toArray⟩ : ByteArray)[j]'h = W[j] := fun h => rfl
              have hf := hpf W[j] (by omega) (by rw [Nat.add_sub_cancel]; exact List.getElem?_eq_getElem (by omega))
              have i3 : IntKind.i64.wrap (j : Int) = (j : Int) := by rw [IntKind.wrap_i64]; omega
              have i4 : (j : Int) < (W.length : Int) := by omega
              have i5 : (0 : Int) ≤ (j : Int) := by omega
              by_cases c5 : W[j] = 44
              · have d5 : (W[j].toNat : Int) = 44 := by rw [c5]; rfl
                have d6 : ((W[j].toNat : Int) == 44) = true := by rw [d5]; rfl
                have HF : Hid (R = false) := by
                  show _ = _
                  rw [← HV.out, hw, hf, c5, show ((44 : UInt8) == 44) = true from rfl, wOk_comma]; rfl
                clear HQ HP hw e HV hf hpf c5
                go_wp2
                go_ret
                rw [HF.out]
                exact ⟨rfl, HB.out⟩
              · have d6 : ((W[j].toNat : Int) == 44) = false := by rw [beq_eq_false_iff_ne]; exact fun q => c5 (UInt8.toNat_inj.1 (by show W[j].toNat = 44; omega))
                have d5 : ¬ (W[j].toNat : Int) = 44 := fun q => c5 (UInt8.toNat_inj.1 (by show W[j].toNat = 44; omega))
                have hff : f = false := by rw [hf]; simpa using c5
                rw [hff, wOk, if_pos rfl] at hw
                have HQ2 : Hid (wOk true false W = wOk true z (W.drop (j + 1 + 1))) := hw
                have HP2 : Hid ((j + 1 + 1 = 0 → true = true) ∧ (∀ c, 0 < j + 1 + 1 → W[j + 1 + 1 - 1]? = some c → true = (c == 44)) ∧ (0 < j + 1 + 1 → j + 1 + 1 = W.length → true = false) ∧ (0 < j + 1 + 1 → true = false → 0 < m)) := ⟨fun _ => rfl, fun c _ h => by rw [Nat.add_sub_cancel, List.getElem?_eq_getElem hlt2, e] at h; cases h; rfl, fun _ h => absurd h k1, fun _ h => by cases h⟩
                clear HQ HP hw e HV hf hpf c5 hff
                go_wp2
                go_roundw
                case rel => exact ⟨m, j + 1 + 1, z, true, hlt2, by omega, rfl, rfl, by go_num, HQ2, HP2, HB.out⟩
                case measure => simp [intOf] <;> omega
            · exact absurd e (HW46.out W[k] (List.getElem_mem hlt2))
          · have g2 : ¬ (k : Int) < (W.length : Int) := by omega
            have hwk : wOk true false W = !f := by rw [HQ.out, List.drop_eq_nil_of_le (by omega), wOk]
            obtain ⟨P1, P2, P3, P4⟩ := HP.out
            by_cases m0 : m = 0
            · have hft : f = true := by
                by_cases k0 : k = 0
                · exact P1 k0
                · cases hf : f
                  · have := P4 (by omega) hf; omega
                  · rfl
              have HF : Hid (R = false) := by show _ = _; rw [← HV.out, hwk, hft]; rfl
              subst m0
              clear HQ HP P1 P2 P3 P4 hwk hft HV
              go_wp2
              go_ret
              rw [HF.out]
              exact ⟨rfl, HB.out⟩
            · have m1 : ((m : Int) == 0) = false := by rw [beq_eq_false_iff_ne]; omega
              have m2 : ¬ (m : Int) = 0 := by omega
              have hff : f = false := P3 (by omega) (by omega)
              have HV2 : Hid (fOk false (t.drop (p + 1)) = R) := by show _ = _; rw [← HV.out, hwk, hff]; rfl
              clear HQ HP P1 P2 P3 P4 hwk hff HV
              go_wp2
              obtain ⟨wp, hwp⟩ : ∃ wp : World, wp = wr := ⟨wr, rfl⟩
              subst hwp
              go_loopw [8, 9] (fun hv iv wx => ∃ (i : Nat) (h : Bool), p + 1 ≤ i ∧ i ≤ t.length + 1 ∧ hv = .bool h ∧ iv = .int .i64 i ∧ Hid (fOk h (t.drop i) = R) ∧ Below w.heap.size w wx) (fun _ iv _ => t.length + 1 - (intOf iv).toNat)
              case atStart => exact ⟨p + 1, false, Nat.le_refl _, by omega, rfl, by go_num, HV2, HB.out⟩
              case round =>
                obtain ⟨i, h, hi1, hi2, rfl, rfl, HQ, hB⟩ := hrel
                replace HB := hide hB
                clear hB HV2
                by_cases hlt3 : i < t.length
                · have g3 : (i : Int) < (t.length : Int) := by omega
                  have hx4 : ∀ h, (⟨t.toArray⟩ : ByteArray)[i]'h = t[i] := fun h => rfl
                  have hw := (fOk_drop (h := h) hlt3).symm.trans HQ.out
                  rcases HM.out t[i] (List.getElem_mem hlt3) with e | e | e | e
                  · have d1 : (t[i].toNat : Int) = 48 := by rw [e]; rfl
                    have d2 : ((t[i].toNat : Int) == 44) = false := by rw [d1]; rfl
                    have d3 : ((t[i].toNat : Int) == 46) = false := by rw [d1]; rfl
                    have d4 : ((t[i].toNat : Int) == 48) = true := by rw [d1]; rfl
                    have d5 : ((t[i].toNat : Int) == 35) = false := by rw [d1]; rfl
                    rw [e, fOk, if_pos rfl] at hw
                    cases h
                    · have HQ2 : Hid (fOk false (t.drop (i + 1)) = R) := hw
                      clear HQ hw e
                      go_wp2
                      go_roundw
                      case rel => exact ⟨i + 1, false, by omega, by omega, rfl, by go_num, HQ2, HB.out⟩
                      case measure => simp [intOf] <;> omega
                    · have HF : Hid (R = false) := hw.symm
                      clear HQ hw e
                      go_wp2
                      go_ret
                      rw [HF.out]
                      exact ⟨rfl, HB.out⟩
                  · have d1 : (t[i].toNat : Int) = 35 := by rw [e]; rfl
                    have d2 : ((t[i].toNat : Int) == 44) = false := by rw [d1]; rfl
                    have d3 : ((t[i].toNat : Int) == 46) = false := by rw [d1]; rfl
                    have d4 : ((t[i].toNat : Int) == 48) = false := by rw [d1]; rfl
                    have d5 : ((t[i].toNat : Int) == 35) = true := by rw [d1]; rfl
                    rw [e, fOk, if_neg (by decide), if_pos rfl] at hw
                    have HQ2 : Hid (fOk true (t.drop (i + 1)) = R) := hw
                    clear HQ hw e
                    cases h
                    · go_wp2
                      go_roundw
                      case rel => exact ⟨i + 1, true, by omega, by omega, rfl, by go_num, HQ2, HB.out⟩
                      case measure => simp [intOf] <;> omega
                    · go_wp2
                      go_roundw
                      case rel => exact ⟨i + 1, true, by omega, by omega, rfl, by go_num, HQ2, HB.out⟩
                      case measure => simp [intOf] <;> omega
                  · have d1 : (t[i].toNat : Int) = 44 := by rw [e]; rfl
                    have d2 : ((t[i].toNat : Int) == 44) = true := by rw [d1]; rfl
                    rw [e, fOk, if_neg (by decide), if_neg (by decide)] at hw
                    have HF : Hid (R = false) := hw.symm
                    clear HQ hw e
                    go_wp2
                    go_ret
                    rw [HF.out]
                    exact ⟨rfl, HB.out⟩
                  · have d1 : (t[i].toNat : Int) = 46 := by rw [e]; rfl
                    have d2 : ((t[i].toNat : Int) == 44) = false := by rw [d1]; rfl
                    have d3 : ((t[i].toNat : Int) == 46) = true := by rw [d1]; rfl
                    rw [e, fOk, if_neg (by decide), if_neg (by decide)] at hw
                    have HF : Hid (R = false) := hw.symm
                    clear HQ hw e
                    go_wp2
                    go_ret
                    rw [HF.out]
                    exact ⟨rfl, HB.out⟩
                · have g3 : ¬ (i : Int) < (t.length : Int) := by omega
                  have HF : Hid (R = true) := by show _ = _; rw [← HQ.out, List.drop_eq_nil_of_le (by omega)]; rfl
                  clear HQ
                  go_wp2
                  go_ret
                  rw [HF.out]
                  exact ⟨rfl, HB.out⟩
      · have b1 : ((t[p].toNat : Int) == 46) = false := by rw [beq_eq_false_iff_ne]; exact c1
        have b2 : ((t[p].toNat : Int) != 46) = true := by rw [bne, b1]; rfl
        have HQ2 : Hid (∀ d ∈ t.take (p + 1), d ≠ 46) := by
          intro d hd
          rw [List.take_succ_eq_append_getElem hlt] at hd
          rcases List.mem_append.1 hd with hd | hd
          · exact HQ.out d hd
          · simp at hd; subst hd; exact fun e => c1 (by rw [e]; rfl)
        clear HQ HR hcut szW lW
        go_wp2
        go_roundw
        case rel => exact ⟨p + 1, hlt, by go_num, HQ2, HB.out⟩
        case measure => simp [intOf] <;> omega
    · have g1 : ¬ (p : Int) < (t.length : Int) := by omega
      have HV := hide (HR.out p hp HQ.out (fun c h => by rw [List.getElem?_eq_none (by omega)] at h; cases h))
      have HQ0 := hide HQ.out
      clear HR HQ
      obtain ⟨W, hW⟩ : ∃ W, t.take p = W := ⟨_, rfl⟩
      rw [hW] at hcut szW lW HV
      have HMW : Hid (∀ c ∈ W, c = 48 ∨ c = 35 ∨ c = 44 ∨ c = 46) := fun c hc => HM.out c (by rw [← hW] at hc; exact List.mem_of_mem_take hc)
      have HW46 : Hid (∀ c ∈ W, c ≠ 46) := by rw [← hW]; exact HQ0.out
      clear hW HQ0
      go_wp2
      obtain ⟨wo, hwo⟩ : ∃ wo : World, wo = wr := ⟨wr, rfl⟩
      subst hwo
      go_loopw [5, 6, 7] (fun mv zv iv wx => ∃ (m k : Nat) (z f : Bool), k ≤ W.length ∧ m ≤ k ∧ mv = .int .i64 m ∧ zv = .bool z ∧ iv = .int .i64 k ∧ Hid (wOk true false W = wOk f z (W.drop k)) ∧ Hid ((k = 0 → f = true) ∧ (∀ c, 0 < k → W[k - 1]? = some c → f = (c == 44)) ∧ (0 < k → k = W.length → f = false) ∧ (0 < k → f = false → 0 < m)) ∧ Below w.heap.size w wx) (fun _ _ iv _ => W.length - (intOf iv).toNat)
      case atStart => exact ⟨0, 0, false, true, Nat.zero_le _, Nat.le_refl _, rfl, rfl, rfl, rfl, ⟨fun _ => rfl, fun _ h => absurd h (by omega), fun h => absurd h (by omega), fun h => absurd h (by omega)⟩, HB.out⟩
      case round =>
        obtain ⟨m, k, z, f, hk, hmk, rfl, rfl, rfl, HQ, HP, hB⟩ := hrel
        replace HB := hide hB
        clear hB
        by_cases hlt2 : k < W.length
        · have g2 : (k : Int) < (W.length : Int) := by omega
          have hx2 : ∀ h, (⟨W.toArray⟩ : ByteArray)[k]'h = W[k] := fun h => rfl
          have hw := HQ.out.trans (wOk_drop hlt2)
          rcases HMW.out W[k] (List.getElem_mem hlt2) with e | e | e | e
          · have d1 : (W[k].toNat : Int) = 48 := by rw [e]; rfl
            have d2 : ((W[k].toNat : Int) == 44) = false := by rw [d1]; rfl
            have d3 : ((W[k].toNat : Int) == 35) = false := by rw [d1]; rfl
            have d4 : ((W[k].toNat : Int) == 48) = true := by rw [d1]; rfl
            rw [e, wOk, if_neg (by decide), if_neg (by decide), if_pos rfl] at hw
            have HQ2 := hide hw
            have HP2 : Hid ((k + 1 = 0 → false = true) ∧ (∀ c, 0 < k + 1 → W[k + 1 - 1]? = some c → false = (c == 44)) ∧ (0 < k + 1 → k + 1 = W.length → false = false) ∧ (0 < k + 1 → false = false → 0 < m + 1)) := ⟨fun h => by omega, fun c _ h => by rw [Nat.add_sub_cancel, List.getElem?_eq_getElem hlt2, e] at h; cases h; rfl, fun _ _ => rfl, fun _ _ => by omega⟩
            clear HQ HP hw e HV
            go_wp2
            go_roundw
            case rel => exact ⟨m + 1, k + 1, true, false, hlt2, by omega, by go_num, rfl, by go_num, HQ2, HP2, HB.out⟩
            case measure => simp [intOf] <;> omega
          · have d1 : (W[k].toNat : Int) = 35 := by rw [e]; rfl
            have d2 : ((W[k].toNat : Int) == 44) = false := by rw [d1]; rfl
            have d3 : ((W[k].toNat : Int) == 35) = true := by rw [d1]; rfl
            have d4 : ((W[k].toNat : Int) == 48) = false := by rw [d1]; rfl
            rw [e, wOk, if_neg (by decide), if_pos rfl] at hw
            cases z
            · have HQ2 : Hid (wOk true false W = wOk false false (W.drop (k + 1))) := hw
              have HP2 : Hid ((k + 1 = 0 → false = true) ∧ (∀ c, 0 < k + 1 → W[k + 1 - 1]? = some c → false = (c == 44)) ∧ (0 < k + 1 → k + 1 = W.length → false = false) ∧ (0 < k + 1 → false = false → 0 < m + 1)) := ⟨fun h => by omega, fun c _ h => by rw [Nat.add_sub_cancel, List.getElem?_eq_getElem hlt2, e] at h; cases h; rfl, fun _ _ => rfl, fun _ _ => by omega⟩
              clear HQ HP hw e HV
              go_wp2
              go_roundw
              case rel => exact ⟨m + 1, k + 1, false, false, hlt2, by omega, by go_num, rfl, by go_num, HQ2, HP2, HB.out⟩
              case measure => simp [intOf] <;> omega
            · have HF : Hid (R = false) := by show _ = _; rw [← HV.out, hw]; rfl
              clear HQ HP hw e HV
              go_wp2
              go_ret
              rw [HF.out]
              exact ⟨rfl, HB.out⟩
          · have d1 : (W[k].toNat : Int) = 44 := by rw [e]; rfl
            have d2 : ((W[k].toNat : Int) == 44) = true := by rw [d1]; rfl
            rw [e] at hw
            by_cases k0 : k = 0
            · have hf := HP.out.1 k0
              have HF : Hid (R = false) := by show _ = _; rw [← HV.out, hw, hf, wOk_comma]; rfl
              subst k0
              clear HQ HP hw e HV hf
              go_wp2
              go_ret
              rw [HF.out]
              exact ⟨rfl, HB.out⟩
            have i1 : ((k : Int) == 0) = false := by rw [beq_eq_false_iff_ne]; omega
            have i1' : ¬ (k : Int) = 0 := by omega
            by_cases k1 : k + 1 = W.length
            · have i2 : ((k : Int) + 1 == (W.length : Int)) = true := by rw [← k1]; simp
              have i2' : (k : Int) + 1 = (W.length : Int) := by omega
              have HF : Hid (R = false) := by
                show _ = _
                rw [← HV.out, hw, wOk, if_pos rfl, List.drop_eq_nil_of_le (by omega)]
                simp [wOk]
              clear HQ HP hw e HV
              go_wp2
              go_ret
              rw [HF.out]
              exact ⟨rfl, HB.out⟩
            have i2 : ((k : Int) + 1 == (W.length : Int)) = false := by rw [beq_eq_false_iff_ne]; omega
            have i2' : ¬ (k : Int) + 1 = (W.length : Int) := by omega
            obtain ⟨j, hj⟩ : ∃ j, k = j + 1 := ⟨k - 1, by omega⟩
            have hpf := HP.out.2.1
            subst hj
            clear i1 i1' i2 i2'
            have i1 : ((j : Int) + 1 == 0) = false := by rw [beq_eq_false_iff_ne]; omega
            have i1' : ¬ (j : Int) + 1 = 0 := by omega
            have i2 : ((j : Int) + 1 + 1 == (W.length : Int)) = false := by rw [beq_eq_false_iff_ne]; omega
            have i2' : ¬ (j : Int) + 1 + 1 = (W.length : Int) := by omega
            have i2p : ((j : Int) + 1 + 1 == (p : Int)) = false := by rw [beq_eq_false_iff_ne]; omega
            have i2p' : ¬ (j : Int) + 1 + 1 = (p : Int) := by omega
            have i3p : (j : Int) < (p : Int) := by omega
            have g2p : (j : Int) + 1 < (p : Int) := by omega
            have g2j : (j : Int) + 1 < (W.length : Int) := by omega
            have hx3 : ∀ h, (⟨W.toArray⟩ : ByteArray)[j]'h = W[j] := fun h => rfl
            have hf := hpf W[j] (by omega) (by rw [Nat.add_sub_cancel]; exact List.getElem?_eq_getElem (by omega))
            have i3 : IntKind.i64.wrap (j : Int) = (j : Int) := by rw [IntKind.wrap_i64]; omega
            have i4 : (j : Int) < (W.length : Int) := by omega
            have i5 : (0 : Int) ≤ (j : Int) := by omega
            by_cases c5 : W[j] = 44
            · have d5 : (W[j].toNat : Int) = 44 := by rw [c5]; rfl
              have d6 : ((W[j].toNat : Int) == 44) = true := by rw [d5]; rfl
              have HF : Hid (R = false) := by
                show _ = _
                rw [← HV.out, hw, hf, c5, show ((44 : UInt8) == 44) = true from rfl, wOk_comma]; rfl
              clear HQ HP hw e HV hf hpf c5
              go_wp2
              go_ret
              rw [HF.out]
              exact ⟨rfl, HB.out⟩
            · have d6 : ((W[j].toNat : Int) == 44) = false := by rw [beq_eq_false_iff_ne]; exact fun q => c5 (UInt8.toNat_inj.1 (by show W[j].toNat = 44; omega))
              have d5 : ¬ (W[j].toNat : Int) = 44 := fun q => c5 (UInt8.toNat_inj.1 (by show W[j].toNat = 44; omega))
              have hff : f = false := by rw [hf]; simpa using c5
              rw [hff, wOk, if_pos rfl] at hw
              have HQ2 : Hid (wOk true false W = wOk true z (W.drop (j + 1 + 1))) := hw
              have HP2 : Hid ((j + 1 + 1 = 0 → true = true) ∧ (∀ c, 0 < j + 1 + 1 → W[j + 1 + 1 - 1]? = some c → true = (c == 44)) ∧ (0 < j + 1 + 1 → j + 1 + 1 = W.length → true = false) ∧ (0 < j + 1 + 1 → true = false → 0 < m)) := ⟨fun _ => rfl, fun c _ h => by rw [Nat.add_sub_cancel, List.getElem?_eq_getElem hlt2, e] at h; cases h; rfl, fun _ h => absurd h k1, fun _ h => by cases h⟩
              clear HQ HP hw e HV hf hpf c5 hff
              go_wp2
              go_roundw
              case rel => exact ⟨m, j + 1 + 1, z, true, hlt2, by omega, rfl, rfl, by go_num, HQ2, HP2, HB.out⟩
              case measure => simp [intOf] <;> omega
          · exact absurd e (HW46.out W[k] (List.getElem_mem hlt2))
        · have g2 : ¬ (k : Int) < (W.length : Int) := by omega
          have hwk : wOk true false W = !f := by rw [HQ.out, List.drop_eq_nil_of_le (by omega), wOk]
          obtain ⟨P1, P2, P3, P4⟩ := HP.out
          by_cases m0 : m = 0
          · have hft : f = true := by
              by_cases k0 : k = 0
              · exact P1 k0
              · cases hf : f
                · have := P4 (by omega) hf; omega
                · rfl
            have HF : Hid (R = false) := by show _ = _; rw [← HV.out, hwk, hft]; rfl
            subst m0
            clear HQ HP P1 P2 P3 P4 hwk hft HV
            go_wp2
            go_ret
            rw [HF.out]
            exact ⟨rfl, HB.out⟩
          · have m1 : ((m : Int) == 0) = false := by rw [beq_eq_false_iff_ne]; omega
            have m2 : ¬ (m : Int) = 0 := by omega
            have hff : f = false := P3 (by omega) (by omega)
            have HV2 : Hid (fOk false (t.drop (p + 1)) = R) := by show _ = _; rw [← HV.out, hwk, hff]; rfl
            clear HQ HP P1 P2 P3 P4 hwk hff HV
            go_wp2
            obtain ⟨wp, hwp⟩ : ∃ wp : World, wp = wr := ⟨wr, rfl⟩
            subst hwp
            go_loopw [8, 9] (fun hv iv wx => ∃ (i : Nat) (h : Bool), p + 1 ≤ i ∧ i ≤ t.length + 1 ∧ hv = .bool h ∧ iv = .int .i64 i ∧ Hid (fOk h (t.drop i) = R) ∧ Below w.heap.size w wx) (fun _ iv _ => t.length + 1 - (intOf iv).toNat)
            case atStart => exact ⟨p + 1, false, Nat.le_refl _, by omega, rfl, by go_num, HV2, HB.out⟩
            case round =>
              obtain ⟨i, h, hi1, hi2, rfl, rfl, HQ, hB⟩ := hrel
              replace HB := hide hB
              clear hB HV2
              by_cases hlt3 : i < t.length
              · have g3 : (i : Int) < (t.length : Int) := by omega
                have hx4 : ∀ h, (⟨t.toArray⟩ : ByteArray)[i]'h = t[i] := fun h => rfl
                have hw := (fOk_drop (h := h) hlt3).symm.trans HQ.out
                rcases HM.out t[i] (List.getElem_mem hlt3) with e | e | e | e
                · have d1 : (t[i].toNat : Int) = 48 := by rw [e]; rfl
                  have d2 : ((t[i].toNat : Int) == 44) = false := by rw [d1]; rfl
                  have d3 : ((t[i].toNat : Int) == 46) = false := by rw [d1]; rfl
                  have d4 : ((t[i].toNat : Int) == 48) = true := by rw [d1]; rfl
                  have d5 : ((t[i].toNat : Int) == 35) = false := by rw [d1]; rfl
                  rw [e, fOk, if_pos rfl] at hw
                  cases h
                  · have HQ2 : Hid (fOk false (t.drop (i + 1)) = R) := hw
                    clear HQ hw e
                    go_wp2
                    go_roundw
                    case rel => exact ⟨i + 1, false, by omega, by omega, rfl, by go_num, HQ2, HB.out⟩
                    case measure => simp [intOf] <;> omega
                  · have HF : Hid (R = false) := hw.symm
                    clear HQ hw e
                    go_wp2
                    go_ret
                    rw [HF.out]
                    exact ⟨rfl, HB.out⟩
                · have d1 : (t[i].toNat : Int) = 35 := by rw [e]; rfl
                  have d2 : ((t[i].toNat : Int) == 44) = false := by rw [d1]; rfl
                  have d3 : ((t[i].toNat : Int) == 46) = false := by rw [d1]; rfl
                  have d4 : ((t[i].toNat : Int) == 48) = false := by rw [d1]; rfl
                  have d5 : ((t[i].toNat : Int) == 35) = true := by rw [d1]; rfl
                  rw [e, fOk, if_neg (by decide), if_pos rfl] at hw
                  have HQ2 : Hid (fOk true (t.drop (i + 1)) = R) := hw
                  clear HQ hw e
                  cases h
                  · go_wp2
                    go_roundw
                    case rel => exact ⟨i + 1, true, by omega, by omega, rfl, by go_num, HQ2, HB.out⟩
                    case measure => simp [intOf] <;> omega
                  · go_wp2
                    go_roundw
                    case rel => exact ⟨i + 1, true, by omega, by omega, rfl, by go_num, HQ2, HB.out⟩
                    case measure => simp [intOf] <;> omega
                · have d1 : (t[i].toNat : Int) = 44 := by rw [e]; rfl
                  have d2 : ((t[i].toNat : Int) == 44) = true := by rw [d1]; rfl
                  rw [e, fOk, if_neg (by decide), if_neg (by decide)] at hw
                  have HF : Hid (R = false) := hw.symm
                  clear HQ hw e
                  go_wp2
                  go_ret
                  rw [HF.out]
                  exact ⟨rfl, HB.out⟩
                · have d1 : (t[i].toNat : Int) = 46 := by rw [e]; rfl
                  have d2 : ((t[i].toNat : Int) == 44) = false := by rw [d1]; rfl
                  have d3 : ((t[i].toNat : Int) == 46) = true := by rw [d1]; rfl
                  rw [e, fOk, if_neg (by decide), if_neg (by decide)] at hw
                  have HF : Hid (R = false) := hw.symm
                  clear HQ hw e
                  go_wp2
                  go_ret
                  rw [HF.out]
                  exact ⟨rfl, HB.out⟩
              · have g3 : ¬ (i : Int) < (t.length : Int) := by omega
                have HF : Hid (R = true) := by show _ = _; rw [← HQ.out, List.drop_eq_nil_of_le (by omega)]; rfl
                clear HQ
                go_wp2
                go_ret
                rw [HF.out]
                exact ⟨rfl, HB.out⟩
end Go.Proofs.YtnhaapcpklfkpaaGreatDoor
