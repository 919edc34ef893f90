/-
  Out of RefParse, NumBackWalk, NumTextsWalk, what is asked for (laid by pack9.py).
-/
import Derived.Test.YtpghgjibpbimeaaDoorKNum
import Derived.BigCall
import Derived.BigGuard
import Derived.BigQuiet
import Derived.Deep.QuietTactic
import Derived.Deep.RegionWith
import Derived.Laws.EntriesVeiled
import Derived.Lib.AppendIntMem
import Derived.Lib.IndexMore
import Derived.Lib.ItoaMem
import Derived.Lib.SmallJoins
import Derived.Lib.Walk
import Derived.WalkKit
import Derived.WalkLawsBesides
import Derived.WalkSpells
import Derived.WideShapes
namespace Go.Proofs.YtpghgjibpbimeaaDoor
section
open Go.RowKit
set_option maxHeartbeats 400000 in
theorem rdigit_any (c : UInt8) (w : World) :
    Calls Tryd.prog 72 #[.int .u8 (c.toNat : Int)] w fun e w' => e = .returned (.bool (isDig c)) ∧ w' = w := by
  by_cases h1 : (48 : Int) ≤ (c.toNat : Int)
  · by_cases h2 : (c.toNat : Int) ≤ 57
    · have E : Hid (isDig c = true) := isDig_iff.2 (by omega)
      go_enter Tryd.func72, Tryd.ntmps72
      go_wp2
      go_ret
      exact ⟨by rw [E.out]; rfl, rfl⟩
    · have E : Hid (isDig c = false) := isDig_not.2 (by omega)
      go_enter Tryd.func72, Tryd.ntmps72
      go_wp2
      go_ret
      exact ⟨by rw [E.out]; rfl, rfl⟩
  · have E : Hid (isDig c = false) := isDig_not.2 (by omega)
    go_enter Tryd.func72, Tryd.ntmps72
    go_wp2
    go_ret
    exact ⟨by rw [E.out]; rfl, rfl⟩
theorem all_take_lead (r : List UInt8) {k : Nat} (h : k ≤ lead r) : (r.take k).all isDig = true := by
  have h1 := lead_dig r
  rw [List.all_eq_true] at *
  intro x hx
  refine h1 x ?_
  rw [show r.take k = (r.take (lead r)).take k from by rw [List.take_take, Nat.min_eq_left h]] at hx
  exact List.mem_of_mem_take hx
theorem rdigit_dot (w : World) : Calls Tryd.prog 72 #[.int .u8 46] w fun e w' => e = .returned (.bool false) ∧ w' = w := rdigit_any 46 w
theorem body_zero {neg : Bool} {r : List UInt8} (h : lead r = 0) : bodyR neg r = (0, 5) := by
  match r, h with
  | [], _ => exact body_empty
  | c :: X, h =>
    have hs := lead_stop (r := c :: X) (by rw [h]; simp)
    rw [h] at hs
    have hc : isDig c = false := hs
    by_cases e : c = 46
    · subst e; exact body_dot0
    · exact body_bad (W := []) rfl hc e
theorem drop_getD (r : List UInt8) (a m : Nat) : r.getD (a + m) 0 = (r.drop a).getD m 0 := by
  rw [List.getD_eq_getElem?_getD, List.getD_eq_getElem?_getD, List.getElem?_drop]
theorem p10_div {m : Nat} (h : m < 6) : p10 (6 - m) / 10 = p10 (5 - m) ∧ p10 (6 - m) = p10 (5 - m) * 10 ∧ p10 (5 - m) ≤ 100000 := by
  have : m = 0 ∨ m = 1 ∨ m = 2 ∨ m = 3 ∨ m = 4 ∨ m = 5 := by omega
  rcases this with h | h | h | h | h | h <;> subst h <;> decide
theorem frac_bd {F : List UInt8} {m : Nat} (hm : m ≤ F.length) (h6 : F.length ≤ 6) (h : (F.take m).all isDig = true) : 0 ≤ val (F.take m) * p10 (6 - m) ∧ val (F.take m) * p10 (6 - m) ≤ 1000000 := by
  have hb := val_bd h
  rw [List.length_take, Nat.min_eq_left hm] at hb
  have hp := p10_pos (6 - m)
  refine ⟨Int.mul_nonneg hb.1 (by omega), ?_⟩
  have h1 : val (F.take m) * p10 (6 - m) ≤ p10 m * p10 (6 - m) := Int.mul_le_mul_of_nonneg_right (by omega) (by omega)
  have h2 : p10 m * p10 (6 - m) = 1000000 := by
    have : m = 0 ∨ m = 1 ∨ m = 2 ∨ m = 3 ∨ m = 4 ∨ m = 5 ∨ m = 6 := by omega
    rcases this with h | h | h | h | h | h | h <;> subst h <;> decide
  omega
theorem split_at {r : List UInt8} (h : lead r < r.length) : r = r.take (lead r) ++ r.getD (lead r) 0 :: r.drop (lead r + 1) := by
  have h1 := take_getD r (lead r) h
  have h2 := List.take_append_drop (lead r + 1) r
  rw [h1, List.append_assoc, List.singleton_append] at h2
  exact h2.symm
set_option maxHeartbeats 4000000 in
set_option maxRecDepth 10000 in
theorem rparse_neg (r : List UInt8) (w : World) (hl : r.length ≤ 39) :
    Calls Tryd.prog 53 #[.string ⟨(45 :: r).toArray⟩] w fun e w' => e = .returned (.tuple #[.int .i64 (bodyR true r).1, .int .i64 (bodyR true r).2]) ∧ w' = w := by
  have hix0 : ∀ (hh : 0 < (⟨(45 :: r).toArray⟩ : ByteArray).size), (⟨(45 :: r).toArray⟩ : ByteArray)[0]'hh = 45 := ba_at (45 :: r) 0
  have hex : (⟨(45 :: r).toArray⟩ : ByteArray).extract 1 (r.length + 1) = ⟨r.toArray⟩ := ba_tail (45 :: r)
  have hll := lead_le r
  go_enter Tryd.func53, Tryd.ntmps53
  go_wp2_with fail
  clear hix0
  go_loop [5, 6, 7] (fun n i o => ∃ k : Nat, k ≤ lead r ∧ i = .int .i64 k ∧ n = .int .i64 (min (val (r.take k)) 1000000000001) ∧ o = .bool (decide (1000000000000 < val (r.take k)))) (fun _ i _ => lead r - (intOf i).toNat)
  case atStart => exact ⟨0, by omega, rfl, rfl, rfl⟩
  case round =>
    obtain ⟨k, hk, rfl, rfl, rfl⟩ := hrel
    have hdk := all_take_lead r hk
    have hvn := val_nn hdk
    by_cases hlt : k < lead r
    · have hkr : k < r.length := by omega
      have hdig := lead_at hlt
      have HV : Hid (val (r.take (k + 1)) = val (r.take k) * 10 + (((r.getD k 0).toNat : Int) - 48)) := by show val _ = _; rw [take_getD r k hkr, val_snoc]
      have hix := ba_at r k
      generalize r.getD k 0 = c at *
      obtain ⟨d1, d2⟩ := isDig_iff.1 hdig
      have d1' : (48 : Int) ≤ (c.toNat : Int) := by omega
      have d2' : (c.toNat : Int) ≤ 57 := by omega
      generalize val (r.take k) = v at *
      have hkr' : (k : Int) < (r.length : Int) := by omega
      clear d1 d2 hdk
      by_cases hov : 1000000000000 < 10 * min v 1000000000001 + ((c.toNat : Int) - 48)
      · have t1 : decide (1000000000000 < val (r.take (k + 1))) = true := by rw [HV.out]; simp; omega
        have t2 : min (val (r.take (k + 1))) 1000000000001 = 1000000000001 := by rw [HV.out]; omega
        have T1 := hide t1
        have T2 := hide t2
        clear t1 t2
        go_wp2_with (go_at_call 72; refine (rdigit_any _ _).mono ?_; rintro e w' ⟨rfl, rfl⟩)
        go_round
        case rel => exact ⟨k + 1, by omega, by go_num, by rw [T2.out], by rw [T1.out]⟩
        case measure => simp [intOf]; omega
      · have t1 : decide (1000000000000 < val (r.take (k + 1))) = decide (1000000000000 < v) := by
          rw [HV.out]
          have h1 : ¬ 1000000000000 < v := by omega
          have h2 : ¬ 1000000000000 < v * 10 + ((c.toNat : Int) - 48) := by omega
          simp [h1, h2]
        have t2 : min (val (r.take (k + 1))) 1000000000001 = 10 * min v 1000000000001 + ((c.toNat : Int) - 48) := by rw [HV.out]; omega
        have T1 := hide t1
        have T2 := hide t2
        clear t1 t2
        go_wp2_with (go_at_call 72; refine (rdigit_any _ _).mono ?_; rintro e w' ⟨rfl, rfl⟩)
        go_round
        case rel => exact ⟨k + 1, by omega, by go_num, by rw [T2.out], by rw [T1.out]⟩
        case measure => simp [intOf]; omega
    · have ek : k = lead r := by omega
      subst ek
      have hW := hdk
      have hst := fun h => lead_stop (r := r) h
      have hsp := fun h => split_at (r := r) h
      have hz := fun h => body_zero (neg := true) (r := r) h
      have hbare : lead r = r.length → r.take (lead r) = r := fun h => by rw [h, List.take_length]
      obtain ⟨v, hvW⟩ : ∃ v, val (r.take (lead r)) = v := ⟨_, rfl⟩
      rw [hvW] at hvn ⊢
      generalize lead r = q0 at *
      clear hlt hk hdk
      by_cases h00 : q0 = 0
      · have HB := hide (hz h00)
        subst h00
        clear hz hsp hbare hvW hW
        by_cases hr0 : 0 < r.length
        · have hdc := hst hr0
          have hix := ba_at r 0
          generalize r.getD 0 0 = c at *
          have i1 : (0 : Int) < (r.length : Int) := by omega
          clear hst
          go_wp2_with (go_at_call 72; refine (rdigit_any _ _).mono ?_; rintro e w' ⟨rfl, rfl⟩)
          go_ret2
          exact ⟨by rw [HB.out]; rfl, rfl⟩
        · have i1 : ¬ (0 : Int) < (r.length : Int) := by omega
          clear hst
          go_wp2
          all_goals
            go_ret2
            exact ⟨by rw [HB.out]; rfl, rfl⟩
      · have t0 : ((q0 : Int) == 0) = false := by rw [beq_eq_false_iff_ne]; omega
        clear hz
        have hWn : r.take q0 ≠ [] := by
          intro e
          have := congrArg List.length e
          rw [List.length_take, List.length_nil] at this; omega
        by_cases hfull : q0 = r.length
        · have HB := hide (body_bare (neg := true) (W := r) (by rw [← hbare hfull]; exact hW) (by rw [← hbare hfull]; exact hWn))
          rw [show val r = v from by rw [← hvW, hbare hfull]] at HB
          have i1 : ¬ (q0 : Int) < (r.length : Int) := by omega
          have HQ := hide hfull
          clear hbare hst hsp hvW hW hWn hfull
          by_cases hov : 1000000000000 < v
          · have hM : 1000000000000000000 < v * 1000000 := by omega
            rw [if_pos hM] at HB
            clear hM
            go_wp2
            go_ret2
            exact ⟨by rw [HB.out]; rfl, rfl⟩
          · have hmin : min v 1000000000001 = v := by omega
            by_cases hM : 1000000000000000000 < v * 1000000
            · rw [if_pos hM] at HB
              go_wp2
              go_ret2
              exact ⟨by rw [HB.out]; rfl, rfl⟩
            · rw [if_neg hM] at HB
              go_wp2
              go_ret2
              exact ⟨by rw [HB.out]; rfl, rfl⟩
        · have hlt2 : q0 < r.length := by omega
          have hdc := hst hlt2
          have HSp := hide (hsp hlt2)
          have hix := ba_at r q0
          have i1 : (q0 : Int) < (r.length : Int) := by omega
          clear hst hsp hbare hfull
          by_cases h46 : r.getD q0 0 = 46
          · obtain ⟨F, hF⟩ : ∃ F, r.drop (q0 + 1) = F := ⟨_, rfl⟩
            rw [h46] at hix hdc HSp
            rw [hF] at HSp
            have HB0 : Hid (bodyR true r = bodyR true (r.take q0 ++ 46 :: F)) := by
              show bodyR true r = _
              rw [← HSp.out]
            have hFl : F.length = r.length - (q0 + 1) := by rw [← hF, List.length_drop]
            clear h46 HSp
            by_cases hF0 : q0 + 1 = r.length
            · have HB : Hid (bodyR true r = (0, 5)) := by
                show bodyR true r = _
                rw [HB0.out]
                have : F = [] := List.eq_nil_of_length_eq_zero (by omega)
                rw [this]; exact body_dot_no hW rfl
              have i2 : ((q0 : Int) + 1 == (r.length : Int)) = true := by rw [beq_iff_eq]; omega
              clear HB0 hvW hW hF hFl hF0
              go_wp2_with (go_at_call 72; refine (rdigit_dot _).mono ?_; rintro e w' ⟨rfl, rfl⟩)
              go_ret2
              exact ⟨by rw [HB.out]; rfl, rfl⟩
            · have i2 : ((q0 : Int) + 1 == (r.length : Int)) = false := by rw [beq_eq_false_iff_ne]; omega
              by_cases h6 : F.length ≤ 6
              · have i3 : ¬ 6 < (r.length : Int) - (q0 : Int) - 1 := by omega
                have hFn : F ≠ [] := by
                  intro e
                  rw [e] at hFl
                  simp at hFl; omega
                go_wp2_with (go_at_call 72; refine (rdigit_dot _).mono ?_; rintro e w' ⟨rfl, rfl⟩)
                have hrd : ∀ m : Nat, r.getD (q0 + 1 + m) 0 = F.getD m 0 := fun m => by rw [drop_getD, hF]
                have hlF : r.length = q0 + 1 + F.length := by rw [← hF, List.length_drop]; omega
                have HRD := hide hrd
                have HL := hide hlF
                clear hrd hlF hFl hF hF0
                go_loop [5, 6, 8] (fun n i t => ∃ m : Nat, m ≤ F.length ∧ i = .int .i64 (((q0 + 1 + m : Nat)) : Int) ∧ t = .int .i64 (p10 (6 - m)) ∧ n = .int .i64 (min v 1000000000001 * 1000000 + val (F.take m) * p10 (6 - m)) ∧ (F.take m).all isDig = true) (fun _ i _ => r.length - (intOf i).toNat)
                case atStart => exact ⟨0, by omega, by go_num, by rw [show p10 (6 - 0) = 1000000 by decide], by simp [val], rfl⟩
                case round =>
                  obtain ⟨m, hm, rfl, rfl, rfl, hdm⟩ := hrel
                  obtain ⟨fb0, fb1⟩ := frac_bd hm h6 hdm
                  by_cases hmF : m < F.length
                  · have hix2 := ba_at r (q0 + 1 + m)
                    rw [HRD.out m] at hix2
                    have HV : Hid (F.take (m + 1) = F.take m ++ [F.getD m 0]) := take_getD F m hmF
                    obtain ⟨pd1, pd2, pd3⟩ := p10_div (m := m) (by omega)
                    have pp := p10_pos (5 - m)
                    have i1 : ((q0 + 1 + m : Nat) : Int) < (r.length : Int) := by have := HL.out; omega
                    by_cases hdc : isDig (F.getD m 0) = true
                    · generalize F.getD m 0 = c2 at *
                      obtain ⟨d1, d2⟩ := isDig_iff.1 hdc
                      have d1' : (48 : Int) ≤ (c2.toNat : Int) := by omega
                      have d2' : (c2.toNat : Int) ≤ 57 := by omega
                      have HS : Hid (min v 1000000000001 * 1000000 + val (F.take (m + 1)) * p10 (6 - (m + 1)) = min v 1000000000001 * 1000000 + val (F.take m) * p10 (6 - m) + p10 (5 - m) * ((c2.toNat : Int) - 48)) := by
                        show _ = _
                        rw [HV.out, val_snoc, show 6 - (m + 1) = 5 - m by omega, pd2, Int.add_mul, Int.mul_assoc, Int.mul_comm 10, Int.mul_comm ((c2.toNat : Int) - 48)]; omega
                      have HA : Hid ((F.take (m + 1)).all isDig = true) := by show _ = _; rw [HV.out, List.all_append, hdm]; simp [hdc]
                      have PD := hide pd1
                      have z1 : 0 ≤ p10 (5 - m) * ((c2.toNat : Int) - 48) := Int.mul_nonneg (by omega) (by omega)
                      have z2 : p10 (5 - m) * ((c2.toNat : Int) - 48) ≤ 100000 * 9 := Int.mul_le_mul pd3 (by omega) (by omega) (by omega)
                      have HP : Hid (p10 (6 - (m + 1)) = p10 (5 - m)) := by show _ = _; rw [show 6 - (m + 1) = 5 - m by omega]
                      generalize val (F.take m) * p10 (6 - m) = fr at *
                      generalize p10 (5 - m) = t5 at *
                      have t6 : p10 (6 - m) / 10 = t5 := PD.out
                      have t7 : 0 ≤ p10 (6 - m) := Int.le_of_lt (p10_pos _)
                      have t8 : p10 (6 - m) ≤ 1000000 := by omega
                      clear pd2 pd1 d1 d2 HV HB0
                      go_wp2_with (go_at_call 72; refine (rdigit_any _ _).mono ?_; rintro e w' ⟨rfl, rfl⟩)
                      go_round
                      case rel => exact ⟨m + 1, by omega, by go_num, by rw [HP.out, PD.out], by rw [HS.out], HA.out⟩
                      case measure => have := HL.out; simp [intOf]; omega
                    · have hdc' : isDig (F.getD m 0) = false := by simpa using hdc
                      have HB : Hid (bodyR true r = (0, 5)) := by
                        show bodyR true r = _
                        rw [HB0.out, body_dot_no hW]
                        have : digB F = false := by
                          unfold digB
                          have h1 : F.all isDig = false := by
                            rw [List.all_eq_false]
                            refine ⟨F.getD m 0, ?_, hdc⟩
                            rw [List.getD_eq_getElem?_getD, List.getElem?_eq_getElem hmF]; simp
                          rw [h1]; rfl
                        rw [this]; rfl
                      generalize F.getD m 0 = c2 at *
                      clear HV hdc HB0 hdm fb0 fb1 pd1 pd2 pd3 pp
                      go_wp2_with (go_at_call 72; refine (rdigit_any _ _).mono ?_; rintro e w' ⟨rfl, rfl⟩)
                      go_ret2
                      exact ⟨by rw [HB.out]; rfl, rfl⟩
                  · have em : m = F.length := by omega
                    subst em
                    rw [List.take_of_length_le (Nat.le_refl _)] at hdm fb0 fb1 ⊢
                    have HB := hide (body_dot (neg := true) hW hWn hdm hFn h6)
                    rw [← HB0.out, hvW] at HB
                    have i1 : ¬ ((q0 + 1 + F.length : Nat) : Int) < (r.length : Int) := by have := HL.out; omega
                    generalize val F * p10 (6 - F.length) = fr at *
                    clear HB0 hvW hW
                    by_cases hov : 1000000000000 < v
                    · have hM : 1000000000000000000 < v * 1000000 + fr := by omega
                      rw [if_pos hM] at HB
                      clear hM
                      go_wp2
                      go_ret2
                      exact ⟨by rw [HB.out]; rfl, rfl⟩
                    · have hmin : min v 1000000000001 = v := by omega
                      by_cases hM : 1000000000000000000 < v * 1000000 + fr
                      · rw [if_pos hM] at HB
                        go_wp2
                        go_ret2
                        exact ⟨by rw [HB.out]; rfl, rfl⟩
                      · rw [if_neg hM] at HB
                        go_wp2
                        go_ret2
                        exact ⟨by rw [HB.out]; rfl, rfl⟩
              · have HB : Hid (bodyR true r = (0, 5)) := by
                  show bodyR true r = _
                  rw [HB0.out]
                  exact body_dot_no hW (by simp [h6])
                have i3 : 6 < (r.length : Int) - (q0 : Int) - 1 := by omega
                clear HB0 hvW hW hF hFl hF0
                go_wp2_with (go_at_call 72; refine (rdigit_dot _).mono ?_; rintro e w' ⟨rfl, rfl⟩)
                go_ret2
                exact ⟨by rw [HB.out]; rfl, rfl⟩
          · have HB : Hid (bodyR true r = (0, 5)) := by
              show bodyR true r = _
              rw [HSp.out]; exact body_bad hW hdc h46
            have t46 : (((r.getD q0 0).toNat : Int) != 46) = true := by
              rw [bne_iff_ne]
              intro e
              have e46 : (46 : UInt8).toNat = 46 := rfl
              exact h46 (UInt8.toNat_inj.1 (by omega))
            generalize r.getD q0 0 = c at *
            clear h46 HSp hvW hW
            go_wp2_with (go_at_call 72; refine (rdigit_any _ _).mono ?_; rintro e w' ⟨rfl, rfl⟩)
            go_ret2
            exact ⟨by rw [HB.out]; rfl, rfl⟩
set_option maxHeartbeats 4000000 in
set_option maxRecDepth 10000 in
theorem rparse_pos (r : List UInt8) (w : World) (hl : r.length ≤ 40) (hm : r.getD 0 0 ≠ 45) :
    Calls Tryd.prog 53 #[.string ⟨r.toArray⟩] w fun e w' => e = .returned (.tuple #[.int .i64 (bodyR false r).1, .int .i64 (bodyR false r).2]) ∧ w' = w := by
  have hll := lead_le r
  have hix0 := ba_at r 0
  have t45 : (((r.getD 0 0).toNat : Int) == 45) = false := by
    rw [beq_eq_false_iff_ne]
    intro e
    have e45 : (45 : UInt8).toNat = 45 := rfl
    exact hm (UInt8.toNat_inj.1 (by omega))
  clear hm
  have hz0 : r.length = 0 ∨ (0 : Int) < (r.length : Int) := by omega
  obtain ⟨c0, hc0⟩ : ∃ c, r.getD 0 0 = c := ⟨_, rfl⟩
  rw [hc0] at hix0 t45
  clear hc0
  rcases hz0 with hz0 | hz0
  · have : r = [] := List.eq_nil_of_length_eq_zero hz0
    subst this
    have HB : Hid (bodyR false [] = (0, 5)) := body_empty
    clear hix0 hz0 hll hl
    go_enter Tryd.func53, Tryd.ntmps53
    go_wp2_with fail
    go_loop [6] (fun i => i = .int .i64 0) (fun _ => 0)
    case atStart => rfl
    case round =>
      subst hrel
      go_wp2
      go_ret2
      exact ⟨by rw [HB.out]; rfl, rfl⟩
  · go_enter Tryd.func53, Tryd.ntmps53
    go_wp2_with fail
    clear hix0
    go_loop [5, 6, 7] (fun n i o => ∃ k : Nat, k ≤ lead r ∧ i = .int .i64 k ∧ n = .int .i64 (min (val (r.take k)) 1000000000001) ∧ o = .bool (decide (1000000000000 < val (r.take k)))) (fun _ i _ => lead r - (intOf i).toNat)
    case atStart => exact ⟨0, by omega, rfl, rfl, rfl⟩
    case round =>
      obtain ⟨k, hk, rfl, rfl, rfl⟩ := hrel
      have hdk := all_take_lead r hk
      have hvn := val_nn hdk
      by_cases hlt : k < lead r
      · have hkr : k < r.length := by omega
        have hdig := lead_at hlt
        have HV : Hid (val (r.take (k + 1)) = val (r.take k) * 10 + (((r.getD k 0).toNat : Int) - 48)) := by show val _ = _; rw [take_getD r k hkr, val_snoc]
        have hix := ba_at r k
        generalize r.getD k 0 = c at *
        obtain ⟨d1, d2⟩ := isDig_iff.1 hdig
        have d1' : (48 : Int) ≤ (c.toNat : Int) := by omega
        have d2' : (c.toNat : Int) ≤ 57 := by omega
        generalize val (r.take k) = v at *
        have hkr' : (k : Int) < (r.length : Int) := by omega
        clear d1 d2 hdk
        by_cases hov : 1000000000000 < 10 * min v 1000000000001 + ((c.toNat : Int) - 48)
        · have t1 : decide (1000000000000 < val (r.take (k + 1))) = true := by rw [HV.out]; simp; omega
          have t2 : min (val (r.take (k + 1))) 1000000000001 = 1000000000001 := by rw [HV.out]; omega
          have T1 := hide t1
          have T2 := hide t2
          clear t1 t2
          go_wp2_with (go_at_call 72; refine (rdigit_any _ _).mono ?_; rintro e w' ⟨rfl, rfl⟩)
          go_round
          case rel => exact ⟨k + 1, by omega, by go_num, by rw [T2.out], by rw [T1.out]⟩
          case measure => simp [intOf]; omega
        · have t1 : decide (1000000000000 < val (r.take (k + 1))) = decide (1000000000000 < v) := by
            rw [HV.out]
            have h1 : ¬ 1000000000000 < v := by omega
            have h2 : ¬ 1000000000000 < v * 10 + ((c.toNat : Int) - 48) := by omega
            simp [h1, h2]
          have t2 : min (val (r.take (k + 1))) 1000000000001 = 10 * min v 1000000000001 + ((c.toNat : Int) - 48) := by rw [HV.out]; omega
          have T1 := hide t1
          have T2 := hide t2
          clear t1 t2
          go_wp2_with (go_at_call 72; refine (rdigit_any _ _).mono ?_; rintro e w' ⟨rfl, rfl⟩)
          go_round
          case rel => exact ⟨k + 1, by omega, by go_num, by rw [T2.out], by rw [T1.out]⟩
          case measure => simp [intOf]; omega
      · have ek : k = lead r := by omega
        subst ek
        have hW := hdk
        have hst := fun h => lead_stop (r := r) h
        have hsp := fun h => split_at (r := r) h
        have hz := fun h => body_zero (neg := false) (r := r) h
        have hbare : lead r = r.length → r.take (lead r) = r := fun h => by rw [h, List.take_length]
        obtain ⟨v, hvW⟩ : ∃ v, val (r.take (lead r)) = v := ⟨_, rfl⟩
        rw [hvW] at hvn ⊢
        generalize lead r = q0 at *
        clear hlt hk hdk
        by_cases h00 : q0 = 0
        · have HB := hide (hz h00)
          subst h00
          clear hz hsp hbare hvW hW
          by_cases hr0 : 0 < r.length
          · have hdc := hst hr0
            have hix := ba_at r 0
            generalize r.getD 0 0 = c at *
            have i1 : (0 : Int) < (r.length : Int) := by omega
            clear hst
            go_wp2_with (go_at_call 72; refine (rdigit_any _ _).mono ?_; rintro e w' ⟨rfl, rfl⟩)
            go_ret2
            exact ⟨by rw [HB.out]; rfl, rfl⟩
          · have i1 : ¬ (0 : Int) < (r.length : Int) := by omega
            clear hst
            go_wp2
            all_goals
              go_ret2
              exact ⟨by rw [HB.out]; rfl, rfl⟩
        · have t0 : ((q0 : Int) == 0) = false := by rw [beq_eq_false_iff_ne]; omega
          clear hz
          have hWn : r.take q0 ≠ [] := by
            intro e
            have := congrArg List.length e
            rw [List.length_take, List.length_nil] at this; omega
          by_cases hfull : q0 = r.length
          · have HB := hide (body_bare (neg := false) (W := r) (by rw [← hbare hfull]; exact hW) (by rw [← hbare hfull]; exact hWn))
            rw [show val r = v from by rw [← hvW, hbare hfull]] at HB
            have i1 : ¬ (q0 : Int) < (r.length : Int) := by omega
            have HQ := hide hfull
            clear hbare hst hsp hvW hW hWn hfull
            by_cases hov : 1000000000000 < v
            · have hM : 1000000000000000000 < v * 1000000 := by omega
              rw [if_pos hM] at HB
              clear hM
              go_wp2
              go_ret2
              exact ⟨by rw [HB.out]; rfl, rfl⟩
            · have hmin : min v 1000000000001 = v := by omega
              by_cases hM : 1000000000000000000 < v * 1000000
              · rw [if_pos hM] at HB
                go_wp2
                go_ret2
                exact ⟨by rw [HB.out]; rfl, rfl⟩
              · rw [if_neg hM] at HB
                go_wp2
                go_ret2
                exact ⟨by rw [HB.out]; rfl, rfl⟩
          · have hlt2 : q0 < r.length := by omega
            have hdc := hst hlt2
            have HSp := hide (hsp hlt2)
            have hix := ba_at r q0
            have i1 : (q0 : Int) < (r.length : Int) := by omega
            clear hst hsp hbare hfull
            by_cases h46 : r.getD q0 0 = 46
            · obtain ⟨F, hF⟩ : ∃ F, r.drop (q0 + 1) = F := ⟨_, rfl⟩
              rw [h46] at hix hdc HSp
              rw [hF] at HSp
              have HB0 : Hid (bodyR false r = bodyR false (r.take q0 ++ 46 :: F)) := by
                show bodyR false r = _
                rw [← HSp.out]
              have hFl : F.length = r.length - (q0 + 1) := by rw [← hF, List.length_drop]
              clear h46 HSp
              by_cases hF0 : q0 + 1 = r.length
              · have HB : Hid (bodyR false r = (0, 5)) := by
                  show bodyR false r = _
                  rw [HB0.out]
                  have : F = [] := List.eq_nil_of_length_eq_zero (by omega)
                  rw [this]; exact body_dot_no hW rfl
                have i2 : ((q0 : Int) + 1 == (r.length : Int)) = true := by rw [beq_iff_eq]; omega
                clear HB0 hvW hW hF hFl hF0
                go_wp2_with (go_at_call 72; refine (rdigit_dot _).mono ?_; rintro e w' ⟨rfl, rfl⟩)
                go_ret2
                exact ⟨by rw [HB.out]; rfl, rfl⟩
              · have i2 : ((q0 : Int) + 1 == (r.length : Int)) = false := by rw [beq_eq_false_iff_ne]; omega
                by_cases h6 : F.length ≤ 6
                · have i3 : ¬ 6 < (r.length : Int) - (q0 : Int) - 1 := by omega
                  have hFn : F ≠ [] := by
                    intro e
                    rw [e] at hFl
                    simp at hFl; omega
                  go_wp2_with (go_at_call 72; refine (rdigit_dot _).mono ?_; rintro e w' ⟨rfl, rfl⟩)
                  have hrd : ∀ m : Nat, r.getD (q0 + 1 + m) 0 = F.getD m 0 := fun m => by rw [drop_getD, hF]
                  have hlF : r.length = q0 + 1 + F.length := by rw [← hF, List.length_drop]; omega
                  have HRD := hide hrd
                  have HL := hide hlF
                  clear hrd hlF hFl hF hF0
                  go_loop [5, 6, 8] (fun n i t => ∃ m : Nat, m ≤ F.length ∧ i = .int .i64 (((q0 + 1 + m : Nat)) : Int) ∧ t = .int .i64 (p10 (6 - m)) ∧ n = .int .i64 (min v 1000000000001 * 1000000 + val (F.take m) * p10 (6 - m)) ∧ (F.take m).all isDig = true) (fun _ i _ => r.length - (intOf i).toNat)
                  case atStart => exact ⟨0, by omega, by go_num, by rw [show p10 (6 - 0) = 1000000 by decide], by simp [val], rfl⟩
                  case round =>
                    obtain ⟨m, hm, rfl, rfl, rfl, hdm⟩ := hrel
                    obtain ⟨fb0, fb1⟩ := frac_bd hm h6 hdm
                    by_cases hmF : m < F.length
                    · have hix2 := ba_at r (q0 + 1 + m)
                      rw [HRD.out m] at hix2
                      have HV : Hid (F.take (m + 1) = F.take m ++ [F.getD m 0]) := take_getD F m hmF
                      obtain ⟨pd1, pd2, pd3⟩ := p10_div (m := m) (by omega)
                      have pp := p10_pos (5 - m)
                      have i1 : ((q0 + 1 + m : Nat) : Int) < (r.length : Int) := by have := HL.out; omega
                      by_cases hdc : isDig (F.getD m 0) = true
                      · generalize F.getD m 0 = c2 at *
                        obtain ⟨d1, d2⟩ := isDig_iff.1 hdc
                        have d1' : (48 : Int) ≤ (c2.toNat : Int) := by omega
                        have d2' : (c2.toNat : Int) ≤ 57 := by omega
                        have HS : Hid (min v 1000000000001 * 1000000 + val (F.take (m + 1)) * p10 (6 - (m + 1)) = min v 1000000000001 * 1000000 + val (F.take m) * p10 (6 - m) + p10 (5 - m) * ((c2.toNat : Int) - 48)) := by
                          show _ = _
                          rw [HV.out, val_snoc, show 6 - (m + 1) = 5 - m by omega, pd2, Int.add_mul, Int.mul_assoc, Int.mul_comm 10, Int.mul_comm ((c2.toNat : Int) - 48)]; omega
                        have HA : Hid ((F.take (m + 1)).all isDig = true) := by show _ = _; rw [HV.out, List.all_append, hdm]; simp [hdc]
                        have PD := hide pd1
                        have z1 : 0 ≤ p10 (5 - m) * ((c2.toNat : Int) - 48) := Int.mul_nonneg (by omega) (by omega)
                        have z2 : p10 (5 - m) * ((c2.toNat : Int) - 48) ≤ 100000 * 9 := Int.mul_le_mul pd3 (by omega) (by omega) (by omega)
                        have HP : Hid (p10 (6 - (m + 1)) = p10 (5 - m)) := by show _ = _; rw [show 6 - (m + 1) = 5 - m by omega]
                        generalize val (F.take m) * p10 (6 - m) = fr at *
                        generalize p10 (5 - m) = t5 at *
                        have t6 : p10 (6 - m) / 10 = t5 := PD.out
                        have t7 : 0 ≤ p10 (6 - m) := Int.le_of_lt (p10_pos _)
                        have t8 : p10 (6 - m) ≤ 1000000 := by omega
                        clear pd2 pd1 d1 d2 HV HB0
                        go_wp2_with (go_at_call 72; refine (rdigit_any _ _).mono ?_; rintro e w' ⟨rfl, rfl⟩)
                        go_round
                        case rel => exact ⟨m + 1, by omega, by go_num, by rw [HP.out, PD.out], by rw [HS.out], HA.out⟩
                        case measure => have := HL.out; simp [intOf]; omega
                      · have hdc' : isDig (F.getD m 0) = false := by simpa using hdc
                        have HB : Hid (bodyR false r = (0, 5)) := by
                          show bodyR false r = _
                          rw [HB0.out, body_dot_no hW]
                          have : digB F = false := by
                            unfold digB
                            have h1 : F.all isDig = false := by
                              rw [List.all_eq_false]
                              refine ⟨F.getD m 0, ?_, hdc⟩
                              rw [List.getD_eq_getElem?_getD, List.getElem?_eq_getElem hmF]; simp
                            rw [h1]; rfl
                          rw [this]; rfl
                        generalize F.getD m 0 = c2 at *
                        clear HV hdc HB0 hdm fb0 fb1 pd1 pd2 pd3 pp
                        go_wp2_with (go_at_call 72; refine (rdigit_any _ _).mono ?_; rintro e w' ⟨rfl, rfl⟩)
                        go_ret2
                        exact ⟨by rw [HB.out]; rfl, rfl⟩
                    · have em : m = F.length := by omega
                      subst em
                      rw [List.take_of_length_le (Nat.le_refl _)] at hdm fb0 fb1 ⊢
                      have HB := hide (body_dot (neg := false) hW hWn hdm hFn h6)
                      rw [← HB0.out, hvW] at HB
                      have i1 : ¬ ((q0 + 1 + F.length : Nat) : Int) < (r.length : Int) := by have := HL.out; omega
                      generalize val F * p10 (6 - F.length) = fr at *
                      clear HB0 hvW hW
                      by_cases hov : 1000000000000 < v
                      · have hM : 1000000000000000000 < v * 1000000 + fr := by omega
                        rw [if_pos hM] at HB
                        clear hM
                        go_wp2
                        go_ret2
                        exact ⟨by rw [HB.out]; rfl, rfl⟩
                      · have hmin : min v 1000000000001 = v := by omega
                        by_cases hM : 1000000000000000000 < v * 1000000 + fr
                        · rw [if_pos hM] at HB
                          go_wp2
                          go_ret2
                          exact ⟨by rw [HB.out]; rfl, rfl⟩
                        · rw [if_neg hM] at HB
                          go_wp2
                          go_ret2
                          exact ⟨by rw [HB.out]; rfl, rfl⟩
                · have HB : Hid (bodyR false r = (0, 5)) := by
                    show bodyR false r = _
                    rw [HB0.out]
                    exact body_dot_no hW (by simp [h6])
                  have i3 : 6 < (r.length : Int) - (q0 : Int) - 1 := by omega
                  clear HB0 hvW hW hF hFl hF0
                  go_wp2_with (go_at_call 72; refine (rdigit_dot _).mono ?_; rintro e w' ⟨rfl, rfl⟩)
                  go_ret2
                  exact ⟨by rw [HB.out]; rfl, rfl⟩
            · have HB : Hid (bodyR false r = (0, 5)) := by
                show bodyR false r = _
                rw [HSp.out]; exact body_bad hW hdc h46
              have t46 : (((r.getD q0 0).toNat : Int) != 46) = true := by
                rw [bne_iff_ne]
                intro e
                have e46 : (46 : UInt8).toNat = 46 := rfl
                exact h46 (UInt8.toNat_inj.1 (by omega))
              generalize r.getD q0 0 = c at *
              clear h46 HSp hvW hW
              go_wp2_with (go_at_call 72; refine (rdigit_any _ _).mono ?_; rintro e w' ⟨rfl, rfl⟩)
              go_ret2
              exact ⟨by rw [HB.out]; rfl, rfl⟩
end
section
open Go.RowKit
/-- The cell that the search reads holds some number. -/
def CellOk (w : World) : Prop := ∃ m, w.cell? ⟨2, 0, none⟩ = some (.int .i64 m)
theorem cellOk_below {w w' : World} (h : CellOk w) (hb : Below w.heap.size w w') : CellOk w' := by
  obtain ⟨m, hm⟩ := h
  exact ⟨m, cell_later hb hm⟩
theorem parse_at (s : ByteArray) (w : World) (hc : CellOk w) (hs : s.size ≤ maxLen) :
    Calls Tryd.prog 45 #[.string s] w fun e w' => e = .returned (.tuple #[.int .i64 (parseR s.data.toList).1, .int .i64 (parseR s.data.toList).2]) ∧ Below w.heap.size w w' := by
  obtain ⟨m, hm⟩ := hc
  exact parse_any s w m hm hs
end
section
open Go.RowKit
set_option maxHeartbeats 400000 in
theorem rparse_long (s : ByteArray) (w : World) (h : 40 < s.size) (hs : s.size ≤ maxLen) :
    Calls Tryd.prog 53 #[.string s] w fun e w' => e = .returned (.tuple #[.int .i64 0, .int .i64 5]) ∧ w' = w := by
  unfold maxLen at hs
  go_enter Tryd.func53, Tryd.ntmps53
  go_wp2
  go_ret2
  exact ⟨rfl, rfl⟩
theorem rparse_any (s : ByteArray) (w : World) (hs : s.size ≤ maxLen) :
    Calls Tryd.prog 53 #[.string s] w fun e w' => e = .returned (.tuple #[.int .i64 (parseR s.data.toList).1, .int .i64 (parseR s.data.toList).2]) ∧ w' = w := by
  obtain ⟨l, rfl⟩ : ∃ l : List UInt8, s = ⟨l.toArray⟩ := ⟨s.data.toList, Go.WideShapes.bytes_inj (by simp)⟩
  have hl : (⟨l.toArray⟩ : ByteArray).size = l.length := by show l.toArray.size = _; rw [List.size_toArray]
  have hd : (⟨l.toArray⟩ : ByteArray).data.toList = l := rfl
  rw [hd]
  by_cases h40 : 40 < l.length
  · rw [show parseR l = (0, 5) from by unfold parseR; rw [if_pos h40]]
    exact rparse_long _ w (by omega) hs
  · rw [parse_body (by omega)]
    match l, h40 with
    | [], _ => exact rparse_pos [] w (by simp) (by decide)
    | c :: r, h40 =>
      by_cases hc : c = 45
      · subst hc
        have e1 : Lib.hasPrefix (45 :: r) [45] = true := by simp [Lib.hasPrefix, List.isPrefixOf]
        have e2 : Lib.trimPrefix (45 :: r) [45] = r := by simp [Lib.trimPrefix, e1]
        rw [e1, e2]
        exact rparse_neg r w (by simp at h40; omega)
      · have e1 : Lib.hasPrefix (c :: r) [45] = false := by
          have : (45 : UInt8) ≠ c := fun e => hc e.symm
          simp [Lib.hasPrefix, List.isPrefixOf, this]
        have e2 : Lib.trimPrefix (c :: r) [45] = c :: r := by simp [Lib.trimPrefix, e1]
        rw [e1, e2]
        exact rparse_pos (c :: r) w (by omega) hc
end
end Go.Proofs.YtpghgjibpbimeaaDoor
