/-
  Out of Pt12, what is asked for (laid by pack9.py).
-/
import Derived.Test.YtklldmidcmfbdaaGreatDoorVPla
import Derived.Test.YtklldmidcmfbdaaGreatDoorVPla5
import Derived.Test.YtklldmidcmfbdaaGreatDoorVPla6
import Derived.Deep.RegionHeld3
import Derived.Laws.IdiomStrings
import Derived.Lib.AppendIntMem
import Derived.Lib.AtoiErrMem
import Derived.Lib.MinMax
import Derived.Lib.OthersKept
import Derived.Lib.SmallJoins
import Derived.LoopN
import Derived.LoopTactic
import Derived.WalkKit
import Derived.WalkLawsBesides
import Derived.WalkSpells
namespace Go.Proofs.YtklldmidcmfbdaaGreatDoor.Pla
section
open Go.RowKit
theorem ext_le (s : ByteArray) (a b : Nat) : (s.extract a b).size ≤ s.size := by rw [ByteArray.size_extract]; omega
set_option maxRecDepth 100000 in
set_option maxHeartbeats 3000000 in
theorem rparse_any (s : ByteArray) (w : World) (hs : s.size ≤ maxLen) :
    Calls Tryz.prog 108 #[.string s] w fun e w' => e = .returned (.tuple #[.agg #[.int .i64 (parseR s.data.toList).1, .int .i64 (parseR s.data.toList).2.1, .bool (parseR s.data.toList).2.2.1, .bool (parseR s.data.toList).2.2.2.1], .int .i64 (parseR s.data.toList).2.2.2.2]) ∧ Below w.heap.size w w' := by
  obtain ⟨S1, hS1⟩ : ∃ S1 : ByteArray, S1 = ⟨(p1 s.data.toList).toArray⟩ := ⟨_, rfl⟩
  have HS1 : Hid (S1.data.toList = (p1 s.data.toList)) := by show S1.data.toList = _; rw [hS1]
  have HL1 : Hid ((p1 s.data.toList).length = S1.size) := by show _ = _; rw [← HS1.out]; simp
  have HSZ : Hid (S1.size ≤ maxLen) := by
    have h1 := HL1.out
    have h2 : (p1 s.data.toList).length ≤ s.data.toList.length := rest_len _ _ _
    have h3 : s.data.toList.length = s.size := by simp
    show S1.size ≤ maxLen; omega
  have HD1 : Hid (∀ W : World, Calls Tryz.prog 113 #[.string s] W fun e w' => e = .returned (.tuple #[.string S1, .bool (pFixC s.data.toList)]) ∧ w' = W) := fun W => by
    have := rdollar_any s W hs
    rw [show rest fixB 1 s.data.toList = p1 s.data.toList from rfl, ← hS1] at this
    exact this
  have HCo : Hid (∀ (k : Nat) (W : World), Calls Tryz.prog 115 #[.string (S1.extract 0 k)] W fun e w' => e = .returned (.tuple #[.int .i64 (columnR ((p1 s.data.toList).take k)).1, .int .i64 (columnR ((p1 s.data.toList).take k)).2]) ∧ w' = W) := fun k W => by
    have := rcolumn_any (S1.extract 0 k) W (Nat.le_trans (ext_le _ _ _) HSZ.out)
    rw [str_take, HS1.out] at this
    exact this
  have hsz1 : S1.size ≤ 9223372036854775807 := by have h2 := HSZ.out; unfold maxLen at h2; omega
  clear hS1 hs
  go_enter Tryz.func108, Tryz.ntmps108
  go_wp2_with (first | (go_at_call_of 113 [Value.string s]; refine (HD1.out _).mono ?_; rintro e wz ⟨rfl, hz⟩; subst wz))
  go_loop [5] (fun nv => ∃ k : Nat, k ≤ S1.size ∧ nv = .int .i64 k ∧ ((p1 s.data.toList).take k).all letB = true) (fun nv => S1.size - (intOf nv).toNat)
  case atStart => exact ⟨0, Nat.zero_le _, rfl, by simp⟩
  case round =>
    obtain ⟨k, hk, rfl, ha⟩ := hrel
    have HA := hide ha
    clear ha
    by_cases hlt : k < S1.size
    · have hlt' : (k : Int) < (S1.size : Int) := by omega
      have hkl : k < (p1 s.data.toList).length := by rw [HL1.out]; exact hlt
      have eb : S1[k] = (p1 s.data.toList)[k]'hkl := by simp only [← HS1.out]; rw [ByteArray.getElem_eq_getElem_data, Array.getElem_toList]
      have HTK := hide (List.take_succ_eq_append_getElem (l := (p1 s.data.toList)) (i := k) hkl)
      cases hp : letB S1[k]
      · have hz := letN_no hp
        have HNL : Hid (∀ h : k < (p1 s.data.toList).length, letB (p1 s.data.toList)[k] = false) := fun _ => by rw [← eb]; exact hp
        have hgt : ¬ ((letN S1[k] : Nat) : Int) > 0 := by omega
        clear eb hp hz HTK hkl
        by_cases hk0 : k = 0
        · have HK0 := hide hk0
          clear hk0
          have HZ : Hid (parseR s.data.toList = (0, 0, false, false, 5)) := by have h0 := HK0.out; have h1 := HNL.out; subst h0; exact none_let h1
          have HCo : Hid (∀ (k' : Nat) (W : World), Calls Tryz.prog 115 #[.string (S1.extract 0 k)] W fun e w' => e = .returned (.tuple #[.int .i64 0, .int .i64 5]) ∧ w' = W) := fun _ W => by
            have h0 := HK0.out; have := HCo.out k W; rw [columnR_len (l := (p1 s.data.toList).take k) (Or.inl (by rw [h0]; simp))] at this; exact this
          go_wp2_with (first | (go_at_call 114; refine (rletter_any _ _).mono ?_; rintro e wz ⟨rfl, hz⟩; subst wz) | (go_at_call 115; refine (HCo.out k _).mono ?_; rintro e wz ⟨rfl, hz⟩; subst wz))
          refine bodyPost_ret (v := .tuple #[.agg #[.int .i64 0, .int .i64 0, .bool false, .bool false], .int .i64 5]) (by simp [results, Tryz.results108, go_sem]) rfl ⟨by rw [HZ.out], ?_⟩
          repeat' (first | with_reducible exact Below.refl _ _ | with_reducible refine Below.setCell ?_ ?_ _ | with_reducible refine Below.alloc ?_ ?_ _ | with_reducible refine below_drewN ?_ _ | with_reducible refine Below.drew ?_ | with_reducible refine Below.trans ?_ (Below.mono (by assumption) ?_) | with_reducible exact Nat.le_refl _ | with_reducible refine Nat.le_trans ?_ (Below.size (by assumption)) | with_reducible refine Nat.le_trans ?_ (size_alloc _ _) | with_reducible refine Nat.le_trans ?_ (size_set _ _ _) | with_reducible refine Nat.le_trans ?_ (size_drewN _ _) | with_reducible refine Nat.le_trans ?_ (size_drew _) | (simp; done) | (simp; omega) | omega)
        · by_cases hk3 : 3 < k
          · have HZ : Hid (parseR s.data.toList = (0, 0, false, false, 5)) := four_let (by have := HL1.out; omega) hk3 HA.out
            have HCo : Hid (∀ (k' : Nat) (W : World), Calls Tryz.prog 115 #[.string (S1.extract 0 k)] W fun e w' => e = .returned (.tuple #[.int .i64 0, .int .i64 5]) ∧ w' = W) := fun _ W => by
              have := HCo.out k W; rw [columnR_len (l := (p1 s.data.toList).take k) (Or.inr (by have := HL1.out; rw [List.length_take]; omega))] at this; exact this
            go_wp2_with (first | (go_at_call 114; refine (rletter_any _ _).mono ?_; rintro e wz ⟨rfl, hz⟩; subst wz) | (go_at_call 115; refine (HCo.out k _).mono ?_; rintro e wz ⟨rfl, hz⟩; subst wz))
            refine bodyPost_ret (v := .tuple #[.agg #[.int .i64 0, .int .i64 0, .bool false, .bool false], .int .i64 5]) (by simp [results, Tryz.results108, go_sem]) rfl ⟨by rw [HZ.out], ?_⟩
            repeat' (first | with_reducible exact Below.refl _ _ | with_reducible refine Below.setCell ?_ ?_ _ | with_reducible refine Below.alloc ?_ ?_ _ | with_reducible refine below_drewN ?_ _ | with_reducible refine Below.drew ?_ | with_reducible refine Below.trans ?_ (Below.mono (by assumption) ?_) | with_reducible exact Nat.le_refl _ | with_reducible refine Nat.le_trans ?_ (Below.size (by assumption)) | with_reducible refine Nat.le_trans ?_ (size_alloc _ _) | with_reducible refine Nat.le_trans ?_ (size_set _ _ _) | with_reducible refine Nat.le_trans ?_ (size_drewN _ _) | with_reducible refine Nat.le_trans ?_ (size_drew _) | (simp; done) | (simp; omega) | omega)
          · have hsome := some_let (by have := HL1.out; omega) (by omega) HA.out (fun h => HNL.out h)
            have hcg := columnR_good (l := (p1 s.data.toList).take k) (by intro e; have h1 := congrArg List.length e; have := HL1.out; rw [List.length_take, List.length_nil] at h1; omega) (by have := HL1.out; rw [List.length_take]; omega) HA.out
            have hcp := col_pos (by intro e; have h1 := congrArg List.length e; have := HL1.out; rw [List.length_take, List.length_nil] at h1; omega) HA.out
            rw [← hsome.1] at hcg hcp
            have HC2 : Hid (∀ (k' : Nat) (W : World), Calls Tryz.prog 115 #[.string (S1.extract 0 k)] W fun e w' => e = .returned (.tuple #[.int .i64 (if pCol s.data.toList > 16384 then ((0 : Int), (11 : Int)) else ((pCol s.data.toList : Int), 0)).1, .int .i64 (if pCol s.data.toList > 16384 then ((0 : Int), (11 : Int)) else ((pCol s.data.toList : Int), 0)).2]) ∧ w' = W) := fun _ W => by
              have := HCo.out k W; rw [hcg] at this; exact this
            have HD2 : Hid (∀ W : World, Calls Tryz.prog 113 #[.string (S1.extract k S1.size)] W fun e w' => e = .returned (.tuple #[.string ⟨(p3 s.data.toList).toArray⟩, .bool (pFixR s.data.toList)]) ∧ w' = W) := fun W => by
              have := rdollar_any (S1.extract k S1.size) W (Nat.le_trans (ext_le _ _ _) HSZ.out)
              rw [str_drop, HS1.out, ← hsome.2] at this
              exact this
            have hF5 := bad_len (l := s.data.toList)
            have hF6 := bad_nought (l := s.data.toList)
            have hF7 := fun k => bad_digit (l := s.data.toList) (k := k)
            have hF8 := fun h0 h7 hn ha => good_digits (l := s.data.toList) h0 h7 hn ha (by omega)
            have HF5 := hide hF5; have HF6 := hide hF6; have HF7 := hide hF7; have HF8 := hide hF8
            clear hF5 hF6 hF7 hF8
            have HCB := hide (col_bd ((p1 s.data.toList).take k) HA.out (by rw [List.length_take]; omega))
            rw [← hsome.1] at HCB
            clear HCo hcg hsome
            have HCo := HC2
            clear HC2
            obtain ⟨S2, hS2⟩ : ∃ S2 : ByteArray, S2 = ⟨(p3 s.data.toList).toArray⟩ := ⟨_, rfl⟩
            have HS2 : Hid (S2.data.toList = (p3 s.data.toList)) := by show S2.data.toList = _; rw [hS2]
            have HL3 : Hid ((p3 s.data.toList).length = S2.size) := by show _ = _; rw [← HS2.out]; simp
            have HSZ2 : Hid (S2.size ≤ S1.size) := by
              have h1 := HL3.out
              have h2 : (p3 s.data.toList).length ≤ (p2 s.data.toList).length := rest_len _ _ _
              have h3 : (p2 s.data.toList).length ≤ (p1 s.data.toList).length := rest_len _ _ _
              have h4 := HL1.out; show S2.size ≤ S1.size; omega
            rw [← hS2] at HD2
            clear hS2
            generalize pFixR s.data.toList = Y at *
            generalize pCol s.data.toList = Cl at *
            have hsz2 : S2.size ≤ 9223372036854775807 := by have h1 := HSZ2.out; have h2 := HSZ.out; unfold maxLen at h2; omega
            by_cases hbig : Cl > 16384
            · rw [if_pos hbig] at HCo
              by_cases q0 : S2.size = 0
              · have HZ : Hid (parseR s.data.toList = (0, 0, false, false, 5)) := HF5.out (Or.inl (by rw [HL3.out]; exact q0))
                have e0 : ((S2.size : Int) == 0) = true := by rw [q0]; rfl
                go_wp2_with (first | (go_at_call 114; refine (rletter_any _ _).mono ?_; rintro e wz ⟨rfl, hz⟩; subst wz) | (go_at_call 115; refine (HCo.out k _).mono ?_; rintro e wz ⟨rfl, hz⟩; subst wz) | (go_at_call 113; refine (HD2.out _).mono ?_; rintro e wz ⟨rfl, hz⟩; subst wz))
                refine bodyPost_ret (v := .tuple #[.agg #[.int .i64 0, .int .i64 0, .bool false, .bool false], .int .i64 5]) (by simp [results, Tryz.results108, go_sem]) rfl ⟨by rw [HZ.out], ?_⟩
                repeat' (first | with_reducible exact Below.refl _ _ | with_reducible refine Below.setCell ?_ ?_ _ | with_reducible refine Below.alloc ?_ ?_ _ | with_reducible refine below_drewN ?_ _ | with_reducible refine Below.drew ?_ | with_reducible refine Below.trans ?_ (Below.mono (by assumption) ?_) | with_reducible exact Nat.le_refl _ | with_reducible refine Nat.le_trans ?_ (Below.size (by assumption)) | with_reducible refine Nat.le_trans ?_ (size_alloc _ _) | with_reducible refine Nat.le_trans ?_ (size_set _ _ _) | with_reducible refine Nat.le_trans ?_ (size_drewN _ _) | with_reducible refine Nat.le_trans ?_ (size_drew _) | (simp; done) | (simp; omega) | omega)
              · have e0 : ((S2.size : Int) == 0) = false := by rw [beq_eq_false_iff_ne]; omega
                have hpos : 0 < S2.size := by omega
                by_cases q7 : (S2.size : Int) > 7
                · have HZ : Hid (parseR s.data.toList = (0, 0, false, false, 5)) := HF5.out (Or.inr (by rw [HL3.out]; omega))
                  go_wp2_with (first | (go_at_call 114; refine (rletter_any _ _).mono ?_; rintro e wz ⟨rfl, hz⟩; subst wz) | (go_at_call 115; refine (HCo.out k _).mono ?_; rintro e wz ⟨rfl, hz⟩; subst wz) | (go_at_call 113; refine (HD2.out _).mono ?_; rintro e wz ⟨rfl, hz⟩; subst wz))
                  refine bodyPost_ret (v := .tuple #[.agg #[.int .i64 0, .int .i64 0, .bool false, .bool false], .int .i64 5]) (by simp [results, Tryz.results108, go_sem]) rfl ⟨by rw [HZ.out], ?_⟩
                  repeat' (first | with_reducible exact Below.refl _ _ | with_reducible refine Below.setCell ?_ ?_ _ | with_reducible refine Below.alloc ?_ ?_ _ | with_reducible refine below_drewN ?_ _ | with_reducible refine Below.drew ?_ | with_reducible refine Below.trans ?_ (Below.mono (by assumption) ?_) | with_reducible exact Nat.le_refl _ | with_reducible refine Nat.le_trans ?_ (Below.size (by assumption)) | with_reducible refine Nat.le_trans ?_ (size_alloc _ _) | with_reducible refine Nat.le_trans ?_ (size_set _ _ _) | with_reducible refine Nat.le_trans ?_ (size_drewN _ _) | with_reducible refine Nat.le_trans ?_ (size_drew _) | (simp; done) | (simp; omega) | omega)
                · have eb0 : S2[0] = (p3 s.data.toList)[0]'(by rw [HL3.out]; omega) := by simp only [← HS2.out]; rw [ByteArray.getElem_eq_getElem_data, Array.getElem_toList]
                  have EB0 := hide eb0; clear eb0
                  by_cases q48 : S2[0].toNat = 48
                  · have HZ : Hid (parseR s.data.toList = (0, 0, false, false, 5)) := HF6.out (by rw [HL3.out]; omega) (by rw [← EB0.out]; exact q48)
                    have e48 : ((S2[0].toNat : Int) == 48) = true := by rw [q48]; rfl
                    go_wp2_with (first | (go_at_call 114; refine (rletter_any _ _).mono ?_; rintro e wz ⟨rfl, hz⟩; subst wz) | (go_at_call 115; refine (HCo.out k _).mono ?_; rintro e wz ⟨rfl, hz⟩; subst wz) | (go_at_call 113; refine (HD2.out _).mono ?_; rintro e wz ⟨rfl, hz⟩; subst wz))
                    refine bodyPost_ret (v := .tuple #[.agg #[.int .i64 0, .int .i64 0, .bool false, .bool false], .int .i64 5]) (by simp [results, Tryz.results108, go_sem]) rfl ⟨by rw [HZ.out], ?_⟩
                    repeat' (first | with_reducible exact Below.refl _ _ | with_reducible refine Below.setCell ?_ ?_ _ | with_reducible refine Below.alloc ?_ ?_ _ | with_reducible refine below_drewN ?_ _ | with_reducible refine Below.drew ?_ | with_reducible refine Below.trans ?_ (Below.mono (by assumption) ?_) | with_reducible exact Nat.le_refl _ | with_reducible refine Nat.le_trans ?_ (Below.size (by assumption)) | with_reducible refine Nat.le_trans ?_ (size_alloc _ _) | with_reducible refine Nat.le_trans ?_ (size_set _ _ _) | with_reducible refine Nat.le_trans ?_ (size_drewN _ _) | with_reducible refine Nat.le_trans ?_ (size_drew _) | (simp; done) | (simp; omega) | omega)
                  · have e48 : ((S2[0].toNat : Int) == 48) = false := by rw [beq_eq_false_iff_ne]; omega
                    go_wp2_with (first | (go_at_call 114; refine (rletter_any _ _).mono ?_; rintro e wz ⟨rfl, hz⟩; subst wz) | (go_at_call 115; refine (HCo.out k _).mono ?_; rintro e wz ⟨rfl, hz⟩; subst wz) | (go_at_call 113; refine (HD2.out _).mono ?_; rintro e wz ⟨rfl, hz⟩; subst wz))
                    go_loop [9, 10] (fun rv iv => ∃ j : Nat, j ≤ S2.size ∧ iv = .int .i64 j ∧ rv = .int .i64 (decV ((p3 s.data.toList).take j)) ∧ ((p3 s.data.toList).take j).all digB = true) (fun _ iv => S2.size - (intOf iv).toNat)
                    case atStart => exact ⟨0, Nat.zero_le _, rfl, rfl, by simp⟩
                    case round =>
                      obtain ⟨j, hj, rfl, rfl, hda⟩ := hrel
                      have HDA := hide hda; clear hda
                      have hdb : decV ((p3 s.data.toList).take j) < 10000000 := Nat.lt_of_lt_of_le (dec_bd _ HDA.out) (Nat.le_trans (Nat.pow_le_pow_right (by decide) (show ((p3 s.data.toList).take j).length ≤ 7 by have := HL3.out; rw [List.length_take]; omega)) (by decide))
                      by_cases hlt : j < S2.size
                      · have hlt' : (j : Int) < (S2.size : Int) := by omega
                        have hjl : j < (p3 s.data.toList).length := by rw [HL3.out]; exact hlt
                        have eb : S2[j] = (p3 s.data.toList)[j]'hjl := by simp only [← HS2.out]; rw [ByteArray.getElem_eq_getElem_data, Array.getElem_toList]
                        have HST := hide (dec_take hjl)
                        have HTK := hide (List.take_succ_eq_append_getElem (l := (p3 s.data.toList)) (i := j) hjl)
                        have HB7 := hide (HF7.out j hjl)
                        rw [← eb] at HST HTK HB7
                        clear eb
                        have hu : S2[j].toNat < 256 := UInt8.toNat_lt _
                        by_cases d1 : (S2[j].toNat : Int) < 48
                        · have HZ : Hid (parseR s.data.toList = (0, 0, false, false, 5)) := HB7.out (by rw [digB_no]; omega)
                          go_wp2
                          refine bodyPost_ret (v := .tuple #[.agg #[.int .i64 0, .int .i64 0, .bool false, .bool false], .int .i64 5]) (by simp [results, Tryz.results108, go_sem]) rfl ⟨by rw [HZ.out], ?_⟩
                          repeat' (first | with_reducible exact Below.refl _ _ | with_reducible refine Below.setCell ?_ ?_ _ | with_reducible refine Below.alloc ?_ ?_ _ | with_reducible refine below_drewN ?_ _ | with_reducible refine Below.drew ?_ | with_reducible refine Below.trans ?_ (Below.mono (by assumption) ?_) | with_reducible exact Nat.le_refl _ | with_reducible refine Nat.le_trans ?_ (Below.size (by assumption)) | with_reducible refine Nat.le_trans ?_ (size_alloc _ _) | with_reducible refine Nat.le_trans ?_ (size_set _ _ _) | with_reducible refine Nat.le_trans ?_ (size_drewN _ _) | with_reducible refine Nat.le_trans ?_ (size_drew _) | (simp; done) | (simp; omega) | omega)
                        · by_cases d2 : (S2[j].toNat : Int) > 57
                          · have HZ : Hid (parseR s.data.toList = (0, 0, false, false, 5)) := HB7.out (by rw [digB_no]; omega)
                            go_wp2
                            refine bodyPost_ret (v := .tuple #[.agg #[.int .i64 0, .int .i64 0, .bool false, .bool false], .int .i64 5]) (by simp [results, Tryz.results108, go_sem]) rfl ⟨by rw [HZ.out], ?_⟩
                            repeat' (first | with_reducible exact Below.refl _ _ | with_reducible refine Below.setCell ?_ ?_ _ | with_reducible refine Below.alloc ?_ ?_ _ | with_reducible refine below_drewN ?_ _ | with_reducible refine Below.drew ?_ | with_reducible refine Below.trans ?_ (Below.mono (by assumption) ?_) | with_reducible exact Nat.le_refl _ | with_reducible refine Nat.le_trans ?_ (Below.size (by assumption)) | with_reducible refine Nat.le_trans ?_ (size_alloc _ _) | with_reducible refine Nat.le_trans ?_ (size_set _ _ _) | with_reducible refine Nat.le_trans ?_ (size_drewN _ _) | with_reducible refine Nat.le_trans ?_ (size_drew _) | (simp; done) | (simp; omega) | omega)
                          · have HDG : Hid (digB S2[j] = true) := digB_iff.2 (by omega)
                            generalize decV ((p3 s.data.toList).take j) = R at *
                            go_wp2
                            go_round
                            case rel =>
                              refine ⟨j + 1, by omega, by go_num, ?_, ?_⟩
                              · rw [HST.out]; first | go_num | (congr 1; omega)
                              · rw [HTK.out, List.all_append, HDA.out]; simp [HDG.out]
                            case measure => simp [intOf]; omega
                      · have hlt' : ¬ (j : Int) < (S2.size : Int) := by omega
                        have hjj : (p3 s.data.toList).take j = (p3 s.data.toList) := List.take_of_length_le (by rw [HL3.out]; omega)
                        have hgd := HF8.out (by rw [HL3.out]; omega) (by rw [HL3.out]; omega) (by rw [← EB0.out]; exact q48) (by rw [← hjj]; exact HDA.out)
                        have hpd : 1 ≤ decV (p3 s.data.toList) := dec_pos (by rw [HL3.out]; omega) (by rw [← EB0.out]; exact q48) (by rw [← hjj]; exact HDA.out)
                        rw [show decV (p3 s.data.toList) = decV ((p3 s.data.toList).take j) by rw [hjj]] at hgd hpd
                        have HGD := hide hgd
                        clear hgd hjj
                        generalize decV ((p3 s.data.toList).take j) = R at *
                        have HZ : Hid (parseR s.data.toList = (0, 0, false, false, 11)) := by have := HGD.out; rw [placeB_no.2 (by omega)] at this; exact this
                        go_wp2
                        refine bodyPost_ret (v := .tuple #[.agg #[.int .i64 0, .int .i64 0, .bool false, .bool false], .int .i64 11]) (by simp [results, Tryz.results108, go_sem]) rfl ⟨by rw [HZ.out], ?_⟩
                        repeat' (first | with_reducible exact Below.refl _ _ | with_reducible refine Below.setCell ?_ ?_ _ | with_reducible refine Below.alloc ?_ ?_ _ | with_reducible refine below_drewN ?_ _ | with_reducible refine Below.drew ?_ | with_reducible refine Below.trans ?_ (Below.mono (by assumption) ?_) | with_reducible exact Nat.le_refl _ | with_reducible refine Nat.le_trans ?_ (Below.size (by assumption)) | with_reducible refine Nat.le_trans ?_ (size_alloc _ _) | with_reducible refine Nat.le_trans ?_ (size_set _ _ _) | with_reducible refine Nat.le_trans ?_ (size_drewN _ _) | with_reducible refine Nat.le_trans ?_ (size_drew _) | (simp; done) | (simp; omega) | omega)
            · rw [if_neg hbig] at HCo
              by_cases q0 : S2.size = 0
              · have HZ : Hid (parseR s.data.toList = (0, 0, false, false, 5)) := HF5.out (Or.inl (by rw [HL3.out]; exact q0))
                have e0 : ((S2.size : Int) == 0) = true := by rw [q0]; rfl
                go_wp2_with (first | (go_at_call 114; refine (rletter_any _ _).mono ?_; rintro e wz ⟨rfl, hz⟩; subst wz) | (go_at_call 115; refine (HCo.out k _).mono ?_; rintro e wz ⟨rfl, hz⟩; subst wz) | (go_at_call 113; refine (HD2.out _).mono ?_; rintro e wz ⟨rfl, hz⟩; subst wz))
                refine bodyPost_ret (v := .tuple #[.agg #[.int .i64 0, .int .i64 0, .bool false, .bool false], .int .i64 5]) (by simp [results, Tryz.results108, go_sem]) rfl ⟨by rw [HZ.out], ?_⟩
                repeat' (first | with_reducible exact Below.refl _ _ | with_reducible refine Below.setCell ?_ ?_ _ | with_reducible refine Below.alloc ?_ ?_ _ | with_reducible refine below_drewN ?_ _ | with_reducible refine Below.drew ?_ | with_reducible refine Below.trans ?_ (Below.mono (by assumption) ?_) | with_reducible exact Nat.le_refl _ | with_reducible refine Nat.le_trans ?_ (Below.size (by assumption)) | with_reducible refine Nat.le_trans ?_ (size_alloc _ _) | with_reducible refine Nat.le_trans ?_ (size_set _ _ _) | with_reducible refine Nat.le_trans ?_ (size_drewN _ _) | with_reducible refine Nat.le_trans ?_ (size_drew _) | (simp; done) | (simp; omega) | omega)
              · have e0 : ((S2.size : Int) == 0) = false := by rw [beq_eq_false_iff_ne]; omega
                have hpos : 0 < S2.size := by omega
                by_cases q7 : (S2.size : Int) > 7
                · have HZ : Hid (parseR s.data.toList = (0, 0, false, false, 5)) := HF5.out (Or.inr (by rw [HL3.out]; omega))
                  go_wp2_with (first | (go_at_call 114; refine (rletter_any _ _).mono ?_; rintro e wz ⟨rfl, hz⟩; subst wz) | (go_at_call 115; refine (HCo.out k _).mono ?_; rintro e wz ⟨rfl, hz⟩; subst wz) | (go_at_call 113; refine (HD2.out _).mono ?_; rintro e wz ⟨rfl, hz⟩; subst wz))
                  refine bodyPost_ret (v := .tuple #[.agg #[.int .i64 0, .int .i64 0, .bool false, .bool false], .int .i64 5]) (by simp [results, Tryz.results108, go_sem]) rfl ⟨by rw [HZ.out], ?_⟩
                  repeat' (first | with_reducible exact Below.refl _ _ | with_reducible refine Below.setCell ?_ ?_ _ | with_reducible refine Below.alloc ?_ ?_ _ | with_reducible refine below_drewN ?_ _ | with_reducible refine Below.drew ?_ | with_reducible refine Below.trans ?_ (Below.mono (by assumption) ?_) | with_reducible exact Nat.le_refl _ | with_reducible refine Nat.le_trans ?_ (Below.size (by assumption)) | with_reducible refine Nat.le_trans ?_ (size_alloc _ _) | with_reducible refine Nat.le_trans ?_ (size_set _ _ _) | with_reducible refine Nat.le_trans ?_ (size_drewN _ _) | with_reducible refine Nat.le_trans ?_ (size_drew _) | (simp; done) | (simp; omega) | omega)
                · have eb0 : S2[0] = (p3 s.data.toList)[0]'(by rw [HL3.out]; omega) := by simp only [← HS2.out]; rw [ByteArray.getElem_eq_getElem_data, Array.getElem_toList]
                  have EB0 := hide eb0; clear eb0
                  by_cases q48 : S2[0].toNat = 48
                  · have HZ : Hid (parseR s.data.toList = (0, 0, false, false, 5)) := HF6.out (by rw [HL3.out]; omega) (by rw [← EB0.out]; exact q48)
                    have e48 : ((S2[0].toNat : Int) == 48) = true := by rw [q48]; rfl
                    go_wp2_with (first | (go_at_call 114; refine (rletter_any _ _).mono ?_; rintro e wz ⟨rfl, hz⟩; subst wz) | (go_at_call 115; refine (HCo.out k _).mono ?_; rintro e wz ⟨rfl, hz⟩; subst wz) | (go_at_call 113; refine (HD2.out _).mono ?_; rintro e wz ⟨rfl, hz⟩; subst wz))
                    refine bodyPost_ret (v := .tuple #[.agg #[.int .i64 0, .int .i64 0, .bool false, .bool false], .int .i64 5]) (by simp [results, Tryz.results108, go_sem]) rfl ⟨by rw [HZ.out], ?_⟩
                    repeat' (first | with_reducible exact Below.refl _ _ | with_reducible refine Below.setCell ?_ ?_ _ | with_reducible refine Below.alloc ?_ ?_ _ | with_reducible refine below_drewN ?_ _ | with_reducible refine Below.drew ?_ | with_reducible refine Below.trans ?_ (Below.mono (by assumption) ?_) | with_reducible exact Nat.le_refl _ | with_reducible refine Nat.le_trans ?_ (Below.size (by assumption)) | with_reducible refine Nat.le_trans ?_ (size_alloc _ _) | with_reducible refine Nat.le_trans ?_ (size_set _ _ _) | with_reducible refine Nat.le_trans ?_ (size_drewN _ _) | with_reducible refine Nat.le_trans ?_ (size_drew _) | (simp; done) | (simp; omega) | omega)
                  · have e48 : ((S2[0].toNat : Int) == 48) = false := by rw [beq_eq_false_iff_ne]; omega
                    go_wp2_with (first | (go_at_call 114; refine (rletter_any _ _).mono ?_; rintro e wz ⟨rfl, hz⟩; subst wz) | (go_at_call 115; refine (HCo.out k _).mono ?_; rintro e wz ⟨rfl, hz⟩; subst wz) | (go_at_call 113; refine (HD2.out _).mono ?_; rintro e wz ⟨rfl, hz⟩; subst wz))
                    go_loop [9, 10] (fun rv iv => ∃ j : Nat, j ≤ S2.size ∧ iv = .int .i64 j ∧ rv = .int .i64 (decV ((p3 s.data.toList).take j)) ∧ ((p3 s.data.toList).take j).all digB = true) (fun _ iv => S2.size - (intOf iv).toNat)
                    case atStart => exact ⟨0, Nat.zero_le _, rfl, rfl, by simp⟩
                    case round =>
                      obtain ⟨j, hj, rfl, rfl, hda⟩ := hrel
                      have HDA := hide hda; clear hda
                      have hdb : decV ((p3 s.data.toList).take j) < 10000000 := Nat.lt_of_lt_of_le (dec_bd _ HDA.out) (Nat.le_trans (Nat.pow_le_pow_right (by decide) (show ((p3 s.data.toList).take j).length ≤ 7 by have := HL3.out; rw [List.length_take]; omega)) (by decide))
                      by_cases hlt : j < S2.size
                      · have hlt' : (j : Int) < (S2.size : Int) := by omega
                        have hjl : j < (p3 s.data.toList).length := by rw [HL3.out]; exact hlt
                        have eb : S2[j] = (p3 s.data.toList)[j]'hjl := by simp only [← HS2.out]; rw [ByteArray.getElem_eq_getElem_data, Array.getElem_toList]
                        have HST := hide (dec_take hjl)
                        have HTK := hide (List.take_succ_eq_append_getElem (l := (p3 s.data.toList)) (i := j) hjl)
                        have HB7 := hide (HF7.out j hjl)
                        rw [← eb] at HST HTK HB7
                        clear eb
                        have hu : S2[j].toNat < 256 := UInt8.toNat_lt _
                        by_cases d1 : (S2[j].toNat : Int) < 48
                        · have HZ : Hid (parseR s.data.toList = (0, 0, false, false, 5)) := HB7.out (by rw [digB_no]; omega)
                          go_wp2
                          refine bodyPost_ret (v := .tuple #[.agg #[.int .i64 0, .int .i64 0, .bool false, .bool false], .int .i64 5]) (by simp [results, Tryz.results108, go_sem]) rfl ⟨by rw [HZ.out], ?_⟩
                          repeat' (first | with_reducible exact Below.refl _ _ | with_reducible refine Below.setCell ?_ ?_ _ | with_reducible refine Below.alloc ?_ ?_ _ | with_reducible refine below_drewN ?_ _ | with_reducible refine Below.drew ?_ | with_reducible refine Below.trans ?_ (Below.mono (by assumption) ?_) | with_reducible exact Nat.le_refl _ | with_reducible refine Nat.le_trans ?_ (Below.size (by assumption)) | with_reducible refine Nat.le_trans ?_ (size_alloc _ _) | with_reducible refine Nat.le_trans ?_ (size_set _ _ _) | with_reducible refine Nat.le_trans ?_ (size_drewN _ _) | with_reducible refine Nat.le_trans ?_ (size_drew _) | (simp; done) | (simp; omega) | omega)
                        · by_cases d2 : (S2[j].toNat : Int) > 57
                          · have HZ : Hid (parseR s.data.toList = (0, 0, false, false, 5)) := HB7.out (by rw [digB_no]; omega)
                            go_wp2
                            refine bodyPost_ret (v := .tuple #[.agg #[.int .i64 0, .int .i64 0, .bool false, .bool false], .int .i64 5]) (by simp [results, Tryz.results108, go_sem]) rfl ⟨by rw [HZ.out], ?_⟩
                            repeat' (first | with_reducible exact Below.refl _ _ | with_reducible refine Below.setCell ?_ ?_ _ | with_reducible refine Below.alloc ?_ ?_ _ | with_reducible refine below_drewN ?_ _ | with_reducible refine Below.drew ?_ | with_reducible refine Below.trans ?_ (Below.mono (by assumption) ?_) | with_reducible exact Nat.le_refl _ | with_reducible refine Nat.le_trans ?_ (Below.size (by assumption)) | with_reducible refine Nat.le_trans ?_ (size_alloc _ _) | with_reducible refine Nat.le_trans ?_ (size_set _ _ _) | with_reducible refine Nat.le_trans ?_ (size_drewN _ _) | with_reducible refine Nat.le_trans ?_ (size_drew _) | (simp; done) | (simp; omega) | omega)
                          · have HDG : Hid (digB S2[j] = true) := digB_iff.2 (by omega)
                            generalize decV ((p3 s.data.toList).take j) = R at *
                            go_wp2
                            go_round
                            case rel =>
                              refine ⟨j + 1, by omega, by go_num, ?_, ?_⟩
                              · rw [HST.out]; first | go_num | (congr 1; omega)
                              · rw [HTK.out, List.all_append, HDA.out]; simp [HDG.out]
                            case measure => simp [intOf]; omega
                      · have hlt' : ¬ (j : Int) < (S2.size : Int) := by omega
                        have hjj : (p3 s.data.toList).take j = (p3 s.data.toList) := List.take_of_length_le (by rw [HL3.out]; omega)
                        have hgd := HF8.out (by rw [HL3.out]; omega) (by rw [HL3.out]; omega) (by rw [← EB0.out]; exact q48) (by rw [← hjj]; exact HDA.out)
                        have hpd : 1 ≤ decV (p3 s.data.toList) := dec_pos (by rw [HL3.out]; omega) (by rw [← EB0.out]; exact q48) (by rw [← hjj]; exact HDA.out)
                        rw [show decV (p3 s.data.toList) = decV ((p3 s.data.toList).take j) by rw [hjj]] at hgd hpd
                        have HGD := hide hgd
                        clear hgd hjj
                        generalize decV ((p3 s.data.toList).take j) = R at *
                        by_cases r1 : (R : Int) > 1048576
                        · have HZ : Hid (parseR s.data.toList = (0, 0, false, false, 11)) := by have := HGD.out; rw [placeB_no.2 (by omega)] at this; exact this
                          go_wp2
                          refine bodyPost_ret (v := .tuple #[.agg #[.int .i64 0, .int .i64 0, .bool false, .bool false], .int .i64 11]) (by simp [results, Tryz.results108, go_sem]) rfl ⟨by rw [HZ.out], ?_⟩
                          repeat' (first | with_reducible exact Below.refl _ _ | with_reducible refine Below.setCell ?_ ?_ _ | with_reducible refine Below.alloc ?_ ?_ _ | with_reducible refine below_drewN ?_ _ | with_reducible refine Below.drew ?_ | with_reducible refine Below.trans ?_ (Below.mono (by assumption) ?_) | with_reducible exact Nat.le_refl _ | with_reducible refine Nat.le_trans ?_ (Below.size (by assumption)) | with_reducible refine Nat.le_trans ?_ (size_alloc _ _) | with_reducible refine Nat.le_trans ?_ (size_set _ _ _) | with_reducible refine Nat.le_trans ?_ (size_drewN _ _) | with_reducible refine Nat.le_trans ?_ (size_drew _) | (simp; done) | (simp; omega) | omega)
                        · have HZ : Hid (parseR s.data.toList = ((R : Int), (Cl : Int), Y, pFixC s.data.toList, 0)) := by have := HGD.out; rw [placeB_iff.2 ⟨by omega, by omega, by omega, by omega⟩] at this; exact this
                          generalize pFixC s.data.toList = X at *
                          go_wp2
                          refine bodyPost_ret (v := .tuple #[.agg #[.int .i64 R, .int .i64 Cl, .bool Y, .bool X], .int .i64 0]) (by simp [results, Tryz.results108, go_sem]) rfl ⟨by rw [HZ.out], ?_⟩
                          repeat' (first | with_reducible exact Below.refl _ _ | with_reducible refine Below.setCell ?_ ?_ _ | with_reducible refine Below.alloc ?_ ?_ _ | with_reducible refine below_drewN ?_ _ | with_reducible refine Below.drew ?_ | with_reducible refine Below.trans ?_ (Below.mono (by assumption) ?_) | with_reducible exact Nat.le_refl _ | with_reducible refine Nat.le_trans ?_ (Below.size (by assumption)) | with_reducible refine Nat.le_trans ?_ (size_alloc _ _) | with_reducible refine Nat.le_trans ?_ (size_set _ _ _) | with_reducible refine Nat.le_trans ?_ (size_drewN _ _) | with_reducible refine Nat.le_trans ?_ (size_drew _) | (simp; done) | (simp; omega) | omega)
      · have hv := letV_bd hp
        have hz := letN_yes hp
        have hgt : ((letN S1[k] : Nat) : Int) > 0 := by omega
        have HP := hide hp
        rw [← eb] at HTK
        clear eb hp hz hv hkl
        go_wp2_with (first | (go_at_call 114; refine (rletter_any _ _).mono ?_; rintro e wz ⟨rfl, hz⟩; subst wz))
        go_round
        case rel =>
          refine ⟨k + 1, by omega, by go_num, ?_⟩
          rw [HTK.out, List.all_append, HA.out]; simp [HP.out]
        case measure => simp [intOf]; omega
    · have hlt' : ¬ (k : Int) < (S1.size : Int) := by omega
      have HNL : Hid (∀ h : k < (p1 s.data.toList).length, letB (p1 s.data.toList)[k] = false) := fun h => by rw [HL1.out] at h; exact absurd h hlt
      by_cases hk0 : k = 0
      · have HK0 := hide hk0
        clear hk0
        have HZ : Hid (parseR s.data.toList = (0, 0, false, false, 5)) := by have h0 := HK0.out; have h1 := HNL.out; subst h0; exact none_let h1
        have HCo : Hid (∀ (k' : Nat) (W : World), Calls Tryz.prog 115 #[.string (S1.extract 0 k)] W fun e w' => e = .returned (.tuple #[.int .i64 0, .int .i64 5]) ∧ w' = W) := fun _ W => by
          have h0 := HK0.out; have := HCo.out k W; rw [columnR_len (l := (p1 s.data.toList).take k) (Or.inl (by rw [h0]; simp))] at this; exact this
        go_wp2_with (first | (go_at_call 115; refine (HCo.out k _).mono ?_; rintro e wz ⟨rfl, hz⟩; subst wz))
        refine bodyPost_ret (v := .tuple #[.agg #[.int .i64 0, .int .i64 0, .bool false, .bool false], .int .i64 5]) (by simp [results, Tryz.results108, go_sem]) rfl ⟨by rw [HZ.out], ?_⟩
        repeat' (first | with_reducible exact Below.refl _ _ | with_reducible refine Below.setCell ?_ ?_ _ | with_reducible refine Below.alloc ?_ ?_ _ | with_reducible refine below_drewN ?_ _ | with_reducible refine Below.drew ?_ | with_reducible refine Below.trans ?_ (Below.mono (by assumption) ?_) | with_reducible exact Nat.le_refl _ | with_reducible refine Nat.le_trans ?_ (Below.size (by assumption)) | with_reducible refine Nat.le_trans ?_ (size_alloc _ _) | with_reducible refine Nat.le_trans ?_ (size_set _ _ _) | with_reducible refine Nat.le_trans ?_ (size_drewN _ _) | with_reducible refine Nat.le_trans ?_ (size_drew _) | (simp; done) | (simp; omega) | omega)
      · by_cases hk3 : 3 < k
        · have HZ : Hid (parseR s.data.toList = (0, 0, false, false, 5)) := four_let (by have := HL1.out; omega) hk3 HA.out
          have HCo : Hid (∀ (k' : Nat) (W : World), Calls Tryz.prog 115 #[.string (S1.extract 0 k)] W fun e w' => e = .returned (.tuple #[.int .i64 0, .int .i64 5]) ∧ w' = W) := fun _ W => by
            have := HCo.out k W; rw [columnR_len (l := (p1 s.data.toList).take k) (Or.inr (by have := HL1.out; rw [List.length_take]; omega))] at this; exact this
          go_wp2_with (first | (go_at_call 115; refine (HCo.out k _).mono ?_; rintro e wz ⟨rfl, hz⟩; subst wz))
          refine bodyPost_ret (v := .tuple #[.agg #[.int .i64 0, .int .i64 0, .bool false, .bool false], .int .i64 5]) (by simp [results, Tryz.results108, go_sem]) rfl ⟨by rw [HZ.out], ?_⟩
          repeat' (first | with_reducible exact Below.refl _ _ | with_reducible refine Below.setCell ?_ ?_ _ | with_reducible refine Below.alloc ?_ ?_ _ | with_reducible refine below_drewN ?_ _ | with_reducible refine Below.drew ?_ | with_reducible refine Below.trans ?_ (Below.mono (by assumption) ?_) | with_reducible exact Nat.le_refl _ | with_reducible refine Nat.le_trans ?_ (Below.size (by assumption)) | with_reducible refine Nat.le_trans ?_ (size_alloc _ _) | with_reducible refine Nat.le_trans ?_ (size_set _ _ _) | with_reducible refine Nat.le_trans ?_ (size_drewN _ _) | with_reducible refine Nat.le_trans ?_ (size_drew _) | (simp; done) | (simp; omega) | omega)
        · have hsome := some_let (by have := HL1.out; omega) (by omega) HA.out (fun h => HNL.out h)
          have hcg := columnR_good (l := (p1 s.data.toList).take k) (by intro e; have h1 := congrArg List.length e; have := HL1.out; rw [List.length_take, List.length_nil] at h1; omega) (by have := HL1.out; rw [List.length_take]; omega) HA.out
          have hcp := col_pos (by intro e; have h1 := congrArg List.length e; have := HL1.out; rw [List.length_take, List.length_nil] at h1; omega) HA.out
          rw [← hsome.1] at hcg hcp
          have HC2 : Hid (∀ (k' : Nat) (W : World), Calls Tryz.prog 115 #[.string (S1.extract 0 k)] W fun e w' => e = .returned (.tuple #[.int .i64 (if pCol s.data.toList > 16384 then ((0 : Int), (11 : Int)) else ((pCol s.data.toList : Int), 0)).1, .int .i64 (if pCol s.data.toList > 16384 then ((0 : Int), (11 : Int)) else ((pCol s.data.toList : Int), 0)).2]) ∧ w' = W) := fun _ W => by
            have := HCo.out k W; rw [hcg] at this; exact this
          have HD2 : Hid (∀ W : World, Calls Tryz.prog 113 #[.string (S1.extract k S1.size)] W fun e w' => e = .returned (.tuple #[.string ⟨(p3 s.data.toList).toArray⟩, .bool (pFixR s.data.toList)]) ∧ w' = W) := fun W => by
            have := rdollar_any (S1.extract k S1.size) W (Nat.le_trans (ext_le _ _ _) HSZ.out)
            rw [str_drop, HS1.out, ← hsome.2] at this
            exact this
          have hF5 := bad_len (l := s.data.toList)
          have hF6 := bad_nought (l := s.data.toList)
          have hF7 := fun k => bad_digit (l := s.data.toList) (k := k)
          have hF8 := fun h0 h7 hn ha => good_digits (l := s.data.toList) h0 h7 hn ha (by omega)
          have HF5 := hide hF5; have HF6 := hide hF6; have HF7 := hide hF7; have HF8 := hide hF8
          clear hF5 hF6 hF7 hF8
          have HCB := hide (col_bd ((p1 s.data.toList).take k) HA.out (by rw [List.length_take]; omega))
          rw [← hsome.1] at HCB
          clear HCo hcg hsome
          have HCo := HC2
          clear HC2
          obtain ⟨S2, hS2⟩ : ∃ S2 : ByteArray, S2 = ⟨(p3 s.data.toList).toArray⟩ := ⟨_, rfl⟩
          have HS2 : Hid (S2.data.toList = (p3 s.data.toList)) := by show S2.data.toList = _; rw [hS2]
          have HL3 : Hid ((p3 s.data.toList).length = S2.size) := by show _ = _; rw [← HS2.out]; simp
          have HSZ2 : Hid (S2.size ≤ S1.size) := by
            have h1 := HL3.out
            have h2 : (p3 s.data.toList).length ≤ (p2 s.data.toList).length := rest_len _ _ _
            have h3 : (p2 s.data.toList).length ≤ (p1 s.data.toList).length := rest_len _ _ _
            have h4 := HL1.out; show S2.size ≤ S1.size; omega
          rw [← hS2] at HD2
          clear hS2
          generalize pFixR s.data.toList = Y at *
          generalize pCol s.data.toList = Cl at *
          have hsz2 : S2.size ≤ 9223372036854775807 := by have h1 := HSZ2.out; have h2 := HSZ.out; unfold maxLen at h2; omega
          by_cases hbig : Cl > 16384
          · rw [if_pos hbig] at HCo
            by_cases q0 : S2.size = 0
            · have HZ : Hid (parseR s.data.toList = (0, 0, false, false, 5)) := HF5.out (Or.inl (by rw [HL3.out]; exact q0))
              have e0 : ((S2.size : Int) == 0) = true := by rw [q0]; rfl
              go_wp2_with (first | (go_at_call 115; refine (HCo.out k _).mono ?_; rintro e wz ⟨rfl, hz⟩; subst wz) | (go_at_call 113; refine (HD2.out _).mono ?_; rintro e wz ⟨rfl, hz⟩; subst wz))
              refine bodyPost_ret (v := .tuple #[.agg #[.int .i64 0, .int .i64 0, .bool false, .bool false], .int .i64 5]) (by simp [results, Tryz.results108, go_sem]) rfl ⟨by rw [HZ.out], ?_⟩
              repeat' (first | with_reducible exact Below.refl _ _ | with_reducible refine Below.setCell ?_ ?_ _ | with_reducible refine Below.alloc ?_ ?_ _ | with_reducible refine below_drewN ?_ _ | with_reducible refine Below.drew ?_ | with_reducible refine Below.trans ?_ (Below.mono (by assumption) ?_) | with_reducible exact Nat.le_refl _ | with_reducible refine Nat.le_trans ?_ (Below.size (by assumption)) | with_reducible refine Nat.le_trans ?_ (size_alloc _ _) | with_reducible refine Nat.le_trans ?_ (size_set _ _ _) | with_reducible refine Nat.le_trans ?_ (size_drewN _ _) | with_reducible refine Nat.le_trans ?_ (size_drew _) | (simp; done) | (simp; omega) | omega)
            · have e0 : ((S2.size : Int) == 0) = false := by rw [beq_eq_false_iff_ne]; omega
              have hpos : 0 < S2.size := by omega
              by_cases q7 : (S2.size : Int) > 7
              · have HZ : Hid (parseR s.data.toList = (0, 0, false, false, 5)) := HF5.out (Or.inr (by rw [HL3.out]; omega))
                go_wp2_with (first | (go_at_call 115; refine (HCo.out k _).mono ?_; rintro e wz ⟨rfl, hz⟩; subst wz) | (go_at_call 113; refine (HD2.out _).mono ?_; rintro e wz ⟨rfl, hz⟩; subst wz))
                refine bodyPost_ret (v := .tuple #[.agg #[.int .i64 0, .int .i64 0, .bool false, .bool false], .int .i64 5]) (by simp [results, Tryz.results108, go_sem]) rfl ⟨by rw [HZ.out], ?_⟩
                repeat' (first | with_reducible exact Below.refl _ _ | with_reducible refine Below.setCell ?_ ?_ _ | with_reducible refine Below.alloc ?_ ?_ _ | with_reducible refine below_drewN ?_ _ | with_reducible refine Below.drew ?_ | with_reducible refine Below.trans ?_ (Below.mono (by assumption) ?_) | with_reducible exact Nat.le_refl _ | with_reducible refine Nat.le_trans ?_ (Below.size (by assumption)) | with_reducible refine Nat.le_trans ?_ (size_alloc _ _) | with_reducible refine Nat.le_trans ?_ (size_set _ _ _) | with_reducible refine Nat.le_trans ?_ (size_drewN _ _) | with_reducible refine Nat.le_trans ?_ (size_drew _) | (simp; done) | (simp; omega) | omega)
              · have eb0 : S2[0] = (p3 s.data.toList)[0]'(by rw [HL3.out]; omega) := by simp only [← HS2.out]; rw [ByteArray.getElem_eq_getElem_data, Array.getElem_toList]
                have EB0 := hide eb0; clear eb0
                by_cases q48 : S2[0].toNat = 48
                · have HZ : Hid (parseR s.data.toList = (0, 0, false, false, 5)) := HF6.out (by rw [HL3.out]; omega) (by rw [← EB0.out]; exact q48)
                  have e48 : ((S2[0].toNat : Int) == 48) = true := by rw [q48]; rfl
                  go_wp2_with (first | (go_at_call 115; refine (HCo.out k _).mono ?_; rintro e wz ⟨rfl, hz⟩; subst wz) | (go_at_call 113; refine (HD2.out _).mono ?_; rintro e wz ⟨rfl, hz⟩; subst wz))
                  refine bodyPost_ret (v := .tuple #[.agg #[.int .i64 0, .int .i64 0, .bool false, .bool false], .int .i64 5]) (by simp [results, Tryz.results108, go_sem]) rfl ⟨by rw [HZ.out], ?_⟩
                  repeat' (first | with_reducible exact Below.refl _ _ | with_reducible refine Below.setCell ?_ ?_ _ | with_reducible refine Below.alloc ?_ ?_ _ | with_reducible refine below_drewN ?_ _ | with_reducible refine Below.drew ?_ | with_reducible refine Below.trans ?_ (Below.mono (by assumption) ?_) | with_reducible exact Nat.le_refl _ | with_reducible refine Nat.le_trans ?_ (Below.size (by assumption)) | with_reducible refine Nat.le_trans ?_ (size_alloc _ _) | with_reducible refine Nat.le_trans ?_ (size_set _ _ _) | with_reducible refine Nat.le_trans ?_ (size_drewN _ _) | with_reducible refine Nat.le_trans ?_ (size_drew _) | (simp; done) | (simp; omega) | omega)
                · have e48 : ((S2[0].toNat : Int) == 48) = false := by rw [beq_eq_false_iff_ne]; omega
                  go_wp2_with (first | (go_at_call 115; refine (HCo.out k _).mono ?_; rintro e wz ⟨rfl, hz⟩; subst wz) | (go_at_call 113; refine (HD2.out _).mono ?_; rintro e wz ⟨rfl, hz⟩; subst wz))
                  go_loop [9, 10] (fun rv iv => ∃ j : Nat, j ≤ S2.size ∧ iv = .int .i64 j ∧ rv = .int .i64 (decV ((p3 s.data.toList).take j)) ∧ ((p3 s.data.toList).take j).all digB = true) (fun _ iv => S2.size - (intOf iv).toNat)
                  case atStart => exact ⟨0, Nat.zero_le _, rfl, rfl, by simp⟩
                  case round =>
                    obtain ⟨j, hj, rfl, rfl, hda⟩ := hrel
                    have HDA := hide hda; clear hda
                    have hdb : decV ((p3 s.data.toList).take j) < 10000000 := Nat.lt_of_lt_of_le (dec_bd _ HDA.out) (Nat.le_trans (Nat.pow_le_pow_right (by decide) (show ((p3 s.data.toList).take j).length ≤ 7 by have := HL3.out; rw [List.length_take]; omega)) (by decide))
                    by_cases hlt : j < S2.size
                    · have hlt' : (j : Int) < (S2.size : Int) := by omega
                      have hjl : j < (p3 s.data.toList).length := by rw [HL3.out]; exact hlt
                      have eb : S2[j] = (p3 s.data.toList)[j]'hjl := by simp only [← HS2.out]; rw [ByteArray.getElem_eq_getElem_data, Array.getElem_toList]
                      have HST := hide (dec_take hjl)
                      have HTK := hide (List.take_succ_eq_append_getElem (l := (p3 s.data.toList)) (i := j) hjl)
                      have HB7 := hide (HF7.out j hjl)
                      rw [← eb] at HST HTK HB7
                      clear eb
                      have hu : S2[j].toNat < 256 := UInt8.toNat_lt _
                      by_cases d1 : (S2[j].toNat : Int) < 48
                      · have HZ : Hid (parseR s.data.toList = (0, 0, false, false, 5)) := HB7.out (by rw [digB_no]; omega)
                        go_wp2
                        refine bodyPost_ret (v := .tuple #[.agg #[.int .i64 0, .int .i64 0, .bool false, .bool false], .int .i64 5]) (by simp [results, Tryz.results108, go_sem]) rfl ⟨by rw [HZ.out], ?_⟩
                        repeat' (first | with_reducible exact Below.refl _ _ | with_reducible refine Below.setCell ?_ ?_ _ | with_reducible refine Below.alloc ?_ ?_ _ | with_reducible refine below_drewN ?_ _ | with_reducible refine Below.drew ?_ | with_reducible refine Below.trans ?_ (Below.mono (by assumption) ?_) | with_reducible exact Nat.le_refl _ | with_reducible refine Nat.le_trans ?_ (Below.size (by assumption)) | with_reducible refine Nat.le_trans ?_ (size_alloc _ _) | with_reducible refine Nat.le_trans ?_ (size_set _ _ _) | with_reducible refine Nat.le_trans ?_ (size_drewN _ _) | with_reducible refine Nat.le_trans ?_ (size_drew _) | (simp; done) | (simp; omega) | omega)
                      · by_cases d2 : (S2[j].toNat : Int) > 57
                        · have HZ : Hid (parseR s.data.toList = (0, 0, false, false, 5)) := HB7.out (by rw [digB_no]; omega)
                          go_wp2
                          refine bodyPost_ret (v := .tuple #[.agg #[.int .i64 0, .int .i64 0, .bool false, .bool false], .int .i64 5]) (by simp [results, Tryz.results108, go_sem]) rfl ⟨by rw [HZ.out], ?_⟩
                          repeat' (first | with_reducible exact Below.refl _ _ | with_reducible refine Below.setCell ?_ ?_ _ | with_reducible refine Below.alloc ?_ ?_ _ | with_reducible refine below_drewN ?_ _ | with_reducible refine Below.drew ?_ | with_reducible refine Below.trans ?_ (Below.mono (by assumption) ?_) | with_reducible exact Nat.le_refl _ | with_reducible refine Nat.le_trans ?_ (Below.size (by assumption)) | with_reducible refine Nat.le_trans ?_ (size_alloc _ _) | with_reducible refine Nat.le_trans ?_ (size_set _ _ _) | with_reducible refine Nat.le_trans ?_ (size_drewN _ _) | with_reducible refine Nat.le_trans ?_ (size_drew _) | (simp; done) | (simp; omega) | omega)
                        · have HDG : Hid (digB S2[j] = true) := digB_iff.2 (by omega)
                          generalize decV ((p3 s.data.toList).take j) = R at *
                          go_wp2
                          go_round
                          case rel =>
                            refine ⟨j + 1, by omega, by go_num, ?_, ?_⟩
                            · rw [HST.out]; first | go_num | (congr 1; omega)
                            · rw [HTK.out, List.all_append, HDA.out]; simp [HDG.out]
                          case measure => simp [intOf]; omega
                    · have hlt' : ¬ (j : Int) < (S2.size : Int) := by omega
                      have hjj : (p3 s.data.toList).take j = (p3 s.data.toList) := List.take_of_length_le (by rw [HL3.out]; omega)
                      have hgd := HF8.out (by rw [HL3.out]; omega) (by rw [HL3.out]; omega) (by rw [← EB0.out]; exact q48) (by rw [← hjj]; exact HDA.out)
                      have hpd : 1 ≤ decV (p3 s.data.toList) := dec_pos (by rw [HL3.out]; omega) (by rw [← EB0.out]; exact q48) (by rw [← hjj]; exact HDA.out)
                      rw [show decV (p3 s.data.toList) = decV ((p3 s.data.toList).take j) by rw [hjj]] at hgd hpd
                      have HGD := hide hgd
                      clear hgd hjj
                      generalize decV ((p3 s.data.toList).take j) = R at *
                      have HZ : Hid (parseR s.data.toList = (0, 0, false, false, 11)) := by have := HGD.out; rw [placeB_no.2 (by omega)] at this; exact this
                      go_wp2
                      refine bodyPost_ret (v := .tuple #[.agg #[.int .i64 0, .int .i64 0, .bool false, .bool false], .int .i64 11]) (by simp [results, Tryz.results108, go_sem]) rfl ⟨by rw [HZ.out], ?_⟩
                      repeat' (first | with_reducible exact Below.refl _ _ | with_reducible refine Below.setCell ?_ ?_ _ | with_reducible refine Below.alloc ?_ ?_ _ | with_reducible refine below_drewN ?_ _ | with_reducible refine Below.drew ?_ | with_reducible refine Below.trans ?_ (Below.mono (by assumption) ?_) | with_reducible exact Nat.le_refl _ | with_reducible refine Nat.le_trans ?_ (Below.size (by assumption)) | with_reducible refine Nat.le_trans ?_ (size_alloc _ _) | with_reducible refine Nat.le_trans ?_ (size_set _ _ _) | with_reducible refine Nat.le_trans ?_ (size_drewN _ _) | with_reducible refine Nat.le_trans ?_ (size_drew _) | (simp; done) | (simp; omega) | omega)
          · rw [if_neg hbig] at HCo
            by_cases q0 : S2.size = 0
            · have HZ : Hid (parseR s.data.toList = (0, 0, false, false, 5)) := HF5.out (Or.inl (by rw [HL3.out]; exact q0))
              have e0 : ((S2.size : Int) == 0) = true := by rw [q0]; rfl
              go_wp2_with (first | (go_at_call 115; refine (HCo.out k _).mono ?_; rintro e wz ⟨rfl, hz⟩; subst wz) | (go_at_call 113; refine (HD2.out _).mono ?_; rintro e wz ⟨rfl, hz⟩; subst wz))
              refine bodyPost_ret (v := .tuple #[.agg #[.int .i64 0, .int .i64 0, .bool false, .bool false], .int .i64 5]) (by simp [results, Tryz.results108, go_sem]) rfl ⟨by rw [HZ.out], ?_⟩
              repeat' (first | with_reducible exact Below.refl _ _ | with_reducible refine Below.setCell ?_ ?_ _ | with_reducible refine Below.alloc ?_ ?_ _ | with_reducible refine below_drewN ?_ _ | with_reducible refine Below.drew ?_ | with_reducible refine Below.trans ?_ (Below.mono (by assumption) ?_) | with_reducible exact Nat.le_refl _ | with_reducible refine Nat.le_trans ?_ (Below.size (by assumption)) | with_reducible refine Nat.le_trans ?_ (size_alloc _ _) | with_reducible refine Nat.le_trans ?_ (size_set _ _ _) | with_reducible refine Nat.le_trans ?_ (size_drewN _ _) | with_reducible refine Nat.le_trans ?_ (size_drew _) | (simp; done) | (simp; omega) | omega)
            · have e0 : ((S2.size : Int) == 0) = false := by rw [beq_eq_false_iff_ne]; omega
              have hpos : 0 < S2.size := by omega
              by_cases q7 : (S2.size : Int) > 7
              · have HZ : Hid (parseR s.data.toList = (0, 0, false, false, 5)) := HF5.out (Or.inr (by rw [HL3.out]; omega))
                go_wp2_with (first | (go_at_call 115; refine (HCo.out k _).mono ?_; rintro e wz ⟨rfl, hz⟩; subst wz) | (go_at_call 113; refine (HD2.out _).mono ?_; rintro e wz ⟨rfl, hz⟩; subst wz))
                refine bodyPost_ret (v := .tuple #[.agg #[.int .i64 0, .int .i64 0, .bool false, .bool false], .int .i64 5]) (by simp [results, Tryz.results108, go_sem]) rfl ⟨by rw [HZ.out], ?_⟩
                repeat' (first | with_reducible exact Below.refl _ _ | with_reducible refine Below.setCell ?_ ?_ _ | with_reducible refine Below.alloc ?_ ?_ _ | with_reducible refine below_drewN ?_ _ | with_reducible refine Below.drew ?_ | with_reducible refine Below.trans ?_ (Below.mono (by assumption) ?_) | with_reducible exact Nat.le_refl _ | with_reducible refine Nat.le_trans ?_ (Below.size (by assumption)) | with_reducible refine Nat.le_trans ?_ (size_alloc _ _) | with_reducible refine Nat.le_trans ?_ (size_set _ _ _) | with_reducible refine Nat.le_trans ?_ (size_drewN _ _) | with_reducible refine Nat.le_trans ?_ (size_drew _) | (simp; done) | (simp; omega) | omega)
              · have eb0 : S2[0] = (p3 s.data.toList)[0]'(by rw [HL3.out]; omega) := by simp only [← HS2.out]; rw [ByteArray.getElem_eq_getElem_data, Array.getElem_toList]
                have EB0 := hide eb0; clear eb0
                by_cases q48 : S2[0].toNat = 48
                · have HZ : Hid (parseR s.data.toList = (0, 0, false, false, 5)) := HF6.out (by rw [HL3.out]; omega) (by rw [← EB0.out]; exact q48)
                  have e48 : ((S2[0].toNat : Int) == 48) = true := by rw [q48]; rfl
                  go_wp2_with (first | (go_at_call 115; refine (HCo.out k _).mono ?_; rintro e wz ⟨rfl, hz⟩; subst wz) | (go_at_call 113; refine (HD2.out _).mono ?_; rintro e wz ⟨rfl, hz⟩; subst wz))
                  refine bodyPost_ret (v := .tuple #[.agg #[.int .i64 0, .int .i64 0, .bool false, .bool false], .int .i64 5]) (by simp [results, Tryz.results108, go_sem]) rfl ⟨by rw [HZ.out], ?_⟩
                  repeat' (first | with_reducible exact Below.refl _ _ | with_reducible refine Below.setCell ?_ ?_ _ | with_reducible refine Below.alloc ?_ ?_ _ | with_reducible refine below_drewN ?_ _ | with_reducible refine Below.drew ?_ | with_reducible refine Below.trans ?_ (Below.mono (by assumption) ?_) | with_reducible exact Nat.le_refl _ | with_reducible refine Nat.le_trans ?_ (Below.size (by assumption)) | with_reducible refine Nat.le_trans ?_ (size_alloc _ _) | with_reducible refine Nat.le_trans ?_ (size_set _ _ _) | with_reducible refine Nat.le_trans ?_ (size_drewN _ _) | with_reducible refine Nat.le_trans ?_ (size_drew _) | (simp; done) | (simp; omega) | omega)
                · have e48 : ((S2[0].toNat : Int) == 48) = false := by rw [beq_eq_false_iff_ne]; omega
                  go_wp2_with (first | (go_at_call 115; refine (HCo.out k _).mono ?_; rintro e wz ⟨rfl, hz⟩; subst wz) | (go_at_call 113; refine (HD2.out _).mono ?_; rintro e wz ⟨rfl, hz⟩; subst wz))
                  go_loop [9, 10] (fun rv iv => ∃ j : Nat, j ≤ S2.size ∧ iv = .int .i64 j ∧ rv = .int .i64 (decV ((p3 s.data.toList).take j)) ∧ ((p3 s.data.toList).take j).all digB = true) (fun _ iv => S2.size - (intOf iv).toNat)
                  case atStart => exact ⟨0, Nat.zero_le _, rfl, rfl, by simp⟩
                  case round =>
                    obtain ⟨j, hj, rfl, rfl, hda⟩ := hrel
                    have HDA := hide hda; clear hda
                    have hdb : decV ((p3 s.data.toList).take j) < 10000000 := Nat.lt_of_lt_of_le (dec_bd _ HDA.out) (Nat.le_trans (Nat.pow_le_pow_right (by decide) (show ((p3 s.data.toList).take j).length ≤ 7 by have := HL3.out; rw [List.length_take]; omega)) (by decide))
                    by_cases hlt : j < S2.size
                    · have hlt' : (j : Int) < (S2.size : Int) := by omega
                      have hjl : j < (p3 s.data.toList).length := by rw [HL3.out]; exact hlt
                      have eb : S2[j] = (p3 s.data.toList)[j]'hjl := by simp only [← HS2.out]; rw [ByteArray.getElem_eq_getElem_data, Array.getElem_toList]
                      have HST := hide (dec_take hjl)
                      have HTK := hide (List.take_succ_eq_append_getElem (l := (p3 s.data.toList)) (i := j) hjl)
                      have HB7 := hide (HF7.out j hjl)
                      rw [← eb] at HST HTK HB7
                      clear eb
                      have hu : S2[j].toNat < 256 := UInt8.toNat_lt _
                      by_cases d1 : (S2[j].toNat : Int) < 48
                      · have HZ : Hid (parseR s.data.toList = (0, 0, false, false, 5)) := HB7.out (by rw [digB_no]; omega)
                        go_wp2
                        refine bodyPost_ret (v := .tuple #[.agg #[.int .i64 0, .int .i64 0, .bool false, .bool false], .int .i64 5]) (by simp [results, Tryz.results108, go_sem]) rfl ⟨by rw [HZ.out], ?_⟩
                        repeat' (first | with_reducible exact Below.refl _ _ | with_reducible refine Below.setCell ?_ ?_ _ | with_reducible refine Below.alloc ?_ ?_ _ | with_reducible refine below_drewN ?_ _ | with_reducible refine Below.drew ?_ | with_reducible refine Below.trans ?_ (Below.mono (by assumption) ?_) | with_reducible exact Nat.le_refl _ | with_reducible refine Nat.le_trans ?_ (Below.size (by assumption)) | with_reducible refine Nat.le_trans ?_ (size_alloc _ _) | with_reducible refine Nat.le_trans ?_ (size_set _ _ _) | with_reducible refine Nat.le_trans ?_ (size_drewN _ _) | with_reducible refine Nat.le_trans ?_ (size_drew _) | (simp; done) | (simp; omega) | omega)
                      · by_cases d2 : (S2[j].toNat : Int) > 57
                        · have HZ : Hid (parseR s.data.toList = (0, 0, false, false, 5)) := HB7.out (by rw [digB_no]; omega)
                          go_wp2
                          refine bodyPost_ret (v := .tuple #[.agg #[.int .i64 0, .int .i64 0, .bool false, .bool false], .int .i64 5]) (by simp [results, Tryz.results108, go_sem]) rfl ⟨by rw [HZ.out], ?_⟩
                          repeat' (first | with_reducible exact Below.refl _ _ | with_reducible refine Below.setCell ?_ ?_ _ | with_reducible refine Below.alloc ?_ ?_ _ | with_reducible refine below_drewN ?_ _ | with_reducible refine Below.drew ?_ | with_reducible refine Below.trans ?_ (Below.mono (by assumption) ?_) | with_reducible exact Nat.le_refl _ | with_reducible refine Nat.le_trans ?_ (Below.size (by assumption)) | with_reducible refine Nat.le_trans ?_ (size_alloc _ _) | with_reducible refine Nat.le_trans ?_ (size_set _ _ _) | with_reducible refine Nat.le_trans ?_ (size_drewN _ _) | with_reducible refine Nat.le_trans ?_ (size_drew _) | (simp; done) | (simp; omega) | omega)
                        · have HDG : Hid (digB S2[j] = true) := digB_iff.2 (by omega)
                          generalize decV ((p3 s.data.toList).take j) = R at *
                          go_wp2
                          go_round
                          case rel =>
                            refine ⟨j + 1, by omega, by go_num, ?_, ?_⟩
                            · rw [HST.out]; first | go_num | (congr 1; omega)
                            · rw [HTK.out, List.all_append, HDA.out]; simp [HDG.out]
                          case measure => simp [intOf]; omega
                    · have hlt' : ¬ (j : Int) < (S2.size : Int) := by omega
                      have hjj : (p3 s.data.toList).take j = (p3 s.data.toList) := List.take_of_length_le (by rw [HL3.out]; omega)
                      have hgd := HF8.out (by rw [HL3.out]; omega) (by rw [HL3.out]; omega) (by rw [← EB0.out]; exact q48) (by rw [← hjj]; exact HDA.out)
                      have hpd : 1 ≤ decV (p3 s.data.toList) := dec_pos (by rw [HL3.out]; omega) (by rw [← EB0.out]; exact q48) (by rw [← hjj]; exact HDA.out)
                      rw [show decV (p3 s.data.toList) = decV ((p3 s.data.toList).take j) by rw [hjj]] at hgd hpd
                      have HGD := hide hgd
                      clear hgd hjj
                      generalize decV ((p3 s.data.toList).take j) = R at *
                      by_cases r1 : (R : Int) > 1048576
                      · have HZ : Hid (parseR s.data.toList = (0, 0, false, false, 11)) := by have := HGD.out; rw [placeB_no.2 (by omega)] at this; exact this
                        go_wp2
                        refine bodyPost_ret (v := .tuple #[.agg #[.int .i64 0, .int .i64 0, .bool false, .bool false], .int .i64 11]) (by simp [results, Tryz.results108, go_sem]) rfl ⟨by rw [HZ.out], ?_⟩
                        repeat' (first | with_reducible exact Below.refl _ _ | with_reducible refine Below.setCell ?_ ?_ _ | with_reducible refine Below.alloc ?_ ?_ _ | with_reducible refine below_drewN ?_ _ | with_reducible refine Below.drew ?_ | with_reducible refine Below.trans ?_ (Below.mono (by assumption) ?_) | with_reducible exact Nat.le_refl _ | with_reducible refine Nat.le_trans ?_ (Below.size (by assumption)) | with_reducible refine Nat.le_trans ?_ (size_alloc _ _) | with_reducible refine Nat.le_trans ?_ (size_set _ _ _) | with_reducible refine Nat.le_trans ?_ (size_drewN _ _) | with_reducible refine Nat.le_trans ?_ (size_drew _) | (simp; done) | (simp; omega) | omega)
                      · have HZ : Hid (parseR s.data.toList = ((R : Int), (Cl : Int), Y, pFixC s.data.toList, 0)) := by have := HGD.out; rw [placeB_iff.2 ⟨by omega, by omega, by omega, by omega⟩] at this; exact this
                        generalize pFixC s.data.toList = X at *
                        go_wp2
                        refine bodyPost_ret (v := .tuple #[.agg #[.int .i64 R, .int .i64 Cl, .bool Y, .bool X], .int .i64 0]) (by simp [results, Tryz.results108, go_sem]) rfl ⟨by rw [HZ.out], ?_⟩
                        repeat' (first | with_reducible exact Below.refl _ _ | with_reducible refine Below.setCell ?_ ?_ _ | with_reducible refine Below.alloc ?_ ?_ _ | with_reducible refine below_drewN ?_ _ | with_reducible refine Below.drew ?_ | with_reducible refine Below.trans ?_ (Below.mono (by assumption) ?_) | with_reducible exact Nat.le_refl _ | with_reducible refine Nat.le_trans ?_ (Below.size (by assumption)) | with_reducible refine Nat.le_trans ?_ (size_alloc _ _) | with_reducible refine Nat.le_trans ?_ (size_set _ _ _) | with_reducible refine Nat.le_trans ?_ (size_drewN _ _) | with_reducible refine Nat.le_trans ?_ (size_drew _) | (simp; done) | (simp; omega) | omega)
end
end Go.Proofs.YtklldmidcmfbdaaGreatDoor.Pla
