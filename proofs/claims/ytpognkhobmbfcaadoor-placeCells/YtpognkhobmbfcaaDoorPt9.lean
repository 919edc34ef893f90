/-
  The contracts of the answer's letter and Column.
-/
import Derived.Test.YtpognkhobmbfcaaDoorPt4
namespace Go.Proofs.YtpognkhobmbfcaaDoor
open Go.RowKit

/-- A letter's number, 0 if it is none. -/
def letN (c : UInt8) : Nat := if letB c then letV c else 0
theorem letN_yes {c : UInt8} (h : letB c = true) : letN c = letV c := by simp [letN, h]
theorem letN_no {c : UInt8} (h : letB c = false) : letN c = 0 := by simp [letN, h]
set_option maxHeartbeats 400000 in
theorem rletter_any (c : UInt8) (w : World) : Calls Tryd.prog 34 #[.int .u8 (c.toNat : Int)] w fun e w' => e = .returned (.int .i64 (letN c)) ∧ w' = w := by
  have hu : c.toNat < 256 := UInt8.toNat_lt _
  by_cases a1 : (c.toNat : Int) ≥ 65
  · by_cases a2 : (c.toNat : Int) ≤ 90
    · rw [letN_yes (letB_iff.2 (by omega)), show (letV c : Int) = c.toNat - 65 + 1 by unfold letV; split <;> omega]
      go_enter Tryd.func34, Tryd.ntmps34
      go_wp2
      go_ret
      exact ⟨rfl, rfl⟩
    · by_cases a3 : (c.toNat : Int) ≥ 97
      · by_cases a4 : (c.toNat : Int) ≤ 122
        · rw [letN_yes (letB_iff.2 (by omega)), show (letV c : Int) = c.toNat - 97 + 1 by unfold letV; split <;> omega]
          go_enter Tryd.func34, Tryd.ntmps34
          go_wp2
          go_ret
          exact ⟨rfl, rfl⟩
        · rw [letN_no (letB_no.2 (by omega))]
          go_enter Tryd.func34, Tryd.ntmps34
          go_wp2
          go_ret
          exact ⟨rfl, rfl⟩
      · rw [letN_no (letB_no.2 (by omega))]
        go_enter Tryd.func34, Tryd.ntmps34
        go_wp2
        go_ret
        exact ⟨rfl, rfl⟩
  · rw [letN_no (letB_no.2 (by omega))]
    have a3 : ¬ (c.toNat : Int) ≥ 97 := by omega
    go_enter Tryd.func34, Tryd.ntmps34
    go_wp2
    go_ret
    exact ⟨rfl, rfl⟩

theorem columnR_len {l : List UInt8} (h : l.length = 0 ∨ 3 < l.length) : columnR l = (0, 5) := by
  unfold columnR
  rcases h with h | h
  · have : l = [] := List.eq_nil_of_length_eq_zero h
    subst this
    decide
  · rw [if_pos (Or.inr ?_)]
    have := pre_len letB 3 l
    unfold rest
    intro e
    have := congrArg List.length e
    simp at this; omega
theorem columnR_bad {l : List UInt8} {k : Nat} (hk : k < l.length) (h : letB l[k] = false) : columnR l = (0, 5) := by
  unfold columnR
  rw [if_pos (Or.inr ?_)]
  intro e
  have e1 : (pre letB 3 l).length = l.length := by
    have := congrArg List.length e
    have h2 : (pre letB 3 l).length ≤ l.length := by
      unfold pre
      have := (List.takeWhile_sublist letB (l := l.take 3)).length_le
      rw [List.length_take] at this; omega
    unfold rest at this
    simp at this; omega
  have e2 : pre letB 3 l = l := by
    unfold pre at *
    exact ((List.takeWhile_sublist letB).trans (List.take_sublist 3 l)).eq_of_length e1
  have := pre_all letB 3 l
  rw [e2, List.all_eq_true] at this
  rw [this _ (List.getElem_mem hk)] at h
  cases h
theorem columnR_good {l : List UInt8} (h0 : l ≠ []) (h3 : l.length ≤ 3) (ha : l.all letB = true) : columnR l = if colV l > 16384 then (0, 11) else ((colV l : Int), 0) := by
  have e2 : pre letB 3 l = l := by
    rw [pre_at (k := l.length) (Nat.le_refl _) h3 (by rw [List.take_length]; exact ha) (Or.inr fun h => by omega), List.take_length]
  have e3 : rest letB 3 l = [] := by unfold rest; rw [e2]; simp
  have e4 := col_pos h0 ha
  unfold columnR
  rw [e2, e3, if_neg (by simp; omega)]
  by_cases h : colV l > 16384
  · rw [if_pos h, colB_no.2 (by omega)]; rfl
  · rw [if_neg h, colB_iff.2 (by omega)]; rfl
set_option maxHeartbeats 1000000 in
theorem rcolumn_any (s : ByteArray) (w : World) (hs : s.size ≤ maxLen) :
    Calls Tryd.prog 12 #[.string s] w fun e w' => e = .returned (.tuple #[.int .i64 (columnR s.data.toList).1, .int .i64 (columnR s.data.toList).2]) ∧ w' = w := by
  unfold maxLen at hs
  have hl : s.data.toList.length = s.size := by simp
  by_cases h0 : s.size = 0
  · rw [columnR_len (l := s.data.toList) (Or.inl (by omega))]
    have e0 : ((s.size : Int) == 0) = true := by rw [h0]; rfl
    go_enter Tryd.func12, Tryd.ntmps12
    go_wp2
    go_ret2
    exact ⟨rfl, rfl⟩
  · have e0 : ((s.size : Int) == 0) = false := by rw [beq_eq_false_iff_ne]; omega
    by_cases h3 : (s.size : Int) > 3
    · rw [columnR_len (l := s.data.toList) (Or.inr (by omega))]
      go_enter Tryd.func12, Tryd.ntmps12
      go_wp2
      go_ret2
      exact ⟨rfl, rfl⟩
    · have HL := hide hl
      clear hl
      go_enter Tryd.func12, Tryd.ntmps12
      go_wp2
      go_loop [4, 5] (fun nv iv => ∃ k : Nat, k ≤ s.size ∧ iv = .int .i64 k ∧ nv = .int .i64 (colV (s.data.toList.take k)) ∧ (s.data.toList.take k).all letB = true) (fun _ iv => s.size - (intOf iv).toNat)
      case atStart => exact ⟨0, Nat.zero_le _, rfl, rfl, by simp⟩
      case round =>
        obtain ⟨k, hk, rfl, rfl, ha⟩ := hrel
        have HA := hide ha
        clear ha
        have hcb := col_bd (s.data.toList.take k) HA.out (by have := HL.out; rw [List.length_take]; omega)
        by_cases hlt : k < s.size
        · have hlt' : (k : Int) < (s.size : Int) := by omega
          have hkl : k < s.data.toList.length := by have := HL.out; omega
          have eb : s[k] = s.data.toList[k]'hkl := by rw [ByteArray.getElem_eq_getElem_data, Array.getElem_toList]
          have HS := hide (col_take hkl)
          have HTk := hide (List.take_succ_eq_append_getElem (l := s.data.toList) (i := k) hkl)
          cases hp : letB s[k]
          · have HN := hide (columnR_bad hkl (by rw [← eb]; exact hp))
            have hz := letN_no hp
            have hzi : ((letN s[k] : Int) == 0) = true := by rw [hz]; rfl
            clear eb
            go_wp2_with (go_at_call 34; refine (rletter_any _ _).mono ?_; rintro e wz ⟨rfl, hwz⟩; subst wz)
            go_ret2
            exact ⟨by rw [HN.out]; rfl, rfl⟩
          · have hv := letV_bd hp
            have hz := letN_yes hp
            rw [← eb] at HS HTk
            have hzi : ((letN s[k] : Int) == 0) = false := by rw [hz]; simp; omega
            have HP := hide hp
            have HZ := hide hz
            clear eb hp hz
            rw [← HZ.out] at hv HS
            generalize hN : letN s[k] = N at *
            have HRL : Hid (∀ W : World, Calls Tryd.prog 34 #[.int .u8 (s[k].toNat : Int)] W fun e w' => e = .returned (.int .i64 N) ∧ w' = W) := fun W => by have := rletter_any s[k] W; rw [hN] at this; exact this
            clear hN
            generalize colV (s.data.toList.take k) = C at *
            go_wp2_with (go_at_call 34; refine (HRL.out _).mono ?_; rintro e wz ⟨rfl, hwz⟩; subst wz)
            go_round
            case rel =>
              refine ⟨k + 1, by omega, by go_num, ?_, ?_⟩
              · rw [HS.out]; first | go_num | (congr 1; omega)
              · rw [HTk.out, List.all_append, HA.out]; simp [HP.out]
            case measure => simp [intOf]; omega
        · have hlt' : ¬ (k : Int) < (s.size : Int) := by omega
          have hkk : s.data.toList.take k = s.data.toList := List.take_of_length_le (by have := HL.out; omega)
          have HG := hide (columnR_good (l := s.data.toList) (by intro e; have := HL.out; rw [e] at this; simp at this; omega) (by have := HL.out; omega) (by rw [← hkk]; exact HA.out))
          rw [hkk] at hcb
          have HK := hide hkk
          clear hkk
          by_cases h4 : (colV s.data.toList : Int) > 16384
          · rw [HK.out]
            go_wp2
            go_ret2
            exact ⟨by rw [HG.out, if_pos (by omega)]; rfl, rfl⟩
          · rw [HK.out]
            go_wp2
            go_ret2
            exact ⟨by rw [HG.out, if_neg (by omega)]; rfl, rfl⟩
end Go.Proofs.YtpognkhobmbfcaaDoor
