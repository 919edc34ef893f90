/-
  Bytes of lex's kinds; the contracts of isBlank, isDigit, isLetter, of the closures that number and word ask by, of row at each; and of the answer's digit and letter.
-/
import Derived.Test.YtiaoaifoecmemaaGreatDoorRLxDef
set_option maxRecDepth 100000
set_option maxHeartbeats 4000000
namespace Go.Proofs.YtiaoaifoecmemaaGreatDoor
open Go.RowKit
theorem letter_yes {c : UInt8} (h : (65 ≤ c.toNat ∧ c.toNat ≤ 90) ∨ (97 ≤ c.toNat ∧ c.toNat ≤ 122)) : letterB c = true := by unfold letterB; simp; omega
theorem letter_no {c : UInt8} (h : ¬ ((65 ≤ c.toNat ∧ c.toNat ≤ 90) ∨ (97 ≤ c.toNat ∧ c.toNat ≤ 122))) : letterB c = false := by unfold letterB; simp; omega
theorem dig_yes {c : UInt8} (h : 48 ≤ c.toNat ∧ c.toNat ≤ 57) : isDig c = true := by unfold isDig; simp; omega
theorem dig_no {c : UInt8} (h : ¬ (48 ≤ c.toNat ∧ c.toNat ≤ 57)) : isDig c = false := by unfold isDig; simp; omega
theorem while_at (p : UInt8 → Bool) : ∀ (l : List UInt8) (k : Nat), k ≤ l.length → (l.take k).all p = true → (∀ h : k < l.length, p l[k] = false) → l.takeWhile p = l.take k
 | [], k, _, _, _ => by simp
 | c :: l, 0, _, _, h => by
  have := h (by simp)
  simp at this
  simp [this]
 | c :: l, k + 1, hk, ha, h => by
  simp only [List.take_succ_cons, List.all_cons, Bool.and_eq_true] at ha
  rw [List.takeWhile_cons, if_pos ha.1, List.take_succ_cons, while_at p l k (by simpa using hk) ha.2 (fun h' => by have := h (by simpa using h'); simpa using this)]
theorem run_at {p : UInt8 → Bool} {l : List UInt8} {k : Nat} (hk : k ≤ l.length) (ha : (l.take k).all p = true) (h : ∀ h : k < l.length, p l[k] = false) : runN p l = k := by
 unfold runN; rw [while_at p l k hk ha h, List.length_take]; omega
theorem run_le (p : UInt8 → Bool) (l : List UInt8) : runN p l ≤ l.length := by unfold runN; exact (List.takeWhile_sublist p).length_le
theorem isBlank_any (c : UInt8) (w : World) : Calls Tryz.prog 98 #[.int .u8 (c.toNat : Int)] w fun e w' => e = .returned (.bool (blankB c)) ∧ w' = w := by
  by_cases a1 : c.toNat = 32
  · have e1 : ((c.toNat : Int) == 32) = true := by rw [beq_iff_eq]; omega
    rw [show blankB c = true by unfold blankB; simp [a1]]
    clear a1
    go_enter Tryz.func98, Tryz.ntmps98
    go_wp2
    go_ret
    exact ⟨rfl, rfl⟩
  · have e1 : ((c.toNat : Int) == 32) = false := by rw [beq_eq_false_iff_ne]; omega
    rw [show blankB c = false by unfold blankB; simp [a1]]
    clear a1
    go_enter Tryz.func98, Tryz.ntmps98
    go_wp2
    go_ret
    exact ⟨rfl, rfl⟩
theorem isDigit_any (c : UInt8) (w : World) : Calls Tryz.prog 125 #[.int .u8 (c.toNat : Int)] w fun e w' => e = .returned (.bool (isDig c)) ∧ w' = w := by
 have hu : c.toNat < 256 := UInt8.toNat_lt _
 by_cases a1 : (48 : Int) ≤ c.toNat <;> by_cases a2 : (c.toNat : Int) ≤ 57
 all_goals first | (exfalso; omega) | skip
 all_goals first | rw [dig_yes (by omega)] | rw [dig_no (by omega)]
 all_goals (go_enter Tryz.func125, Tryz.ntmps125; go_wp2; go_ret; exact ⟨rfl, rfl⟩)
theorem isLetter_any (c : UInt8) (w : World) : Calls Tryz.prog 129 #[.int .u8 (c.toNat : Int)] w fun e w' => e = .returned (.bool (letterB c)) ∧ w' = w := by
 have hu : c.toNat < 256 := UInt8.toNat_lt _
 by_cases a1 : (65 : Int) ≤ c.toNat <;> by_cases a2 : (c.toNat : Int) ≤ 90 <;> by_cases a3 : (97 : Int) ≤ c.toNat <;> by_cases a4 : (c.toNat : Int) ≤ 122
 all_goals first | (exfalso; omega) | skip
 all_goals first | rw [letter_yes (by omega)] | rw [letter_no (by omega)]
 all_goals (go_enter Tryz.func129, Tryz.ntmps129; go_wp2; go_ret; exact ⟨rfl, rfl⟩)
theorem rdig_any (c : UInt8) (w : World) : Calls Tryz.prog 69 #[.int .u8 (c.toNat : Int)] w fun e w' => e = .returned (.bool (isDig c)) ∧ w' = w := by
 have hu : c.toNat < 256 := UInt8.toNat_lt _
 by_cases a1 : (48 : Int) ≤ c.toNat <;> by_cases a2 : (c.toNat : Int) ≤ 57
 all_goals first | (exfalso; omega) | skip
 all_goals first | rw [dig_yes (by omega)] | rw [dig_no (by omega)]
 all_goals (go_enter Tryz.func69, Tryz.ntmps69; go_wp2; go_ret; exact ⟨rfl, rfl⟩)
theorem rletter_any (c : UInt8) (w : World) : Calls Tryz.prog 73 #[.int .u8 (c.toNat : Int)] w fun e w' => e = .returned (.bool (letterB c)) ∧ w' = w := by
 have hu : c.toNat < 256 := UInt8.toNat_lt _
 by_cases a1 : (65 : Int) ≤ c.toNat <;> by_cases a2 : (c.toNat : Int) ≤ 90 <;> by_cases a3 : (97 : Int) ≤ c.toNat <;> by_cases a4 : (c.toNat : Int) ≤ 122
 all_goals first | (exfalso; omega) | skip
 all_goals first | rw [letter_yes (by omega)] | rw [letter_no (by omega)]
 all_goals (go_enter Tryz.func73, Tryz.ntmps73; go_wp2; go_ret; exact ⟨rfl, rfl⟩)
theorem number1_any (c : UInt8) (w : World) : Calls Tryz.prog 155 #[.int .u8 (c.toNat : Int)] w fun e w' => e = .returned (.bool (numB c)) ∧ w' = w := by
  have HD : Hid (∀ W : World, Calls Tryz.prog 125 #[.int .u8 (c.toNat : Int)] W fun e w' => e = .returned (.bool (isDig c)) ∧ w' = W) := fun W => isDigit_any c W
  have i46 : (⟨#[46]⟩ : ByteArray)[0] = 46 := rfl
  have e1 : ((c.toNat : Int) == 46) = decide (c.toNat = 46) := by rw [Bool.eq_iff_iff]; simp; omega
  unfold numB
  generalize decide (c.toNat = 46) = p1 at *
  generalize isDig c = d at *
  cases d
  · cases p1
    all_goals
      go_enter Tryz.func155, Tryz.ntmps155
      go_wp2_with (go_at_call 125; refine (HD.out _).mono ?_; rintro e wz ⟨rfl, hz⟩; subst wz)
      go_ret
      exact ⟨rfl, rfl⟩
  · go_enter Tryz.func155, Tryz.ntmps155
    go_wp2_with (go_at_call 125; refine (HD.out _).mono ?_; rintro e wz ⟨rfl, hz⟩; subst wz)
    go_ret
    exact ⟨rfl, rfl⟩
theorem word1_any (c : UInt8) (w : World) : Calls Tryz.prog 161 #[.int .u8 (c.toNat : Int)] w fun e w' => e = .returned (.bool (wordB c)) ∧ w' = w := by
  have HD : Hid (∀ W : World, Calls Tryz.prog 125 #[.int .u8 (c.toNat : Int)] W fun e w' => e = .returned (.bool (isDig c)) ∧ w' = W) := fun W => isDigit_any c W
  have HL : Hid (∀ W : World, Calls Tryz.prog 129 #[.int .u8 (c.toNat : Int)] W fun e w' => e = .returned (.bool (letterB c)) ∧ w' = W) := fun W => isLetter_any c W
  have i46 : (⟨#[46]⟩ : ByteArray)[0] = 46 := rfl
  have i36 : (⟨#[36]⟩ : ByteArray)[0] = 36 := rfl
  have e1 : ((c.toNat : Int) == 36) = decide (c.toNat = 36) := by rw [Bool.eq_iff_iff]; simp; omega
  have e2 : ((c.toNat : Int) == 46) = decide (c.toNat = 46) := by rw [Bool.eq_iff_iff]; simp; omega
  have e3 : ((c.toNat : Int) == 95) = decide (c.toNat = 95) := by rw [Bool.eq_iff_iff]; simp; omega
  unfold wordB
  generalize decide (c.toNat = 36) = p1 at *
  generalize decide (c.toNat = 46) = p2 at *
  generalize decide (c.toNat = 95) = p3 at *
  generalize isDig c = d at *
  generalize letterB c = l at *
  cases l
  · cases d
    · cases p1
      · cases p2
        · cases p3
          all_goals
            go_enter Tryz.func161, Tryz.ntmps161
            go_wp2_with (first | (go_at_call 125; refine (HD.out _).mono ?_; rintro e wz ⟨rfl, hz⟩; subst wz) | (go_at_call 129; refine (HL.out _).mono ?_; rintro e wz ⟨rfl, hz⟩; subst wz))
            go_ret
            exact ⟨rfl, rfl⟩
        · go_enter Tryz.func161, Tryz.ntmps161
          go_wp2_with (first | (go_at_call 125; refine (HD.out _).mono ?_; rintro e wz ⟨rfl, hz⟩; subst wz) | (go_at_call 129; refine (HL.out _).mono ?_; rintro e wz ⟨rfl, hz⟩; subst wz))
          go_ret
          exact ⟨rfl, rfl⟩
      · go_enter Tryz.func161, Tryz.ntmps161
        go_wp2_with (first | (go_at_call 125; refine (HD.out _).mono ?_; rintro e wz ⟨rfl, hz⟩; subst wz) | (go_at_call 129; refine (HL.out _).mono ?_; rintro e wz ⟨rfl, hz⟩; subst wz))
        go_ret
        exact ⟨rfl, rfl⟩
    · go_enter Tryz.func161, Tryz.ntmps161
      go_wp2_with (first | (go_at_call 125; refine (HD.out _).mono ?_; rintro e wz ⟨rfl, hz⟩; subst wz) | (go_at_call 129; refine (HL.out _).mono ?_; rintro e wz ⟨rfl, hz⟩; subst wz))
      go_ret
      exact ⟨rfl, rfl⟩
  · go_enter Tryz.func161, Tryz.ntmps161
    go_wp2_with (go_at_call 129; refine (HL.out _).mono ?_; rintro e wz ⟨rfl, hz⟩; subst wz)
    go_ret
    exact ⟨rfl, rfl⟩
theorem row_blank (s : ByteArray) (w : World) (hs : s.size ≤ maxLen) :
    Calls Tryz.prog 97 #[.string s, .func (.func 98) #[] #[]] w fun e w' => e = .returned (.int .i64 (runN blankB s.data.toList)) ∧ w' = w := by
  unfold maxLen at hs
  have HL : Hid (s.data.toList.length = s.size) := by show _ = _; simp
  go_enter Tryz.func97, Tryz.ntmps97
  go_wp2
  go_loop [5] (fun nv => ∃ k : Nat, k ≤ s.size ∧ nv = .int .i64 k ∧ (s.data.toList.take k).all blankB = true) (fun nv => s.size - (intOf nv).toNat)
  case atStart => exact ⟨0, Nat.zero_le _, rfl, by simp⟩
  case round =>
    obtain ⟨k, hk, rfl, ha⟩ := hrel
    have HA := hide ha
    clear ha
    by_cases hlt : k < s.size
    · have e0 : s[k] = s.data.toList[k]'(by have := HL.out; omega) := by rw [ByteArray.getElem_eq_getElem_data, Array.getElem_toList]
      cases hp : blankB s[k]
      · have HF : Hid (runN blankB s.data.toList = k) := run_at (by have := HL.out; omega) HA.out (fun h => by rw [← e0]; exact hp)
        clear e0
        go_wp2_with (go_at_call 98; refine (isBlank_any _ _).mono ?_; rintro e wz ⟨rfl, hz⟩; subst wz)
        go_ret
        exact ⟨by rw [HF.out]; rfl, rfl⟩
      · have HS : Hid ((s.data.toList.take (k + 1)).all blankB = true) := by
          have := HL.out
          show (s.data.toList.take (k + 1)).all blankB = true
          rw [List.take_succ_eq_append_getElem (by omega), List.all_append, HA.out, ← e0]
          simp [hp]
        clear e0
        go_wp2_with (go_at_call 98; refine (isBlank_any _ _).mono ?_; rintro e wz ⟨rfl, hz⟩; subst wz)
        go_round
        case rel => exact ⟨k + 1, by omega, by go_num, HS.out⟩
        case measure => simp [intOf]; omega
    · have HF : Hid (runN blankB s.data.toList = k) := run_at (by have := HL.out; omega) HA.out (fun h => by have := HL.out; omega)
      go_wp2
      go_ret
      exact ⟨by rw [HF.out]; rfl, rfl⟩
theorem row_num (s : ByteArray) (w : World) (hs : s.size ≤ maxLen) :
    Calls Tryz.prog 97 #[.string s, .func (.func 155) #[] #[]] w fun e w' => e = .returned (.int .i64 (runN numB s.data.toList)) ∧ w' = w := by
  unfold maxLen at hs
  have HL : Hid (s.data.toList.length = s.size) := by show _ = _; simp
  go_enter Tryz.func97, Tryz.ntmps97
  go_wp2
  go_loop [5] (fun nv => ∃ k : Nat, k ≤ s.size ∧ nv = .int .i64 k ∧ (s.data.toList.take k).all numB = true) (fun nv => s.size - (intOf nv).toNat)
  case atStart => exact ⟨0, Nat.zero_le _, rfl, by simp⟩
  case round =>
    obtain ⟨k, hk, rfl, ha⟩ := hrel
    have HA := hide ha
    clear ha
    by_cases hlt : k < s.size
    · have e0 : s[k] = s.data.toList[k]'(by have := HL.out; omega) := by rw [ByteArray.getElem_eq_getElem_data, Array.getElem_toList]
      cases hp : numB s[k]
      · have HF : Hid (runN numB s.data.toList = k) := run_at (by have := HL.out; omega) HA.out (fun h => by rw [← e0]; exact hp)
        clear e0
        go_wp2_with (go_at_call 155; refine (number1_any _ _).mono ?_; rintro e wz ⟨rfl, hz⟩; subst wz)
        go_ret
        exact ⟨by rw [HF.out]; rfl, rfl⟩
      · have HS : Hid ((s.data.toList.take (k + 1)).all numB = true) := by
          have := HL.out
          show (s.data.toList.take (k + 1)).all numB = true
          rw [List.take_succ_eq_append_getElem (by omega), List.all_append, HA.out, ← e0]
          simp [hp]
        clear e0
        go_wp2_with (go_at_call 155; refine (number1_any _ _).mono ?_; rintro e wz ⟨rfl, hz⟩; subst wz)
        go_round
        case rel => exact ⟨k + 1, by omega, by go_num, HS.out⟩
        case measure => simp [intOf]; omega
    · have HF : Hid (runN numB s.data.toList = k) := run_at (by have := HL.out; omega) HA.out (fun h => by have := HL.out; omega)
      go_wp2
      go_ret
      exact ⟨by rw [HF.out]; rfl, rfl⟩
theorem row_word (s : ByteArray) (w : World) (hs : s.size ≤ maxLen) :
    Calls Tryz.prog 97 #[.string s, .func (.func 161) #[] #[]] w fun e w' => e = .returned (.int .i64 (runN wordB s.data.toList)) ∧ w' = w := by
  unfold maxLen at hs
  have HL : Hid (s.data.toList.length = s.size) := by show _ = _; simp
  go_enter Tryz.func97, Tryz.ntmps97
  go_wp2
  go_loop [5] (fun nv => ∃ k : Nat, k ≤ s.size ∧ nv = .int .i64 k ∧ (s.data.toList.take k).all wordB = true) (fun nv => s.size - (intOf nv).toNat)
  case atStart => exact ⟨0, Nat.zero_le _, rfl, by simp⟩
  case round =>
    obtain ⟨k, hk, rfl, ha⟩ := hrel
    have HA := hide ha
    clear ha
    by_cases hlt : k < s.size
    · have e0 : s[k] = s.data.toList[k]'(by have := HL.out; omega) := by rw [ByteArray.getElem_eq_getElem_data, Array.getElem_toList]
      cases hp : wordB s[k]
      · have HF : Hid (runN wordB s.data.toList = k) := run_at (by have := HL.out; omega) HA.out (fun h => by rw [← e0]; exact hp)
        clear e0
        go_wp2_with (go_at_call 161; refine (word1_any _ _).mono ?_; rintro e wz ⟨rfl, hz⟩; subst wz)
        go_ret
        exact ⟨by rw [HF.out]; rfl, rfl⟩
      · have HS : Hid ((s.data.toList.take (k + 1)).all wordB = true) := by
          have := HL.out
          show (s.data.toList.take (k + 1)).all wordB = true
          rw [List.take_succ_eq_append_getElem (by omega), List.all_append, HA.out, ← e0]
          simp [hp]
        clear e0
        go_wp2_with (go_at_call 161; refine (word1_any _ _).mono ?_; rintro e wz ⟨rfl, hz⟩; subst wz)
        go_round
        case rel => exact ⟨k + 1, by omega, by go_num, HS.out⟩
        case measure => simp [intOf]; omega
    · have HF : Hid (runN wordB s.data.toList = k) := run_at (by have := HL.out; omega) HA.out (fun h => by have := HL.out; omega)
      go_wp2
      go_ret
      exact ⟨by rw [HF.out]; rfl, rfl⟩
end Go.Proofs.YtiaoaifoecmemaaGreatDoor
