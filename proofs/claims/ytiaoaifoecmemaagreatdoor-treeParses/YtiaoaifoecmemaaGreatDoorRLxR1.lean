/-
  The answer's row and number.
-/
import Derived.Test.YtiaoaifoecmemaaGreatDoorRLxB
set_option maxRecDepth 100000
set_option maxHeartbeats 4000000
namespace Go.Proofs.YtiaoaifoecmemaaGreatDoor
open Go.RowKit
def atX (p : Nat) (x : Tok × Nat × Int) : Tok × Int × Int := if x.1.kind = 0 then (zt, 0, x.2.2) else (x.1.put (p : Int), ((p + x.2.1 : Nat) : Int), 0)
theorem atX_no (p : Nat) (e : Int) : atX p (zt, 0, e) = (zt, 0, e) := rfl
theorem atX_yes (p : Nat) {t : Tok} (n : Nat) (h : t.kind ≠ 0) : atX p (t, n, 0) = (t.put (p : Int), ((p + n : Nat) : Int), 0) := by unfold atX; rw [if_neg h]
theorem rnum_err (l : List UInt8) : (parseR l).2 = 0 ∨ (parseR l).2 = 3 ∨ (parseR l).2 = 5 := by
 unfold parseR told
 repeat' split
 all_goals simp
theorem drop_at (s : ByteArray) (a k : Nat) (h : a + k < s.size) : (s.data.toList.drop a)[k]? = some s[a + k] := by
 have hl : s.data.toList.length = s.size := by simp
 rw [List.getElem?_drop, List.getElem?_eq_getElem (by omega), ByteArray.getElem_eq_getElem_data, Array.getElem_toList]
theorem ext_mid (s : ByteArray) (a n : Nat) : (s.extract a (a + n)).data.toList = (s.data.toList.drop a).take n := by
 simp [List.take_drop]
theorem rrow_num (s : ByteArray) (a : Nat) (w : World) (hs : s.size ≤ 1024) (ha : a ≤ s.size) :
    Calls Tryz.prog 104 #[.string s, .int .i64 (a : Int), .bool false] w fun e w' => e = .returned (.int .i64 (runN numB (s.data.toList.drop a) : Int)) ∧ w' = w := by
  have HL : Hid ((s.data.toList.drop a).length = s.size - a) := by show _ = _; rw [List.length_drop]; simp
  go_enter Tryz.func104, Tryz.ntmps104
  go_wp2
  go_loop [7] (fun nv => ∃ k : Nat, a + k ≤ s.size ∧ nv = .int .i64 k ∧ ((s.data.toList.drop a).take k).all numB = true) (fun nv => s.size - (intOf nv).toNat)
  case atStart => exact ⟨0, by omega, rfl, by simp⟩
  case round =>
    obtain ⟨k, hk, rfl, hall⟩ := hrel
    have HA := hide hall
    clear hall
    by_cases hlt : a + k < s.size
    · have g1 : (a : Int) + (k : Int) < s.size := by omega
      have hk' : k < (s.data.toList.drop a).length := by have := HL.out; omega
      have e0 : (s.data.toList.drop a)[k] = s[a + k] := by
        have := drop_at s a k hlt
        rw [List.getElem?_eq_getElem hk'] at this
        simpa using this
      have HD : Hid (∀ W : World, Calls Tryz.prog 69 #[.int .u8 (s[a + k].toNat : Int)] W fun e w' => e = .returned (.bool (isDig s[a + k])) ∧ w' = W) := fun W => rdig_any s[a + k] W
      have HT : Hid (∀ W : World, Calls Tryz.prog 73 #[.int .u8 (s[a + k].toNat : Int)] W fun e w' => e = .returned (.bool (letterB s[a + k])) ∧ w' = W) := fun W => rletter_any s[a + k] W
      have e1 : ((s[a + k].toNat : Int) == 46) = decide (s[a + k].toNat = 46) := by rw [Bool.eq_iff_iff]; simp; omega
      have e2 : ((s[a + k].toNat : Int) == 36) = decide (s[a + k].toNat = 36) := by rw [Bool.eq_iff_iff]; simp; omega
      have e3 : ((s[a + k].toNat : Int) == 95) = decide (s[a + k].toNat = 95) := by rw [Bool.eq_iff_iff]; simp; omega
      have n1 : ((s[a + k].toNat : Int) != 46) = !decide (s[a + k].toNat = 46) := by unfold bne; rw [e1]
      have n2 : ((s[a + k].toNat : Int) != 36) = !decide (s[a + k].toNat = 36) := by unfold bne; rw [e2]
      have n3 : ((s[a + k].toNat : Int) != 95) = !decide (s[a + k].toNat = 95) := by unfold bne; rw [e3]
      have HS : Hid (numB s[a + k] = true → ((s.data.toList.drop a).take (k + 1)).all numB = true) := fun h => by
        rw [List.take_succ_eq_append_getElem hk', List.all_append, HA.out, e0]
        simp [h]
      have HF : Hid (numB s[a + k] = false → runN numB (s.data.toList.drop a) = k) := fun h => run_at (by omega) HA.out (fun _ => by rw [e0]; exact h)
      have HP : Hid (numB s[a + k] = (isDig s[a + k] || decide (s[a + k].toNat = 46))) := rfl
      clear e0 HA
      generalize decide (s[a + k].toNat = 46) = p46 at *
      generalize decide (s[a + k].toNat = 36) = p36 at *
      generalize decide (s[a + k].toNat = 95) = p95 at *
      generalize isDig s[a + k] = d at *
      generalize letterB s[a + k] = l at *
      cases d
      · cases p46
        · have HY := hide (HF.out (by rw [HP.out]; simp))
          go_wp2_with (first | (go_at_call 69; refine (HD.out _).mono ?_; rintro e wz ⟨rfl, hz⟩; subst wz) | (go_at_call 73; refine (HT.out _).mono ?_; rintro e wz ⟨rfl, hz⟩; subst wz))
          go_ret
          exact ⟨by rw [HY.out]; rfl, rfl⟩
        · have HY := hide (HS.out (by rw [HP.out]; simp))
          go_wp2_with (first | (go_at_call 69; refine (HD.out _).mono ?_; rintro e wz ⟨rfl, hz⟩; subst wz) | (go_at_call 73; refine (HT.out _).mono ?_; rintro e wz ⟨rfl, hz⟩; subst wz))
          go_round
          case rel => exact ⟨k + 1, by omega, by go_num, HY.out⟩
          case measure => simp [intOf]; omega
      · have HY := hide (HS.out (by rw [HP.out]; simp))
        go_wp2_with (first | (go_at_call 69; refine (HD.out _).mono ?_; rintro e wz ⟨rfl, hz⟩; subst wz) | (go_at_call 73; refine (HT.out _).mono ?_; rintro e wz ⟨rfl, hz⟩; subst wz))
        go_round
        case rel => exact ⟨k + 1, by omega, by go_num, HY.out⟩
        case measure => simp [intOf]; omega
    · have g1 : ¬ (a : Int) + (k : Int) < s.size := by omega
      have HF : Hid (runN numB (s.data.toList.drop a) = k) := run_at (by have := HL.out; omega) HA.out (fun h => by have := HL.out; omega)
      go_wp2
      go_ret
      exact ⟨by rw [HF.out]; rfl, rfl⟩
theorem rrow_word (s : ByteArray) (a : Nat) (w : World) (hs : s.size ≤ 1024) (ha : a ≤ s.size) :
    Calls Tryz.prog 104 #[.string s, .int .i64 (a : Int), .bool true] w fun e w' => e = .returned (.int .i64 (runN wordB (s.data.toList.drop a) : Int)) ∧ w' = w := by
  have HL : Hid ((s.data.toList.drop a).length = s.size - a) := by show _ = _; rw [List.length_drop]; simp
  go_enter Tryz.func104, Tryz.ntmps104
  go_wp2
  go_loop [7] (fun nv => ∃ k : Nat, a + k ≤ s.size ∧ nv = .int .i64 k ∧ ((s.data.toList.drop a).take k).all wordB = true) (fun nv => s.size - (intOf nv).toNat)
  case atStart => exact ⟨0, by omega, rfl, by simp⟩
  case round =>
    obtain ⟨k, hk, rfl, hall⟩ := hrel
    have HA := hide hall
    clear hall
    by_cases hlt : a + k < s.size
    · have g1 : (a : Int) + (k : Int) < s.size := by omega
      have hk' : k < (s.data.toList.drop a).length := by have := HL.out; omega
      have e0 : (s.data.toList.drop a)[k] = s[a + k] := by
        have := drop_at s a k hlt
        rw [List.getElem?_eq_getElem hk'] at this
        simpa using this
      have HD : Hid (∀ W : World, Calls Tryz.prog 69 #[.int .u8 (s[a + k].toNat : Int)] W fun e w' => e = .returned (.bool (isDig s[a + k])) ∧ w' = W) := fun W => rdig_any s[a + k] W
      have HT : Hid (∀ W : World, Calls Tryz.prog 73 #[.int .u8 (s[a + k].toNat : Int)] W fun e w' => e = .returned (.bool (letterB s[a + k])) ∧ w' = W) := fun W => rletter_any s[a + k] W
      have e1 : ((s[a + k].toNat : Int) == 46) = decide (s[a + k].toNat = 46) := by rw [Bool.eq_iff_iff]; simp; omega
      have e2 : ((s[a + k].toNat : Int) == 36) = decide (s[a + k].toNat = 36) := by rw [Bool.eq_iff_iff]; simp; omega
      have e3 : ((s[a + k].toNat : Int) == 95) = decide (s[a + k].toNat = 95) := by rw [Bool.eq_iff_iff]; simp; omega
      have n1 : ((s[a + k].toNat : Int) != 46) = !decide (s[a + k].toNat = 46) := by unfold bne; rw [e1]
      have n2 : ((s[a + k].toNat : Int) != 36) = !decide (s[a + k].toNat = 36) := by unfold bne; rw [e2]
      have n3 : ((s[a + k].toNat : Int) != 95) = !decide (s[a + k].toNat = 95) := by unfold bne; rw [e3]
      have HS : Hid (wordB s[a + k] = true → ((s.data.toList.drop a).take (k + 1)).all wordB = true) := fun h => by
        rw [List.take_succ_eq_append_getElem hk', List.all_append, HA.out, e0]
        simp [h]
      have HF : Hid (wordB s[a + k] = false → runN wordB (s.data.toList.drop a) = k) := fun h => run_at (by omega) HA.out (fun _ => by rw [e0]; exact h)
      have HP : Hid (wordB s[a + k] = (letterB s[a + k] || isDig s[a + k] || decide (s[a + k].toNat = 36) || decide (s[a + k].toNat = 46) || decide (s[a + k].toNat = 95))) := rfl
      clear e0 HA
      generalize decide (s[a + k].toNat = 46) = p46 at *
      generalize decide (s[a + k].toNat = 36) = p36 at *
      generalize decide (s[a + k].toNat = 95) = p95 at *
      generalize isDig s[a + k] = d at *
      generalize letterB s[a + k] = l at *
      cases d
      · cases p46
        · cases l
          · cases p36
            · cases p95
              · have HY := hide (HF.out (by rw [HP.out]; simp))
                go_wp2_with (first | (go_at_call 69; refine (HD.out _).mono ?_; rintro e wz ⟨rfl, hz⟩; subst wz) | (go_at_call 73; refine (HT.out _).mono ?_; rintro e wz ⟨rfl, hz⟩; subst wz))
                go_ret
                exact ⟨by rw [HY.out]; rfl, rfl⟩
              · have HY := hide (HS.out (by rw [HP.out]; simp))
                go_wp2_with (first | (go_at_call 69; refine (HD.out _).mono ?_; rintro e wz ⟨rfl, hz⟩; subst wz) | (go_at_call 73; refine (HT.out _).mono ?_; rintro e wz ⟨rfl, hz⟩; subst wz))
                go_round
                case rel => exact ⟨k + 1, by omega, by go_num, HY.out⟩
                case measure => simp [intOf]; omega
            · have HY := hide (HS.out (by rw [HP.out]; simp))
              go_wp2_with (first | (go_at_call 69; refine (HD.out _).mono ?_; rintro e wz ⟨rfl, hz⟩; subst wz) | (go_at_call 73; refine (HT.out _).mono ?_; rintro e wz ⟨rfl, hz⟩; subst wz))
              go_round
              case rel => exact ⟨k + 1, by omega, by go_num, HY.out⟩
              case measure => simp [intOf]; omega
          · have HY := hide (HS.out (by rw [HP.out]; simp))
            go_wp2_with (first | (go_at_call 69; refine (HD.out _).mono ?_; rintro e wz ⟨rfl, hz⟩; subst wz) | (go_at_call 73; refine (HT.out _).mono ?_; rintro e wz ⟨rfl, hz⟩; subst wz))
            go_round
            case rel => exact ⟨k + 1, by omega, by go_num, HY.out⟩
            case measure => simp [intOf]; omega
        · have HY := hide (HS.out (by rw [HP.out]; simp))
          go_wp2_with (first | (go_at_call 69; refine (HD.out _).mono ?_; rintro e wz ⟨rfl, hz⟩; subst wz) | (go_at_call 73; refine (HT.out _).mono ?_; rintro e wz ⟨rfl, hz⟩; subst wz))
          go_round
          case rel => exact ⟨k + 1, by omega, by go_num, HY.out⟩
          case measure => simp [intOf]; omega
      · have HY := hide (HS.out (by rw [HP.out]; simp))
        go_wp2_with (first | (go_at_call 69; refine (HD.out _).mono ?_; rintro e wz ⟨rfl, hz⟩; subst wz) | (go_at_call 73; refine (HT.out _).mono ?_; rintro e wz ⟨rfl, hz⟩; subst wz))
        go_round
        case rel => exact ⟨k + 1, by omega, by go_num, HY.out⟩
        case measure => simp [intOf]; omega
    · have g1 : ¬ (a : Int) + (k : Int) < s.size := by omega
      have HF : Hid (runN wordB (s.data.toList.drop a) = k) := run_at (by have := HL.out; omega) HA.out (fun h => by have := HL.out; omega)
      go_wp2
      go_ret
      exact ⟨by rw [HF.out]; rfl, rfl⟩
theorem rnum_any (s : ByteArray) (a : Nat) (w : World) (hs : s.size ≤ 1024) (ha : a ≤ s.size) :
    Calls Tryz.prog 70 #[.string s, .int .i64 (a : Int)] w fun e w' => e = .returned (.tuple #[tokV (atX a (numberT (s.data.toList.drop a))).1, .int .i64 (atX a (numberT (s.data.toList.drop a))).2.1, .int .i64 (atX a (numberT (s.data.toList.drop a))).2.2]) ∧ Below w.heap.size w w' := by
  have hl := run_le numB (s.data.toList.drop a)
  have hl' : (s.data.toList.drop a).length = s.size - a := by rw [List.length_drop]; simp
  have HR : Hid (∀ W : World, Calls Tryz.prog 104 #[.string s, .int .i64 (a : Int), .bool false] W fun e w' => e = .returned (.int .i64 (runN numB (s.data.toList.drop a) : Int)) ∧ w' = W) := fun W => rrow_num s a W hs ha
  have HP : Hid (∀ W : World, Calls Tryz.prog 105 #[.string (s.extract a (a + runN numB (s.data.toList.drop a)))] W fun e w' => e = .returned (.tuple #[.int .i64 (parseR ((s.data.toList.drop a).take (runN numB (s.data.toList.drop a)))).1, .int .i64 (parseR ((s.data.toList.drop a).take (runN numB (s.data.toList.drop a)))).2]) ∧ w' = W) := fun W => by
    have := rparse_any (s.extract a (a + runN numB (s.data.toList.drop a))) W (by have := ext_size s a (a + runN numB (s.data.toList.drop a)); unfold maxLen; omega)
    rw [ext_mid] at this
    exact this
  have hcase := rnum_err ((s.data.toList.drop a).take (runN numB (s.data.toList.drop a)))
  unfold numberT
  generalize parseR ((s.data.toList.drop a).take (runN numB (s.data.toList.drop a))) = r at *
  generalize runN numB (s.data.toList.drop a) = n at *
  obtain ⟨v, z⟩ := r
  have hn : (a : Int) + (n : Int) ≤ s.size := by omega
  clear hl hl'
  simp only at *
  rcases hcase with rfl | rfl | rfl
  · rw [if_pos rfl, atX_yes a n (by simp [valTok])]
    go_enter Tryz.func70, Tryz.ntmps70
    go_wp2_with (first | (go_at_call 104; refine (HR.out _).mono ?_; rintro e wz ⟨rfl, hz⟩; subst wz) | (go_at_call 105; refine (HP.out _).mono ?_; rintro e wz ⟨rfl, hz⟩; subst wz))
    refine bodyPost_ret (v := .tuple #[.agg #[.int .i64 1, .int .i64 1, .int .i64 v, .string ⟨#[]⟩, .bool false, .int .i64 0, .int .i64 0, .int .i64 0, .bool false, .bool false, .string ⟨#[]⟩, .int .i64 (a : Int)], .int .i64 ((a : Int) + (n : Int)), .int .i64 0]) (by simp [results, Tryz.results70, go_sem, *]) rfl ⟨rfl, ?_⟩
    repeat' (first | with_reducible (first | exact Below.refl _ _ | refine Below.setCell ?_ ?_ _ | refine Below.alloc ?_ ?_ _ | refine below_drewN ?_ _ | refine Below.drew ?_ | refine Below.trans ?_ (Below.mono (by assumption) ?_) | exact Nat.le_refl _ | refine Nat.le_trans ?_ (Below.size (by assumption)) | refine zzA ?_ | refine zzB ?_ | refine zzC ?_ | refine zzD ?_) | (simp; done) | (simp; omega) | omega)
  · rw [if_neg (by decide), atX_no]
    go_enter Tryz.func70, Tryz.ntmps70
    go_wp2_with (first | (go_at_call 104; refine (HR.out _).mono ?_; rintro e wz ⟨rfl, hz⟩; subst wz) | (go_at_call 105; refine (HP.out _).mono ?_; rintro e wz ⟨rfl, hz⟩; subst wz))
    refine bodyPost_ret (v := .tuple #[.agg #[.int .i64 0, .int .i64 0, .int .i64 0, .string ⟨#[]⟩, .bool false, .int .i64 0, .int .i64 0, .int .i64 0, .bool false, .bool false, .string ⟨#[]⟩, .int .i64 0], .int .i64 0, .int .i64 3]) (by simp [results, Tryz.results70, go_sem, *]) rfl ⟨rfl, ?_⟩
    repeat' (first | with_reducible (first | exact Below.refl _ _ | refine Below.setCell ?_ ?_ _ | refine Below.alloc ?_ ?_ _ | refine below_drewN ?_ _ | refine Below.drew ?_ | refine Below.trans ?_ (Below.mono (by assumption) ?_) | exact Nat.le_refl _ | refine Nat.le_trans ?_ (Below.size (by assumption)) | refine zzA ?_ | refine zzB ?_ | refine zzC ?_ | refine zzD ?_) | (simp; done) | (simp; omega) | omega)
  · rw [if_neg (by decide), atX_no]
    go_enter Tryz.func70, Tryz.ntmps70
    go_wp2_with (first | (go_at_call 104; refine (HR.out _).mono ?_; rintro e wz ⟨rfl, hz⟩; subst wz) | (go_at_call 105; refine (HP.out _).mono ?_; rintro e wz ⟨rfl, hz⟩; subst wz))
    refine bodyPost_ret (v := .tuple #[.agg #[.int .i64 0, .int .i64 0, .int .i64 0, .string ⟨#[]⟩, .bool false, .int .i64 0, .int .i64 0, .int .i64 0, .bool false, .bool false, .string ⟨#[]⟩, .int .i64 0], .int .i64 0, .int .i64 5]) (by simp [results, Tryz.results70, go_sem, *]) rfl ⟨rfl, ?_⟩
    repeat' (first | with_reducible (first | exact Below.refl _ _ | refine Below.setCell ?_ ?_ _ | refine Below.alloc ?_ ?_ _ | refine below_drewN ?_ _ | refine Below.drew ?_ | refine Below.trans ?_ (Below.mono (by assumption) ?_) | exact Nat.le_refl _ | refine Nat.le_trans ?_ (Below.size (by assumption)) | refine zzA ?_ | refine zzB ?_ | refine zzC ?_ | refine zzD ?_) | (simp; done) | (simp; omega) | omega)
end Go.Proofs.YtiaoaifoecmemaaGreatDoor
