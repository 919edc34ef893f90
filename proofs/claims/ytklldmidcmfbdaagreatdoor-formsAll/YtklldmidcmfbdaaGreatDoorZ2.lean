/-
  Out of LxR1, LxR2, LxR3, what is asked for (laid by pack9.py).
-/
import Derived.Test.YtklldmidcmfbdaaGreatDoorVNum
import Derived.Test.YtklldmidcmfbdaaGreatDoorVNum2
import Derived.Test.YtklldmidcmfbdaaGreatDoorVVal
import Derived.Test.YtklldmidcmfbdaaGreatDoorVVal3
import Derived.Test.YtklldmidcmfbdaaGreatDoorVVal4
import Derived.Test.YtklldmidcmfbdaaGreatDoorZ1
import Derived.BigCall
import Derived.BigGuard
import Derived.BigQuiet
import Derived.ChangeArms
import Derived.Deep.QuietTactic
import Derived.Deep.RegionHeld3
import Derived.Deep.RegionWith
import Derived.Laws.Cover1
import Derived.Laws.EntriesVeiled
import Derived.Laws.IdiomStrings
import Derived.Lib.AppendIntMem
import Derived.Lib.AtoiErrMem
import Derived.Lib.IndexMore
import Derived.Lib.ItoaMem
import Derived.Lib.LaidTab
import Derived.Lib.MinMax
import Derived.Lib.OthersKept
import Derived.Lib.Replace
import Derived.Lib.SmallJoins
import Derived.Lib.Walk
import Derived.LoopTactic
import Derived.WalkKit
import Derived.WalkLawsBesides
import Derived.WalkSpells
import Derived.WideShapes
namespace Go.Proofs.YtklldmidcmfbdaaGreatDoor
section
open Go.RowKit
/-- What the answer tells of a token at a place: the token there, the place behind, why not. -/
def atX (p : Nat) (x : Tok × Nat × Int) : Tok × Int × Int := if x.1.kind = 0 then (zt, 0, x.2.2) else (x.1.put (p : Int), ((p + x.2.1 : Nat) : Int), 0)
theorem atX_no (p : Nat) (e : Int) : atX p (zt, 0, e) = (zt, 0, e) := rfl
theorem atX_yes (p : Nat) {t : Tok} (n : Nat) (h : t.kind ≠ 0) : atX p (t, n, 0) = (t.put (p : Int), ((p + n : Nat) : Int), 0) := by unfold atX; rw [if_neg h]
theorem rnum_err (l : List UInt8) : (parseR l).2 = 0 ∨ (parseR l).2 = 3 ∨ (parseR l).2 = 5 := by
  unfold parseR told
  repeat' split
  all_goals simp
theorem drop_at (s : ByteArray) (a k : Nat) (h : a + k < s.size) : (s.data.toList.drop a)[k]? = some s[a + k] := by
  have hl : s.data.toList.length = s.size := by simp
  rw [List.getElem?_drop, List.getElem?_eq_getElem (by omega), ByteArray.getElem_eq_getElem_data, Array.getElem_toList]
theorem ext_mid (s : ByteArray) (a n : Nat) : (s.extract a (a + n)).data.toList = (s.data.toList.drop a).take n := by
  simp [List.take_drop]
set_option maxHeartbeats 4000000 in
theorem rrow_num (s : ByteArray) (a : Nat) (w : World) (hs : s.size ≤ 1024) (ha : a ≤ s.size) :
    Calls Tryz.prog 103 #[.string s, .int .i64 (a : Int), .bool false] w fun e w' => e = .returned (.int .i64 (runN numB (s.data.toList.drop a) : Int)) ∧ w' = w := by
  have HL : Hid ((s.data.toList.drop a).length = s.size - a) := by show _ = _; rw [List.length_drop]; simp
  go_enter Tryz.func103, Tryz.ntmps103
  go_wp2
  go_loop [7] (fun nv => ∃ k : Nat, a + k ≤ s.size ∧ nv = .int .i64 k ∧ ((s.data.toList.drop a).take k).all numB = true) (fun nv => s.size - (intOf nv).toNat)
  case atStart => exact ⟨0, by omega, rfl, by simp⟩
  case round =>
    obtain ⟨k, hk, rfl, hall⟩ := hrel
    have HA := hide hall
    clear hall
    by_cases hlt : a + k < s.size
    · have g1 : (a : Int) + (k : Int) < s.size := by omega
      have hk' : k < (s.data.toList.drop a).length := by have := HL.out; omega
      have e0 : (s.data.toList.drop a)[k] = s[a + k] := by
        have := drop_at s a k hlt
        rw [List.getElem?_eq_getElem hk'] at this
        simpa using this
      have HD : Hid (∀ W : World, Calls Tryz.prog 87 #[.int .u8 (s[a + k].toNat : Int)] W fun e w' => e = .returned (.bool (isDig s[a + k])) ∧ w' = W) := fun W => rdig_any s[a + k] W
      have HT : Hid (∀ W : World, Calls Tryz.prog 91 #[.int .u8 (s[a + k].toNat : Int)] W fun e w' => e = .returned (.bool (letterB s[a + k])) ∧ w' = W) := fun W => rletter_any s[a + k] W
      have e1 : ((s[a + k].toNat : Int) == 46) = decide (s[a + k].toNat = 46) := by rw [Bool.eq_iff_iff]; simp; omega
      have e2 : ((s[a + k].toNat : Int) == 36) = decide (s[a + k].toNat = 36) := by rw [Bool.eq_iff_iff]; simp; omega
      have e3 : ((s[a + k].toNat : Int) == 95) = decide (s[a + k].toNat = 95) := by rw [Bool.eq_iff_iff]; simp; omega
      have n1 : ((s[a + k].toNat : Int) != 46) = !decide (s[a + k].toNat = 46) := by unfold bne; rw [e1]
      have n2 : ((s[a + k].toNat : Int) != 36) = !decide (s[a + k].toNat = 36) := by unfold bne; rw [e2]
      have n3 : ((s[a + k].toNat : Int) != 95) = !decide (s[a + k].toNat = 95) := by unfold bne; rw [e3]
      have HS : Hid (numB s[a + k] = true → ((s.data.toList.drop a).take (k + 1)).all numB = true) := fun h => by
        rw [List.take_succ_eq_append_getElem hk', List.all_append, HA.out, e0]
        simp [h]
      have HF : Hid (numB s[a + k] = false → runN numB (s.data.toList.drop a) = k) := fun h => run_at (by omega) HA.out (fun _ => by rw [e0]; exact h)
      have HP : Hid (numB s[a + k] = (isDig s[a + k] || decide (s[a + k].toNat = 46))) := rfl
      clear e0 HA
      generalize decide (s[a + k].toNat = 46) = p46 at *
      generalize decide (s[a + k].toNat = 36) = p36 at *
      generalize decide (s[a + k].toNat = 95) = p95 at *
      generalize isDig s[a + k] = d at *
      generalize letterB s[a + k] = l at *
      cases d
      · cases p46
        · have HY := hide (HF.out (by rw [HP.out]; simp))
          go_wp2_with (first | (go_at_call 87; refine (HD.out _).mono ?_; rintro e wz ⟨rfl, hz⟩; subst wz) | (go_at_call 91; refine (HT.out _).mono ?_; rintro e wz ⟨rfl, hz⟩; subst wz))
          go_ret
          exact ⟨by rw [HY.out]; rfl, rfl⟩
        · have HY := hide (HS.out (by rw [HP.out]; simp))
          go_wp2_with (first | (go_at_call 87; refine (HD.out _).mono ?_; rintro e wz ⟨rfl, hz⟩; subst wz) | (go_at_call 91; refine (HT.out _).mono ?_; rintro e wz ⟨rfl, hz⟩; subst wz))
          go_round
          case rel => exact ⟨k + 1, by omega, by go_num, HY.out⟩
          case measure => simp [intOf]; omega
      · have HY := hide (HS.out (by rw [HP.out]; simp))
        go_wp2_with (first | (go_at_call 87; refine (HD.out _).mono ?_; rintro e wz ⟨rfl, hz⟩; subst wz) | (go_at_call 91; refine (HT.out _).mono ?_; rintro e wz ⟨rfl, hz⟩; subst wz))
        go_round
        case rel => exact ⟨k + 1, by omega, by go_num, HY.out⟩
        case measure => simp [intOf]; omega
    · have g1 : ¬ (a : Int) + (k : Int) < s.size := by omega
      have HF : Hid (runN numB (s.data.toList.drop a) = k) := run_at (by have := HL.out; omega) HA.out (fun h => by have := HL.out; omega)
      go_wp2
      go_ret
      exact ⟨by rw [HF.out]; rfl, rfl⟩
set_option maxHeartbeats 4000000 in
theorem rrow_word (s : ByteArray) (a : Nat) (w : World) (hs : s.size ≤ 1024) (ha : a ≤ s.size) :
    Calls Tryz.prog 103 #[.string s, .int .i64 (a : Int), .bool true] w fun e w' => e = .returned (.int .i64 (runN wordB (s.data.toList.drop a) : Int)) ∧ w' = w := by
  have HL : Hid ((s.data.toList.drop a).length = s.size - a) := by show _ = _; rw [List.length_drop]; simp
  go_enter Tryz.func103, Tryz.ntmps103
  go_wp2
  go_loop [7] (fun nv => ∃ k : Nat, a + k ≤ s.size ∧ nv = .int .i64 k ∧ ((s.data.toList.drop a).take k).all wordB = true) (fun nv => s.size - (intOf nv).toNat)
  case atStart => exact ⟨0, by omega, rfl, by simp⟩
  case round =>
    obtain ⟨k, hk, rfl, hall⟩ := hrel
    have HA := hide hall
    clear hall
    by_cases hlt : a + k < s.size
    · have g1 : (a : Int) + (k : Int) < s.size := by omega
      have hk' : k < (s.data.toList.drop a).length := by have := HL.out; omega
      have e0 : (s.data.toList.drop a)[k] = s[a + k] := by
        have := drop_at s a k hlt
        rw [List.getElem?_eq_getElem hk'] at this
        simpa using this
      have HD : Hid (∀ W : World, Calls Tryz.prog 87 #[.int .u8 (s[a + k].toNat : Int)] W fun e w' => e = .returned (.bool (isDig s[a + k])) ∧ w' = W) := fun W => rdig_any s[a + k] W
      have HT : Hid (∀ W : World, Calls Tryz.prog 91 #[.int .u8 (s[a + k].toNat : Int)] W fun e w' => e = .returned (.bool (letterB s[a + k])) ∧ w' = W) := fun W => rletter_any s[a + k] W
      have e1 : ((s[a + k].toNat : Int) == 46) = decide (s[a + k].toNat = 46) := by rw [Bool.eq_iff_iff]; simp; omega
      have e2 : ((s[a + k].toNat : Int) == 36) = decide (s[a + k].toNat = 36) := by rw [Bool.eq_iff_iff]; simp; omega
      have e3 : ((s[a + k].toNat : Int) == 95) = decide (s[a + k].toNat = 95) := by rw [Bool.eq_iff_iff]; simp; omega
      have n1 : ((s[a + k].toNat : Int) != 46) = !decide (s[a + k].toNat = 46) := by unfold bne; rw [e1]
      have n2 : ((s[a + k].toNat : Int) != 36) = !decide (s[a + k].toNat = 36) := by unfold bne; rw [e2]
      have n3 : ((s[a + k].toNat : Int) != 95) = !decide (s[a + k].toNat = 95) := by unfold bne; rw [e3]
      have HS : Hid (wordB s[a + k] = true → ((s.data.toList.drop a).take (k + 1)).all wordB = true) := fun h => by
        rw [List.take_succ_eq_append_getElem hk', List.all_append, HA.out, e0]
        simp [h]
      have HF : Hid (wordB s[a + k] = false → runN wordB (s.data.toList.drop a) = k) := fun h => run_at (by omega) HA.out (fun _ => by rw [e0]; exact h)
      have HP : Hid (wordB s[a + k] = (letterB s[a + k] || isDig s[a + k] || decide (s[a + k].toNat = 36) || decide (s[a + k].toNat = 46) || decide (s[a + k].toNat = 95))) := rfl
      clear e0 HA
      generalize decide (s[a + k].toNat = 46) = p46 at *
      generalize decide (s[a + k].toNat = 36) = p36 at *
      generalize decide (s[a + k].toNat = 95) = p95 at *
      generalize isDig s[a + k] = d at *
      generalize letterB s[a + k] = l at *
      cases d
      · cases p46
        · cases l
          · cases p36
            · cases p95
              · have HY := hide (HF.out (by rw [HP.out]; simp))
                go_wp2_with (first | (go_at_call 87; refine (HD.out _).mono ?_; rintro e wz ⟨rfl, hz⟩; subst wz) | (go_at_call 91; refine (HT.out _).mono ?_; rintro e wz ⟨rfl, hz⟩; subst wz))
                go_ret
                exact ⟨by rw [HY.out]; rfl, rfl⟩
              · have HY := hide (HS.out (by rw [HP.out]; simp))
                go_wp2_with (first | (go_at_call 87; refine (HD.out _).mono ?_; rintro e wz ⟨rfl, hz⟩; subst wz) | (go_at_call 91; refine (HT.out _).mono ?_; rintro e wz ⟨rfl, hz⟩; subst wz))
                go_round
                case rel => exact ⟨k + 1, by omega, by go_num, HY.out⟩
                case measure => simp [intOf]; omega
            · have HY := hide (HS.out (by rw [HP.out]; simp))
              go_wp2_with (first | (go_at_call 87; refine (HD.out _).mono ?_; rintro e wz ⟨rfl, hz⟩; subst wz) | (go_at_call 91; refine (HT.out _).mono ?_; rintro e wz ⟨rfl, hz⟩; subst wz))
              go_round
              case rel => exact ⟨k + 1, by omega, by go_num, HY.out⟩
              case measure => simp [intOf]; omega
          · have HY := hide (HS.out (by rw [HP.out]; simp))
            go_wp2_with (first | (go_at_call 87; refine (HD.out _).mono ?_; rintro e wz ⟨rfl, hz⟩; subst wz) | (go_at_call 91; refine (HT.out _).mono ?_; rintro e wz ⟨rfl, hz⟩; subst wz))
            go_round
            case rel => exact ⟨k + 1, by omega, by go_num, HY.out⟩
            case measure => simp [intOf]; omega
        · have HY := hide (HS.out (by rw [HP.out]; simp))
          go_wp2_with (first | (go_at_call 87; refine (HD.out _).mono ?_; rintro e wz ⟨rfl, hz⟩; subst wz) | (go_at_call 91; refine (HT.out _).mono ?_; rintro e wz ⟨rfl, hz⟩; subst wz))
          go_round
          case rel => exact ⟨k + 1, by omega, by go_num, HY.out⟩
          case measure => simp [intOf]; omega
      · have HY := hide (HS.out (by rw [HP.out]; simp))
        go_wp2_with (first | (go_at_call 87; refine (HD.out _).mono ?_; rintro e wz ⟨rfl, hz⟩; subst wz) | (go_at_call 91; refine (HT.out _).mono ?_; rintro e wz ⟨rfl, hz⟩; subst wz))
        go_round
        case rel => exact ⟨k + 1, by omega, by go_num, HY.out⟩
        case measure => simp [intOf]; omega
    · have g1 : ¬ (a : Int) + (k : Int) < s.size := by omega
      have HF : Hid (runN wordB (s.data.toList.drop a) = k) := run_at (by have := HL.out; omega) HA.out (fun h => by have := HL.out; omega)
      go_wp2
      go_ret
      exact ⟨by rw [HF.out]; rfl, rfl⟩
set_option maxHeartbeats 2000000 in
theorem rnum_any (s : ByteArray) (a : Nat) (w : World) (hs : s.size ≤ 1024) (ha : a ≤ s.size) :
    Calls Tryz.prog 88 #[.string s, .int .i64 (a : Int)] w fun e w' => e = .returned (.tuple #[tokV (atX a (numberT (s.data.toList.drop a))).1, .int .i64 (atX a (numberT (s.data.toList.drop a))).2.1, .int .i64 (atX a (numberT (s.data.toList.drop a))).2.2]) ∧ Below w.heap.size w w' := by
  have hl := run_le numB (s.data.toList.drop a)
  have hl' : (s.data.toList.drop a).length = s.size - a := by rw [List.length_drop]; simp
  have HR : Hid (∀ W : World, Calls Tryz.prog 103 #[.string s, .int .i64 (a : Int), .bool false] W fun e w' => e = .returned (.int .i64 (runN numB (s.data.toList.drop a) : Int)) ∧ w' = W) := fun W => rrow_num s a W hs ha
  have HP : Hid (∀ W : World, Calls Tryz.prog 104 #[.string (s.extract a (a + runN numB (s.data.toList.drop a)))] W fun e w' => e = .returned (.tuple #[.int .i64 (parseR ((s.data.toList.drop a).take (runN numB (s.data.toList.drop a)))).1, .int .i64 (parseR ((s.data.toList.drop a).take (runN numB (s.data.toList.drop a)))).2]) ∧ w' = W) := fun W => by
    have := rparse_any (s.extract a (a + runN numB (s.data.toList.drop a))) W (by have := ext_size s a (a + runN numB (s.data.toList.drop a)); unfold maxLen; omega)
    rw [ext_mid] at this
    exact this
  have hcase := rnum_err ((s.data.toList.drop a).take (runN numB (s.data.toList.drop a)))
  unfold numberT
  generalize parseR ((s.data.toList.drop a).take (runN numB (s.data.toList.drop a))) = r at *
  generalize runN numB (s.data.toList.drop a) = n at *
  obtain ⟨v, z⟩ := r
  have hn : (a : Int) + (n : Int) ≤ s.size := by omega
  clear hl hl'
  simp only at *
  rcases hcase with rfl | rfl | rfl
  · rw [if_pos rfl, atX_yes a n (by simp [valTok])]
    go_enter Tryz.func88, Tryz.ntmps88
    go_wp2_with (first | (go_at_call 103; refine (HR.out _).mono ?_; rintro e wz ⟨rfl, hz⟩; subst wz) | (go_at_call 104; refine (HP.out _).mono ?_; rintro e wz ⟨rfl, hz⟩; subst wz))
    refine bodyPost_ret (v := .tuple #[.agg #[.int .i64 1, .int .i64 1, .int .i64 v, .string ⟨#[]⟩, .bool false, .int .i64 0, .int .i64 0, .int .i64 0, .bool false, .bool false, .string ⟨#[]⟩, .int .i64 (a : Int)], .int .i64 ((a : Int) + (n : Int)), .int .i64 0]) (by simp [results, Tryz.results88, go_sem, *]) rfl ⟨rfl, ?_⟩
    repeat' (first | with_reducible exact Below.refl _ _ | with_reducible refine Below.setCell ?_ ?_ _ | with_reducible refine Below.alloc ?_ ?_ _ | with_reducible refine below_drewN ?_ _ | with_reducible refine Below.drew ?_ | with_reducible refine Below.trans ?_ (Below.mono (by assumption) ?_) | with_reducible exact Nat.le_refl _ | with_reducible refine Nat.le_trans ?_ (Below.size (by assumption)) | with_reducible refine Nat.le_trans ?_ (size_alloc _ _) | with_reducible refine Nat.le_trans ?_ (size_set _ _ _) | with_reducible refine Nat.le_trans ?_ (size_drewN _ _) | with_reducible refine Nat.le_trans ?_ (size_drew _) | (simp; done) | (simp; omega) | omega)
  · rw [if_neg (by decide), atX_no]
    go_enter Tryz.func88, Tryz.ntmps88
    go_wp2_with (first | (go_at_call 103; refine (HR.out _).mono ?_; rintro e wz ⟨rfl, hz⟩; subst wz) | (go_at_call 104; refine (HP.out _).mono ?_; rintro e wz ⟨rfl, hz⟩; subst wz))
    refine bodyPost_ret (v := .tuple #[.agg #[.int .i64 0, .int .i64 0, .int .i64 0, .string ⟨#[]⟩, .bool false, .int .i64 0, .int .i64 0, .int .i64 0, .bool false, .bool false, .string ⟨#[]⟩, .int .i64 0], .int .i64 0, .int .i64 3]) (by simp [results, Tryz.results88, go_sem, *]) rfl ⟨rfl, ?_⟩
    repeat' (first | with_reducible exact Below.refl _ _ | with_reducible refine Below.setCell ?_ ?_ _ | with_reducible refine Below.alloc ?_ ?_ _ | with_reducible refine below_drewN ?_ _ | with_reducible refine Below.drew ?_ | with_reducible refine Below.trans ?_ (Below.mono (by assumption) ?_) | with_reducible exact Nat.le_refl _ | with_reducible refine Nat.le_trans ?_ (Below.size (by assumption)) | with_reducible refine Nat.le_trans ?_ (size_alloc _ _) | with_reducible refine Nat.le_trans ?_ (size_set _ _ _) | with_reducible refine Nat.le_trans ?_ (size_drewN _ _) | with_reducible refine Nat.le_trans ?_ (size_drew _) | (simp; done) | (simp; omega) | omega)
  · rw [if_neg (by decide), atX_no]
    go_enter Tryz.func88, Tryz.ntmps88
    go_wp2_with (first | (go_at_call 103; refine (HR.out _).mono ?_; rintro e wz ⟨rfl, hz⟩; subst wz) | (go_at_call 104; refine (HP.out _).mono ?_; rintro e wz ⟨rfl, hz⟩; subst wz))
    refine bodyPost_ret (v := .tuple #[.agg #[.int .i64 0, .int .i64 0, .int .i64 0, .string ⟨#[]⟩, .bool false, .int .i64 0, .int .i64 0, .int .i64 0, .bool false, .bool false, .string ⟨#[]⟩, .int .i64 0], .int .i64 0, .int .i64 5]) (by simp [results, Tryz.results88, go_sem, *]) rfl ⟨rfl, ?_⟩
    repeat' (first | with_reducible exact Below.refl _ _ | with_reducible refine Below.setCell ?_ ?_ _ | with_reducible refine Below.alloc ?_ ?_ _ | with_reducible refine below_drewN ?_ _ | with_reducible refine Below.drew ?_ | with_reducible refine Below.trans ?_ (Below.mono (by assumption) ?_) | with_reducible exact Nat.le_refl _ | with_reducible refine Nat.le_trans ?_ (Below.size (by assumption)) | with_reducible refine Nat.le_trans ?_ (size_alloc _ _) | with_reducible refine Nat.le_trans ?_ (size_set _ _ _) | with_reducible refine Nat.le_trans ?_ (size_drewN _ _) | with_reducible refine Nat.le_trans ?_ (size_drew _) | (simp; done) | (simp; omega) | omega)
end
section
open Go.RowKit
theorem str_one' (s : ByteArray) (k : Nat) (h : k < s.size) : s.extract k (k + 1) = ⟨#[s[k]]⟩ := by
  apply ByteArray.ext
  apply Array.toList_inj.1
  have hl : s.data.toList.length = s.size := by simp
  have e0 : s[k] = s.data.toList[k]'(by omega) := by rw [ByteArray.getElem_eq_getElem_data, Array.getElem_toList]
  rw [ByteArray.data_extract, Array.toList_extract, List.extract_eq_take_drop]
  have : k + 1 - k = 1 := by omega
  rw [this, List.drop_eq_getElem_cons (by omega), ← e0]
  rfl
/-- What is left of a quoted text behind a part of it. -/
def TxtAt (l : List UInt8) (j k : Nat) (T : List UInt8) : Prop := txt (l.drop j) = (txt (l.drop k)).map (fun x => (T ++ x.1, (k - j) + x.2))
theorem txt_start (l : List UInt8) (j : Nat) : TxtAt l j j [] := by unfold TxtAt; cases txt (l.drop j) <;> simp
theorem txt_go {l : List UInt8} {j k : Nat} {T : List UInt8} (h : TxtAt l j k T) (hj : j ≤ k) (hk : k < l.length) (hc : l[k].toNat ≠ 34) : TxtAt l j (k + 1) (T ++ [l[k]]) := by
  unfold TxtAt at *
  rw [h, List.drop_eq_getElem_cons hk, txt_in _ hc]
  cases txt (l.drop (k + 1)) with
  | none => rfl
  | some x => simp; omega
theorem txt_dble {l : List UInt8} {j k : Nat} {T : List UInt8} (h : TxtAt l j k T) (hj : j ≤ k) (hk : k + 1 < l.length) (hc : l[k].toNat = 34) (hd : l[k + 1].toNat = 34) : TxtAt l j (k + 2) (T ++ [34]) := by
  unfold TxtAt at *
  rw [h, List.drop_eq_getElem_cons (show k < l.length by omega), List.drop_eq_getElem_cons hk, byte34.1 hc, byte34.1 hd, txt_two]
  cases txt (l.drop (k + 2)) with
  | none => rfl
  | some x => simp; omega
theorem txt_close {l : List UInt8} {j k : Nat} {T : List UInt8} (h : TxtAt l j k T) (hk : k < l.length) (hc : l[k].toNat = 34) (hd : ∀ h : k + 1 < l.length, l[k + 1].toNat ≠ 34) : txt (l.drop j) = some (T, (k - j) + 1) := by
  unfold TxtAt at h
  rw [h, List.drop_eq_getElem_cons hk, byte34.1 hc]
  by_cases h1 : k + 1 < l.length
  · rw [List.drop_eq_getElem_cons h1, txt_end _ (hd h1)]; simp
  · rw [List.drop_of_length_le (by omega)]; simp [txt]
theorem txt_over {l : List UInt8} {j k : Nat} {T : List UInt8} (h : TxtAt l j k T) (hk : l.length ≤ k) : txt (l.drop j) = none := by
  unfold TxtAt at h
  rw [h, List.drop_of_length_le hk]; simp [txt]
set_option maxHeartbeats 4000000 in
theorem rtext_any (s : ByteArray) (a : Nat) (w : World) (hs : s.size ≤ 1024) (ha : a < s.size) :
    Calls Tryz.prog 89 #[.string s, .int .i64 (a : Int)] w fun e w' => e = .returned (.tuple #[tokV (atX a (textT (s.data.toList.drop a))).1, .int .i64 (atX a (textT (s.data.toList.drop a))).2.1, .int .i64 (atX a (textT (s.data.toList.drop a))).2.2]) ∧ Below w.heap.size w w' := by
  have HL : Hid (s.data.toList.length = s.size) := by show _ = _; simp
  have HB : Hid (∀ k (h : k < s.size), s[k] = s.data.toList[k]'(by have := HL.out; omega)) := fun k h => by rw [ByteArray.getElem_eq_getElem_data, Array.getElem_toList]
  have hT : textT (s.data.toList.drop a) = textOfT (txt (s.data.toList.drop (a + 1))) := by unfold textT; rw [List.tail_drop]
  rw [hT]
  clear hT
  go_enter Tryz.func89, Tryz.ntmps89
  go_wp2
  go_loopw [7, 8] (fun tv iv wr => ∃ (k : Nat) (T : ByteArray), a + 1 ≤ k ∧ k ≤ s.size ∧ T.size + a + 1 ≤ k ∧ iv = .int .i64 k ∧ tv = .string T ∧ TxtAt s.data.toList (a + 1) k T.data.toList ∧ Below (w.heap.size + 1) (w.alloc (.cells #[.int .i64 0, .int .i64 0, .int .i64 0, .string ⟨#[]⟩, .bool false, .int .i64 0, .int .i64 0, .int .i64 0, .bool false, .bool false, .string ⟨#[]⟩, .int .i64 0] 115)) wr) (fun _ iv _ => s.size - (intOf iv).toNat)
  case atStart => exact ⟨a + 1, ⟨#[]⟩, by omega, by omega, by show 0 + a + 1 ≤ _; omega, by go_num, rfl, txt_start _ _, Below.refl _ _⟩
  case round =>
    obtain ⟨k, T, hk1, hk2, hk3, rfl, rfl, hx, hBr⟩ := hrel
    have HX := hide hx
    clear hx
    obtain ⟨c_r, f_r⟩ := bcelln hBr
    have z_r : w.heap.size < wr.heap.size := by have := hBr.size; simp at this; omega
    by_cases hlt : k < s.size
    · have g1 : (k : Int) < s.size := by omega
      by_cases h34 : s[k].toNat = 34
      · have e1 : ((s[k].toNat : Int) != 34) = false := by unfold bne; rw [show ((s[k].toNat : Int) == 34) = true by rw [beq_iff_eq]; omega]; rfl
        by_cases hlt2 : k + 1 < s.size
        · have g2 : (k : Int) + 1 < s.size := by omega
          by_cases h34' : s[k + 1].toNat = 34
          · have e2 : ((s[k + 1].toNat : Int) == 34) = true := by rw [beq_iff_eq]; omega
            have HY := hide (txt_dble HX.out hk1 (by have := HL.out; omega) (by rw [← HB.out k hlt]; exact h34) (by rw [← HB.out (k + 1) hlt2]; exact h34'))
            have n1 : ¬ 9223372036854775807 < T.size + 1 := by omega
            clear h34 h34'
            go_wp2
            go_roundw
            case rel => exact ⟨k + 2, T ++ ⟨#[34]⟩, by omega, by omega, by rw [ByteArray.size_append]; show T.size + 1 + a + 1 ≤ _; omega, by go_num, rfl, by have := HY.out; simpa using this, hBr⟩
            case measure => simp [intOf]; omega
          · have e2 : ((s[k + 1].toNat : Int) == 34) = false := by rw [beq_eq_false_iff_ne]; omega
            have HY := hide (txt_close HX.out (by have := HL.out; omega) (by rw [← HB.out k hlt]; exact h34) (fun h => by rw [← HB.out (k + 1) hlt2]; exact h34'))
            clear h34 h34'
            by_cases h255 : 255 < T.size
            · have g255 : (255 : Int) < T.size := by omega
              go_wp2
              rw [HY.out, show textOfT (some (T.data.toList, k - (a + 1) + 1)) = (zt, 0, 7) by show (if _ then _ else _) = _; rw [if_pos (by simpa using h255)], atX_no]
              refine bodyPost_ret (v := .tuple #[.agg #[.int .i64 0, .int .i64 0, .int .i64 0, .string ⟨#[]⟩, .bool false, .int .i64 0, .int .i64 0, .int .i64 0, .bool false, .bool false, .string ⟨#[]⟩, .int .i64 0], .int .i64 0, .int .i64 7]) (by simp [results, Tryz.results89, go_sem, *]) rfl ⟨rfl, ?_⟩
              repeat' (first | with_reducible exact Below.refl _ _ | with_reducible refine Below.setCell ?_ ?_ _ | with_reducible refine Below.alloc ?_ ?_ _ | with_reducible refine below_drewN ?_ _ | with_reducible refine Below.drew ?_ | with_reducible refine Below.trans ?_ (Below.mono (by assumption) ?_) | with_reducible exact Nat.le_refl _ | with_reducible refine Nat.le_trans ?_ (Below.size (by assumption)) | with_reducible refine Nat.le_trans ?_ (size_alloc _ _) | with_reducible refine Nat.le_trans ?_ (size_set _ _ _) | with_reducible refine Nat.le_trans ?_ (size_drewN _ _) | with_reducible refine Nat.le_trans ?_ (size_drew _) | (simp; done) | (simp; omega) | omega)
            · have g255 : ¬ (255 : Int) < T.size := by omega
              go_wp2
              rw [HY.out, show textOfT (some (T.data.toList, k - (a + 1) + 1)) = (valTok 2 0 T.data.toList false 0, k - (a + 1) + 1 + 1, 0) by show (if _ then _ else _) = _; rw [if_neg (by simpa using h255)], atX_yes a _ (by simp [valTok]), show a + (k - (a + 1) + 1 + 1) = k + 1 by omega]
              refine bodyPost_ret (v := .tuple #[.agg #[.int .i64 1, .int .i64 2, .int .i64 0, .string T, .bool false, .int .i64 0, .int .i64 0, .int .i64 0, .bool false, .bool false, .string ⟨#[]⟩, .int .i64 (a : Int)], .int .i64 ((k : Int) + 1), .int .i64 0]) (by simp [results, Tryz.results89, go_sem, *]) rfl ⟨rfl, ?_⟩
              repeat' (first | with_reducible exact Below.refl _ _ | with_reducible refine Below.setCell ?_ ?_ _ | with_reducible refine Below.alloc ?_ ?_ _ | with_reducible refine below_drewN ?_ _ | with_reducible refine Below.drew ?_ | with_reducible refine Below.trans ?_ (Below.mono (by assumption) ?_) | with_reducible exact Nat.le_refl _ | with_reducible refine Nat.le_trans ?_ (Below.size (by assumption)) | with_reducible refine Nat.le_trans ?_ (size_alloc _ _) | with_reducible refine Nat.le_trans ?_ (size_set _ _ _) | with_reducible refine Nat.le_trans ?_ (size_drewN _ _) | with_reducible refine Nat.le_trans ?_ (size_drew _) | (simp; done) | (simp; omega) | omega)
        · have g2 : ¬ (k : Int) + 1 < s.size := by omega
          have HY := hide (txt_close HX.out (by have := HL.out; omega) (by rw [← HB.out k hlt]; exact h34) (fun h => by have := HL.out; omega))
          clear h34
          by_cases h255 : 255 < T.size
          · have g255 : (255 : Int) < T.size := by omega
            go_wp2
            rw [HY.out, show textOfT (some (T.data.toList, k - (a + 1) + 1)) = (zt, 0, 7) by show (if _ then _ else _) = _; rw [if_pos (by simpa using h255)], atX_no]
            refine bodyPost_ret (v := .tuple #[.agg #[.int .i64 0, .int .i64 0, .int .i64 0, .string ⟨#[]⟩, .bool false, .int .i64 0, .int .i64 0, .int .i64 0, .bool false, .bool false, .string ⟨#[]⟩, .int .i64 0], .int .i64 0, .int .i64 7]) (by simp [results, Tryz.results89, go_sem, *]) rfl ⟨rfl, ?_⟩
            repeat' (first | with_reducible exact Below.refl _ _ | with_reducible refine Below.setCell ?_ ?_ _ | with_reducible refine Below.alloc ?_ ?_ _ | with_reducible refine below_drewN ?_ _ | with_reducible refine Below.drew ?_ | with_reducible refine Below.trans ?_ (Below.mono (by assumption) ?_) | with_reducible exact Nat.le_refl _ | with_reducible refine Nat.le_trans ?_ (Below.size (by assumption)) | with_reducible refine Nat.le_trans ?_ (size_alloc _ _) | with_reducible refine Nat.le_trans ?_ (size_set _ _ _) | with_reducible refine Nat.le_trans ?_ (size_drewN _ _) | with_reducible refine Nat.le_trans ?_ (size_drew _) | (simp; done) | (simp; omega) | omega)
          · have g255 : ¬ (255 : Int) < T.size := by omega
            go_wp2
            rw [HY.out, show textOfT (some (T.data.toList, k - (a + 1) + 1)) = (valTok 2 0 T.data.toList false 0, k - (a + 1) + 1 + 1, 0) by show (if _ then _ else _) = _; rw [if_neg (by simpa using h255)], atX_yes a _ (by simp [valTok]), show a + (k - (a + 1) + 1 + 1) = k + 1 by omega]
            refine bodyPost_ret (v := .tuple #[.agg #[.int .i64 1, .int .i64 2, .int .i64 0, .string T, .bool false, .int .i64 0, .int .i64 0, .int .i64 0, .bool false, .bool false, .string ⟨#[]⟩, .int .i64 (a : Int)], .int .i64 ((k : Int) + 1), .int .i64 0]) (by simp [results, Tryz.results89, go_sem, *]) rfl ⟨rfl, ?_⟩
            repeat' (first | with_reducible exact Below.refl _ _ | with_reducible refine Below.setCell ?_ ?_ _ | with_reducible refine Below.alloc ?_ ?_ _ | with_reducible refine below_drewN ?_ _ | with_reducible refine Below.drew ?_ | with_reducible refine Below.trans ?_ (Below.mono (by assumption) ?_) | with_reducible exact Nat.le_refl _ | with_reducible refine Nat.le_trans ?_ (Below.size (by assumption)) | with_reducible refine Nat.le_trans ?_ (size_alloc _ _) | with_reducible refine Nat.le_trans ?_ (size_set _ _ _) | with_reducible refine Nat.le_trans ?_ (size_drewN _ _) | with_reducible refine Nat.le_trans ?_ (size_drew _) | (simp; done) | (simp; omega) | omega)
      · have e1 : ((s[k].toNat : Int) != 34) = true := by unfold bne; rw [show ((s[k].toNat : Int) == 34) = false by rw [beq_eq_false_iff_ne]; omega]; rfl
        have HY := hide (txt_go HX.out hk1 (by have := HL.out; omega) (by rw [← HB.out k hlt]; exact h34))
        have ho := str_one' s k hlt
        have n1 : ¬ 9223372036854775807 < T.size + 1 := by omega
        clear h34
        go_wp2
        go_roundw
        case rel => exact ⟨k + 1, T ++ ⟨#[s[k]]⟩, by omega, by omega, by rw [ByteArray.size_append]; show T.size + 1 + a + 1 ≤ _; omega, by go_num, rfl, by have := HY.out; rw [← HB.out k hlt] at this; simpa using this, hBr⟩
        case measure => simp [intOf]; omega
    · have g1 : ¬ (k : Int) < s.size := by omega
      have HY := hide (txt_over HX.out (by have := HL.out; omega))
      go_wp2
      rw [HY.out, show textOfT none = (zt, 0, 5) from rfl, atX_no]
      refine bodyPost_ret (v := .tuple #[.agg #[.int .i64 0, .int .i64 0, .int .i64 0, .string ⟨#[]⟩, .bool false, .int .i64 0, .int .i64 0, .int .i64 0, .bool false, .bool false, .string ⟨#[]⟩, .int .i64 0], .int .i64 0, .int .i64 5]) (by simp [results, Tryz.results89, go_sem, *]) rfl ⟨rfl, ?_⟩
      repeat' (first | with_reducible exact Below.refl _ _ | with_reducible refine Below.setCell ?_ ?_ _ | with_reducible refine Below.alloc ?_ ?_ _ | with_reducible refine below_drewN ?_ _ | with_reducible refine Below.drew ?_ | with_reducible refine Below.trans ?_ (Below.mono (by assumption) ?_) | with_reducible exact Nat.le_refl _ | with_reducible refine Nat.le_trans ?_ (Below.size (by assumption)) | with_reducible refine Nat.le_trans ?_ (size_alloc _ _) | with_reducible refine Nat.le_trans ?_ (size_set _ _ _) | with_reducible refine Nat.le_trans ?_ (size_drewN _ _) | with_reducible refine Nat.le_trans ?_ (size_drew _) | (simp; done) | (simp; omega) | omega)
end
section
open Go.RowKit
theorem short_of {L : List (List UInt8)} (h : (L.all fun x => decide (x.length ≤ 10)) = true) (k : Nat) : (L.getD k []).length ≤ 10 := by
  rw [List.getD_eq_getElem?_getD]
  cases e : L[k]? with
  | none => simp
  | some x => simpa using List.all_eq_true.1 h x (List.mem_of_getElem? e)
theorem name_short (k : Nat) : (nameL k).length ≤ 10 := short_of (L := names) (by decide) k
theorem sign_short (k : Nat) : (rsignL k).length ≤ 10 := short_of (L := rsigns) (by decide) k
theorem strs_cell (W : World) (L : List (List UInt8)) (t : TypeId) (j : Nat) (h : j < L.length) : (W.alloc (.cells (L.map fun l => Value.string ⟨l.toArray⟩).toArray t)).cell? ⟨W.heap.size, j, none⟩ = some (.string ⟨(L.getD j []).toArray⟩) := by
  have := heap_alloc_new W (.cells (L.map fun l => Value.string ⟨l.toArray⟩).toArray t)
  simp only [World.cell?, this]
  simp [h]
set_option maxRecDepth 100000 in
set_option maxHeartbeats 4000000 in
theorem rfault_any (s : ByteArray) (a : Nat) (w : World) (hs : s.size ≤ 1024) (ha : a ≤ s.size) :
    Calls Tryz.prog 90 #[.string s, .int .i64 (a : Int)] w fun e w' => e = .returned (.tuple #[tokV (atX a (faultT (s.data.toList.drop a))).1, .int .i64 (atX a (faultT (s.data.toList.drop a))).2.1, .int .i64 (atX a (faultT (s.data.toList.drop a))).2.2]) ∧ Below w.heap.size w w' := by
  have HL : Hid (s.data.toList.length = s.size) := by show _ = _; simp
  have hT : faultT (s.data.toList.drop a) = faultOfT (pick nameL (s.data.toList.drop a) 1 (8 - 1)) := rfl
  rw [hT]
  clear hT
  go_enter Tryz.func90, Tryz.ntmps90
  go_wp2_with (go_at_call 105; refine (names_any _).mono ?_; rintro e wn ⟨rfl, hwn⟩; subst wn)
  have HC : Hid (∀ j, j < 8 → ((w.alloc (.cells #[.int .i64 0, .int .i64 0, .int .i64 0, .string ⟨#[]⟩, .bool false, .int .i64 0, .int .i64 0, .int .i64 0, .bool false, .bool false, .string ⟨#[]⟩, .int .i64 0] 115)).alloc (.cells (names.map fun l => Value.string ⟨l.toArray⟩).toArray 9)).cell? ⟨w.heap.size + 1, j, none⟩ = some (.string ⟨(nameL j).toArray⟩)) := fun j hj => by have := strs_cell (w.alloc (.cells #[.int .i64 0, .int .i64 0, .int .i64 0, .string ⟨#[]⟩, .bool false, .int .i64 0, .int .i64 0, .int .i64 0, .bool false, .bool false, .string ⟨#[]⟩, .int .i64 0] 115)) names 9 j hj; rw [World.size_alloc] at this; exact this
  go_loopw [8] (fun iv wr => ∃ k : Nat, 1 ≤ k ∧ k ≤ 8 ∧ iv = .int .i64 k ∧ pick nameL (s.data.toList.drop a) 1 (8 - 1) = pick nameL (s.data.toList.drop a) k (8 - k) ∧ Below (w.heap.size + 2) ((w.alloc (.cells #[.int .i64 0, .int .i64 0, .int .i64 0, .string ⟨#[]⟩, .bool false, .int .i64 0, .int .i64 0, .int .i64 0, .bool false, .bool false, .string ⟨#[]⟩, .int .i64 0] 115)).alloc (.cells (names.map fun l => Value.string ⟨l.toArray⟩).toArray 9)) wr) (fun iv _ => 8 - (intOf iv).toNat)
  case atStart => exact ⟨1, by omega, by omega, rfl, rfl, Below.refl _ _⟩
  case round =>
    obtain ⟨k, hk1, hk2, rfl, hp, hB⟩ := hrel
    have HK := hide hp
    clear hp
    have z_r : w.heap.size + 1 < wr.heap.size := by have := hB.size; simp at this; omega
    have z_r0 : w.heap.size < wr.heap.size := by omega
    have hBw : Below w.heap.size w wr := (((Below.refl _ _).alloc (Nat.le_refl _) _).alloc (by simp) _).trans (hB.mono (by omega))
    have HCr : Hid (∀ j, j < 8 → wr.cell? ⟨w.heap.size + 1, j, none⟩ = some (.string ⟨(nameL j).toArray⟩)) := fun j hj => by rw [hB.cell (p := ⟨w.heap.size + 1, j, none⟩) (by simp)]; exact HC.out j hj
    have B12 : Below (w.heap.size + 1) (w.alloc (.cells #[.int .i64 0, .int .i64 0, .int .i64 0, .string ⟨#[]⟩, .bool false, .int .i64 0, .int .i64 0, .int .i64 0, .bool false, .bool false, .string ⟨#[]⟩, .int .i64 0] 115)) wr := ((Below.refl _ _).alloc (by simp) _).trans (hB.mono (by omega))
    obtain ⟨c_r, f_r⟩ := bcelln B12
    by_cases hN : k = 8
    · have HF : Hid (pick nameL (s.data.toList.drop a) 1 (8 - 1) = none) := by show _ = _; rw [HK.out, hN]; simp [pick]
      have g8 : ¬ (k : Int) < 8 := by omega
      clear HC HCr
      go_wp2
      rw [HF.out]
      refine bodyPost_ret (v := .tuple #[.agg #[.int .i64 0, .int .i64 0, .int .i64 0, .string ⟨#[]⟩, .bool false, .int .i64 0, .int .i64 0, .int .i64 0, .bool false, .bool false, .string ⟨#[]⟩, .int .i64 0], .int .i64 0, .int .i64 5]) (by simp [results, Tryz.results90, go_sem, *]) rfl ⟨rfl, ?_⟩
      repeat' (first | with_reducible exact Below.refl _ _ | with_reducible refine Below.setCell ?_ ?_ _ | with_reducible refine Below.alloc ?_ ?_ _ | with_reducible refine below_drewN ?_ _ | with_reducible refine Below.drew ?_ | with_reducible refine Below.trans ?_ (Below.mono (by assumption) ?_) | with_reducible exact Nat.le_refl _ | with_reducible refine Nat.le_trans ?_ (Below.size (by assumption)) | with_reducible refine Nat.le_trans ?_ (size_alloc _ _) | with_reducible refine Nat.le_trans ?_ (size_set _ _ _) | with_reducible refine Nat.le_trans ?_ (size_drewN _ _) | with_reducible refine Nat.le_trans ?_ (size_drew _) | (simp; done) | (simp; omega) | omega)
    · have g8 : (k : Int) < 8 := by omega
      have g0 : (0 : Int) ≤ (k : Int) := by omega
      have hk3 : k < 8 := by omega
      have hc := HCr.out k hk3
      have HT : Hid ((⟨(nameL k).toArray⟩ : ByteArray).data.toList = nameL k) := rfl
      have HZ : Hid ((⟨(nameL k).toArray⟩ : ByteArray).size = (nameL k).length) := by show (nameL k).toArray.size = _; simp
      generalize hTT : (⟨(nameL k).toArray⟩ : ByteArray) = T at hc HT HZ
      have HTT := hide hTT
      have HQ : Hid (∃ q, 8 - k = q + 1) := ⟨8 - 1 - k, by omega⟩
      have hps : ∀ b : Bool, Lib.hasPrefix (s.data.toList.drop a) (nameL k) = b → (b = true ↔ (nameL k) <+: s.data.toList.drop a) := fun b hb => by
        rw [← hb]; unfold Lib.hasPrefix; exact List.isPrefixOf_iff_prefix
      have hTs : T.size ≤ 10 := by rw [HZ.out]; exact name_short k
      clear HC HCr hTT
      by_cases hlen : a + T.size ≤ s.size
      · have g5 : (T.size : Int) ≤ (s.size : Int) - (a : Int) := by omega
        have hx : (s.extract a (a + T.size)).data.toList = (s.data.toList.drop a).take T.size := ext_mid s a T.size
        cases hpf : Lib.hasPrefix (s.data.toList.drop a) (nameL k)
        · have t1 : ((s.extract a (a + T.size)).toList == T.toList) = false := by
            rw [ByteArray.toList_eq, ByteArray.toList_eq, hx, HT.out, beq_eq_false_iff_ne]
            intro e
            have h3 := (hps false hpf).2 (by rw [← e]; exact List.take_prefix _ _)
            cases h3
          have HM : Hid (pick nameL (s.data.toList.drop a) 1 (8 - 1) = pick nameL (s.data.toList.drop a) (k + 1) (8 - (k + 1))) := by
            obtain ⟨q, hq⟩ := HQ.out
            show _ = _; rw [HK.out, hq, pick_miss hpf, show q = 8 - (k + 1) by omega]
          clear hpf hps hx
          go_wp2
          go_quiet (fail)
          go_wp2
          go_roundw
          case rel => exact ⟨k + 1, by omega, by omega, by go_num, HM.out, hB.trans (by repeat' (first | with_reducible exact Below.refl _ _ | with_reducible refine Below.setCell ?_ ?_ _ | with_reducible refine Below.alloc ?_ ?_ _ | with_reducible refine below_drewN ?_ _ | with_reducible refine Below.drew ?_ | with_reducible refine Below.trans ?_ (Below.mono (by assumption) ?_) | with_reducible exact Nat.le_refl _ | with_reducible refine Nat.le_trans ?_ (Below.size (by assumption)) | with_reducible refine Nat.le_trans ?_ (size_alloc _ _) | with_reducible refine Nat.le_trans ?_ (size_set _ _ _) | with_reducible refine Nat.le_trans ?_ (size_drewN _ _) | with_reducible refine Nat.le_trans ?_ (size_drew _) | (simp; done) | (simp; omega) | omega))⟩
          case measure => simp [intOf]; omega
        · have t1 : ((s.extract a (a + T.size)).toList == T.toList) = true := by
            rw [ByteArray.toList_eq, ByteArray.toList_eq, hx, HT.out, beq_iff_eq, HZ.out]
            exact (List.prefix_iff_eq_take.1 ((hps true hpf).1 rfl)).symm
          have HM : Hid (pick nameL (s.data.toList.drop a) 1 (8 - 1) = some k) := by
            obtain ⟨q, hq⟩ := HQ.out
            show _ = _; rw [HK.out, hq, pick_hit hpf]
          clear hpf hps hx
          go_wp2
          go_quiet (fail)
          go_wp2
          have c_n : ∀ b o, b < w.heap.size + 1 → (wr.drewN nq).cell? ⟨b, o, none⟩ = (w.alloc (.cells #[.int .i64 0, .int .i64 0, .int .i64 0, .string ⟨#[]⟩, .bool false, .int .i64 0, .int .i64 0, .int .i64 0, .bool false, .bool false, .string ⟨#[]⟩, .int .i64 0] 115)).cell? ⟨b, o, none⟩ := c_r
          go_region
          go_wp2
          rw [HM.out]
          refine bodyPost_ret (v := .tuple #[.agg #[.int .i64 1, .int .i64 4, .int .i64 0, .string ⟨#[]⟩, .bool false, .int .i64 (k : Int), .int .i64 0, .int .i64 0, .bool false, .bool false, .string ⟨#[]⟩, .int .i64 (a : Int)], .int .i64 ((a : Int) + (T.size : Int)), .int .i64 0]) (by simp [results, Tryz.results90, go_sem, *]) rfl ⟨by rw [HZ.out]; show _ = Ending.returned (.tuple #[tokV (atX a ((valTok 4 0 [] false k, (nameL k).length, 0))).1, .int .i64 (atX a ((valTok 4 0 [] false k, (nameL k).length, 0))).2.1, .int .i64 (atX a ((valTok 4 0 [] false k, (nameL k).length, 0))).2.2]); rw [atX_yes a _ (by simp [valTok])]; rfl, ?_⟩
          repeat' (first | with_reducible exact Below.refl _ _ | with_reducible refine Below.setCell ?_ ?_ _ | with_reducible refine Below.alloc ?_ ?_ _ | with_reducible refine below_drewN ?_ _ | with_reducible refine Below.drew ?_ | with_reducible refine Below.trans ?_ (Below.mono (by assumption) ?_) | with_reducible exact Nat.le_refl _ | with_reducible refine Nat.le_trans ?_ (Below.size (by assumption)) | with_reducible refine Nat.le_trans ?_ (size_alloc _ _) | with_reducible refine Nat.le_trans ?_ (size_set _ _ _) | with_reducible refine Nat.le_trans ?_ (size_drewN _ _) | with_reducible refine Nat.le_trans ?_ (size_drew _) | (simp; done) | (simp; omega) | omega)
      · have g5 : ¬ (T.size : Int) ≤ (s.size : Int) - (a : Int) := by omega
        have g6 : decide ((T.size : Int) ≤ (s.size : Int) - (a : Int)) = false := by simpa using g5
        have hpf : Lib.hasPrefix (s.data.toList.drop a) (nameL k) = false := by
          cases hb : Lib.hasPrefix (s.data.toList.drop a) (nameL k)
          · rfl
          · have h3 := ((hps true hb).1 rfl).length_le
            rw [List.length_drop, HL.out, ← HZ.out] at h3
            omega
        have HM : Hid (pick nameL (s.data.toList.drop a) 1 (8 - 1) = pick nameL (s.data.toList.drop a) (k + 1) (8 - (k + 1))) := by
          obtain ⟨q, hq⟩ := HQ.out
          show _ = _; rw [HK.out, hq, pick_miss hpf, show q = 8 - (k + 1) by omega]
        clear hpf hps
        go_wp2
        go_quiet (fail)
        go_wp2
        go_roundw
        case rel => exact ⟨k + 1, by omega, by omega, by go_num, HM.out, hB.trans (by repeat' (first | with_reducible exact Below.refl _ _ | with_reducible refine Below.setCell ?_ ?_ _ | with_reducible refine Below.alloc ?_ ?_ _ | with_reducible refine below_drewN ?_ _ | with_reducible refine Below.drew ?_ | with_reducible refine Below.trans ?_ (Below.mono (by assumption) ?_) | with_reducible exact Nat.le_refl _ | with_reducible refine Nat.le_trans ?_ (Below.size (by assumption)) | with_reducible refine Nat.le_trans ?_ (size_alloc _ _) | with_reducible refine Nat.le_trans ?_ (size_set _ _ _) | with_reducible refine Nat.le_trans ?_ (size_drewN _ _) | with_reducible refine Nat.le_trans ?_ (size_drew _) | (simp; done) | (simp; omega) | omega))⟩
        case measure => simp [intOf]; omega
set_option maxRecDepth 100000 in
set_option maxHeartbeats 4000000 in
theorem rsign_any (s : ByteArray) (a : Nat) (w : World) (hs : s.size ≤ 1024) (ha : a ≤ s.size) :
    Calls Tryz.prog 93 #[.string s, .int .i64 (a : Int)] w fun e w' => e = .returned (.tuple #[tokV (atX a (signT (s.data.toList.drop a))).1, .int .i64 (atX a (signT (s.data.toList.drop a))).2.1, .int .i64 (atX a (signT (s.data.toList.drop a))).2.2]) ∧ Below w.heap.size w w' := by
  have HL : Hid (s.data.toList.length = s.size) := by show _ = _; simp
  have hT : signT (s.data.toList.drop a) = signOfT ((pick rsignL (s.data.toList.drop a) 0 (15 - 0)).map rsignL) := by unfold signT; rw [← signs_same]
  rw [hT]
  clear hT
  go_enter Tryz.func93, Tryz.ntmps93
  go_wp2
  have HC : Hid (∀ j, j < 15 → ((w.alloc (.cells #[.int .i64 0, .int .i64 0, .int .i64 0, .string ⟨#[]⟩, .bool false, .int .i64 0, .int .i64 0, .int .i64 0, .bool false, .bool false, .string ⟨#[]⟩, .int .i64 0] 115)).alloc (.cells (rsigns.map fun l => Value.string ⟨l.toArray⟩).toArray 9)).cell? ⟨w.heap.size + 1, j, none⟩ = some (.string ⟨(rsignL j).toArray⟩)) := fun j hj => by have := strs_cell (w.alloc (.cells #[.int .i64 0, .int .i64 0, .int .i64 0, .string ⟨#[]⟩, .bool false, .int .i64 0, .int .i64 0, .int .i64 0, .bool false, .bool false, .string ⟨#[]⟩, .int .i64 0] 115)) rsigns 9 j hj; rw [World.size_alloc] at this; exact this
  go_loopw [8] (fun iv wr => ∃ k : Nat, 0 ≤ k ∧ k ≤ 15 ∧ iv = .int .i64 k ∧ pick rsignL (s.data.toList.drop a) 0 (15 - 0) = pick rsignL (s.data.toList.drop a) k (15 - k) ∧ Below (w.heap.size + 2) ((w.alloc (.cells #[.int .i64 0, .int .i64 0, .int .i64 0, .string ⟨#[]⟩, .bool false, .int .i64 0, .int .i64 0, .int .i64 0, .bool false, .bool false, .string ⟨#[]⟩, .int .i64 0] 115)).alloc (.cells (rsigns.map fun l => Value.string ⟨l.toArray⟩).toArray 9)) wr) (fun iv _ => 15 - (intOf iv).toNat)
  case atStart => exact ⟨0, by omega, by omega, rfl, rfl, Below.refl _ _⟩
  case round =>
    obtain ⟨k, hk1, hk2, rfl, hp, hB⟩ := hrel
    have HK := hide hp
    clear hp
    have z_r : w.heap.size + 1 < wr.heap.size := by have := hB.size; simp at this; omega
    have z_r0 : w.heap.size < wr.heap.size := by omega
    have hBw : Below w.heap.size w wr := (((Below.refl _ _).alloc (Nat.le_refl _) _).alloc (by simp) _).trans (hB.mono (by omega))
    have HCr : Hid (∀ j, j < 15 → wr.cell? ⟨w.heap.size + 1, j, none⟩ = some (.string ⟨(rsignL j).toArray⟩)) := fun j hj => by rw [hB.cell (p := ⟨w.heap.size + 1, j, none⟩) (by simp)]; exact HC.out j hj
    have B12 : Below (w.heap.size + 1) (w.alloc (.cells #[.int .i64 0, .int .i64 0, .int .i64 0, .string ⟨#[]⟩, .bool false, .int .i64 0, .int .i64 0, .int .i64 0, .bool false, .bool false, .string ⟨#[]⟩, .int .i64 0] 115)) wr := ((Below.refl _ _).alloc (by simp) _).trans (hB.mono (by omega))
    obtain ⟨c_r, f_r⟩ := bcelln B12
    by_cases hN : k = 15
    · have HF : Hid (pick rsignL (s.data.toList.drop a) 0 (15 - 0) = none) := by show _ = _; rw [HK.out, hN]; simp [pick]
      have g8 : ¬ (k : Int) < 15 := by omega
      clear HC HCr
      go_wp2
      rw [HF.out]
      refine bodyPost_ret (v := .tuple #[.agg #[.int .i64 0, .int .i64 0, .int .i64 0, .string ⟨#[]⟩, .bool false, .int .i64 0, .int .i64 0, .int .i64 0, .bool false, .bool false, .string ⟨#[]⟩, .int .i64 0], .int .i64 0, .int .i64 5]) (by simp [results, Tryz.results93, go_sem, *]) rfl ⟨rfl, ?_⟩
      repeat' (first | with_reducible exact Below.refl _ _ | with_reducible refine Below.setCell ?_ ?_ _ | with_reducible refine Below.alloc ?_ ?_ _ | with_reducible refine below_drewN ?_ _ | with_reducible refine Below.drew ?_ | with_reducible refine Below.trans ?_ (Below.mono (by assumption) ?_) | with_reducible exact Nat.le_refl _ | with_reducible refine Nat.le_trans ?_ (Below.size (by assumption)) | with_reducible refine Nat.le_trans ?_ (size_alloc _ _) | with_reducible refine Nat.le_trans ?_ (size_set _ _ _) | with_reducible refine Nat.le_trans ?_ (size_drewN _ _) | with_reducible refine Nat.le_trans ?_ (size_drew _) | (simp; done) | (simp; omega) | omega)
    · have g8 : (k : Int) < 15 := by omega
      have g0 : (0 : Int) ≤ (k : Int) := by omega
      have hk3 : k < 15 := by omega
      have hc := HCr.out k hk3
      have HT : Hid ((⟨(rsignL k).toArray⟩ : ByteArray).data.toList = rsignL k) := rfl
      have HZ : Hid ((⟨(rsignL k).toArray⟩ : ByteArray).size = (rsignL k).length) := by show (rsignL k).toArray.size = _; simp
      generalize hTT : (⟨(rsignL k).toArray⟩ : ByteArray) = T at hc HT HZ
      have HTT := hide hTT
      have HQ : Hid (∃ q, 15 - k = q + 1) := ⟨15 - 1 - k, by omega⟩
      have hps : ∀ b : Bool, Lib.hasPrefix (s.data.toList.drop a) (rsignL k) = b → (b = true ↔ (rsignL k) <+: s.data.toList.drop a) := fun b hb => by
        rw [← hb]; unfold Lib.hasPrefix; exact List.isPrefixOf_iff_prefix
      have hTs : T.size ≤ 10 := by rw [HZ.out]; exact sign_short k
      clear HC HCr hTT
      by_cases hlen : a + T.size ≤ s.size
      · have g5 : (T.size : Int) ≤ (s.size : Int) - (a : Int) := by omega
        have hx : (s.extract a (a + T.size)).data.toList = (s.data.toList.drop a).take T.size := ext_mid s a T.size
        cases hpf : Lib.hasPrefix (s.data.toList.drop a) (rsignL k)
        · have t1 : ((s.extract a (a + T.size)).toList == T.toList) = false := by
            rw [ByteArray.toList_eq, ByteArray.toList_eq, hx, HT.out, beq_eq_false_iff_ne]
            intro e
            have h3 := (hps false hpf).2 (by rw [← e]; exact List.take_prefix _ _)
            cases h3
          have HM : Hid (pick rsignL (s.data.toList.drop a) 0 (15 - 0) = pick rsignL (s.data.toList.drop a) (k + 1) (15 - (k + 1))) := by
            obtain ⟨q, hq⟩ := HQ.out
            show _ = _; rw [HK.out, hq, pick_miss hpf, show q = 15 - (k + 1) by omega]
          clear hpf hps hx
          go_wp2
          go_quiet (fail)
          go_wp2
          go_roundw
          case rel => exact ⟨k + 1, by omega, by omega, by go_num, HM.out, hB.trans (by repeat' (first | with_reducible exact Below.refl _ _ | with_reducible refine Below.setCell ?_ ?_ _ | with_reducible refine Below.alloc ?_ ?_ _ | with_reducible refine below_drewN ?_ _ | with_reducible refine Below.drew ?_ | with_reducible refine Below.trans ?_ (Below.mono (by assumption) ?_) | with_reducible exact Nat.le_refl _ | with_reducible refine Nat.le_trans ?_ (Below.size (by assumption)) | with_reducible refine Nat.le_trans ?_ (size_alloc _ _) | with_reducible refine Nat.le_trans ?_ (size_set _ _ _) | with_reducible refine Nat.le_trans ?_ (size_drewN _ _) | with_reducible refine Nat.le_trans ?_ (size_drew _) | (simp; done) | (simp; omega) | omega))⟩
          case measure => simp [intOf]; omega
        · have t1 : ((s.extract a (a + T.size)).toList == T.toList) = true := by
            rw [ByteArray.toList_eq, ByteArray.toList_eq, hx, HT.out, beq_iff_eq, HZ.out]
            exact (List.prefix_iff_eq_take.1 ((hps true hpf).1 rfl)).symm
          have HM : Hid (pick rsignL (s.data.toList.drop a) 0 (15 - 0) = some k) := by
            obtain ⟨q, hq⟩ := HQ.out
            show _ = _; rw [HK.out, hq, pick_hit hpf]
          clear hpf hps hx
          go_wp2
          go_quiet (fail)
          go_wp2
          have c_n : ∀ b o, b < w.heap.size + 1 → (wr.drewN nq).cell? ⟨b, o, none⟩ = (w.alloc (.cells #[.int .i64 0, .int .i64 0, .int .i64 0, .string ⟨#[]⟩, .bool false, .int .i64 0, .int .i64 0, .int .i64 0, .bool false, .bool false, .string ⟨#[]⟩, .int .i64 0] 115)).cell? ⟨b, o, none⟩ := c_r
          go_region
          go_wp2
          rw [HM.out]
          refine bodyPost_ret (v := .tuple #[.agg #[.int .i64 4, .int .i64 0, .int .i64 0, .string ⟨#[]⟩, .bool false, .int .i64 0, .int .i64 0, .int .i64 0, .bool false, .bool false, .string T, .int .i64 (a : Int)], .int .i64 ((a : Int) + (T.size : Int)), .int .i64 0]) (by simp [results, Tryz.results93, go_sem, *]) rfl ⟨by rw [HZ.out]; show _ = Ending.returned (.tuple #[tokV (atX a ((opTok (rsignL k), (rsignL k).length, 0))).1, .int .i64 (atX a ((opTok (rsignL k), (rsignL k).length, 0))).2.1, .int .i64 (atX a ((opTok (rsignL k), (rsignL k).length, 0))).2.2]); rw [atX_yes a _ (by simp [opTok]), ← HTT.out]; rfl, ?_⟩
          repeat' (first | with_reducible exact Below.refl _ _ | with_reducible refine Below.setCell ?_ ?_ _ | with_reducible refine Below.alloc ?_ ?_ _ | with_reducible refine below_drewN ?_ _ | with_reducible refine Below.drew ?_ | with_reducible refine Below.trans ?_ (Below.mono (by assumption) ?_) | with_reducible exact Nat.le_refl _ | with_reducible refine Nat.le_trans ?_ (Below.size (by assumption)) | with_reducible refine Nat.le_trans ?_ (size_alloc _ _) | with_reducible refine Nat.le_trans ?_ (size_set _ _ _) | with_reducible refine Nat.le_trans ?_ (size_drewN _ _) | with_reducible refine Nat.le_trans ?_ (size_drew _) | (simp; done) | (simp; omega) | omega)
      · have g5 : ¬ (T.size : Int) ≤ (s.size : Int) - (a : Int) := by omega
        have g6 : decide ((T.size : Int) ≤ (s.size : Int) - (a : Int)) = false := by simpa using g5
        have hpf : Lib.hasPrefix (s.data.toList.drop a) (rsignL k) = false := by
          cases hb : Lib.hasPrefix (s.data.toList.drop a) (rsignL k)
          · rfl
          · have h3 := ((hps true hb).1 rfl).length_le
            rw [List.length_drop, HL.out, ← HZ.out] at h3
            omega
        have HM : Hid (pick rsignL (s.data.toList.drop a) 0 (15 - 0) = pick rsignL (s.data.toList.drop a) (k + 1) (15 - (k + 1))) := by
          obtain ⟨q, hq⟩ := HQ.out
          show _ = _; rw [HK.out, hq, pick_miss hpf, show q = 15 - (k + 1) by omega]
        clear hpf hps
        go_wp2
        go_quiet (fail)
        go_wp2
        go_roundw
        case rel => exact ⟨k + 1, by omega, by omega, by go_num, HM.out, hB.trans (by repeat' (first | with_reducible exact Below.refl _ _ | with_reducible refine Below.setCell ?_ ?_ _ | with_reducible refine Below.alloc ?_ ?_ _ | with_reducible refine below_drewN ?_ _ | with_reducible refine Below.drew ?_ | with_reducible refine Below.trans ?_ (Below.mono (by assumption) ?_) | with_reducible exact Nat.le_refl _ | with_reducible refine Nat.le_trans ?_ (Below.size (by assumption)) | with_reducible refine Nat.le_trans ?_ (size_alloc _ _) | with_reducible refine Nat.le_trans ?_ (size_set _ _ _) | with_reducible refine Nat.le_trans ?_ (size_drewN _ _) | with_reducible refine Nat.le_trans ?_ (size_drew _) | (simp; done) | (simp; omega) | omega))⟩
        case measure => simp [intOf]; omega
end
end Go.Proofs.YtklldmidcmfbdaaGreatDoor
