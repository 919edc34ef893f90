/-
  Out of LxR4, what is asked for (laid by pack9.py).
-/
import Derived.Test.YtklldmidcmfbdaaGreatDoorVNum
import Derived.Test.YtklldmidcmfbdaaGreatDoorVNum2
import Derived.Test.YtklldmidcmfbdaaGreatDoorVPla5
import Derived.Test.YtklldmidcmfbdaaGreatDoorVPla7
import Derived.Test.YtklldmidcmfbdaaGreatDoorVVal
import Derived.Test.YtklldmidcmfbdaaGreatDoorVVal3
import Derived.Test.YtklldmidcmfbdaaGreatDoorVVal4
import Derived.Test.YtklldmidcmfbdaaGreatDoorZ1
import Derived.Test.YtklldmidcmfbdaaGreatDoorZ2
import Derived.BigCall
import Derived.BigGuard
import Derived.BigQuiet
import Derived.ChangeArms
import Derived.Deep.QuietTactic
import Derived.Deep.RegionHeld3
import Derived.Deep.RegionWith
import Derived.Laws.Cover1
import Derived.Laws.EntriesVeiled
import Derived.Laws.IdiomStrings
import Derived.Lib.AppendIntMem
import Derived.Lib.AtoiErrMem
import Derived.Lib.IndexMore
import Derived.Lib.ItoaMem
import Derived.Lib.LaidTab
import Derived.Lib.MinMax
import Derived.Lib.OthersKept
import Derived.Lib.Replace
import Derived.Lib.SmallJoins
import Derived.Lib.Walk
import Derived.LoopTactic
import Derived.WalkKit
import Derived.WalkLawsBesides
import Derived.WalkSpells
import Derived.WideShapes
namespace Go.Proofs.YtklldmidcmfbdaaGreatDoor
section
open Go.RowKit
/-- Bytes of a name. -/
def nmC (c : UInt8) : Bool := letterB c || isDig c || decide (c.toNat = 46) || decide (c.toNat = 95)
def nmB (l : List UInt8) : Bool := decide (1 ≤ l.length) && decide (l.length ≤ 20) && (match l with | [] => false | c :: _ => letterB c) && l.all nmC
theorem nm_word {c : UInt8} {r : List UInt8} (h : (c :: r).all wordB = true) (hc : (letterB c || decide (c.toNat = 36)) = true) : nmB (c :: r) = !((c :: r).any (fun x => decide (x.toNat = 36)) || decide (20 < (c :: r).length)) := by
  rw [Bool.eq_iff_iff]
  unfold nmB
  simp only [Bool.and_eq_true, decide_eq_true_eq, Bool.not_eq_true', Bool.or_eq_false_iff, decide_eq_false_iff_not, List.any_eq_false, List.all_eq_true] at h ⊢
  have dol : ∀ x : UInt8, x.toNat = 36 → nmC x = false := fun x hx => by
    have : x = 36 := (byte_is (n := 36) (by omega)).1 hx
    subst this; decide
  constructor
  · rintro ⟨⟨⟨_, h2⟩, _⟩, h4⟩
    exact ⟨fun x hx e => (by have := h4 x hx; rw [dol x e] at this; cases this), by omega⟩
  · rintro ⟨h1, h2⟩
    refine ⟨⟨⟨by simp, by omega⟩, ?_⟩, fun x hx => ?_⟩
    · have := h1 c (by simp)
      simpa [this] using hc
    · have h3 := h x hx
      have h4 := h1 x hx
      unfold wordB at h3
      unfold nmC
      simp [h4] at h3 ⊢
      exact h3
set_option maxHeartbeats 4000000 in
theorem rname_any (s : ByteArray) (w : World) (hs : s.size ≤ 1024) :
    Calls Tryz.prog 106 #[.string s] w fun e w' => e = .returned (.bool (nmB s.data.toList)) ∧ w' = w := by
  have HL : Hid (s.data.toList.length = s.size) := by show _ = _; simp
  have HB : Hid (∀ k (h : k < s.size), s[k] = s.data.toList[k]'(by have := HL.out; omega)) := fun k h => by rw [ByteArray.getElem_eq_getElem_data, Array.getElem_toList]
  by_cases h0 : s.size < 1
  · have g0 : (s.size : Int) < 1 := by omega
    rw [show nmB s.data.toList = false by unfold nmB; rw [show decide (1 ≤ s.data.toList.length) = false from decide_eq_false (by have := HL.out; omega)]; rfl]
    go_enter Tryz.func106, Tryz.ntmps106
    go_wp2
    go_ret
    exact ⟨rfl, rfl⟩
  · have g0 : ¬ (s.size : Int) < 1 := by omega
    by_cases h20 : 20 < s.size
    · have g20 : (20 : Int) < s.size := by omega
      rw [show nmB s.data.toList = false by unfold nmB; rw [show decide (s.data.toList.length ≤ 20) = false from decide_eq_false (by have := HL.out; omega)]; simp]
      go_enter Tryz.func106, Tryz.ntmps106
      go_wp2
      go_ret
      exact ⟨rfl, rfl⟩
    · have g20 : ¬ (20 : Int) < s.size := by omega
      have hp : 0 < s.size := by omega
      obtain ⟨r, hr⟩ : ∃ r, s.data.toList = s[0] :: r := by
        have : 0 < s.data.toList.length := by have := HL.out; omega
        refine ⟨s.data.toList.drop 1, ?_⟩
        have e := List.drop_eq_getElem_cons this
        rw [List.drop_zero] at e
        rw [HB.out 0 hp]
        exact e
      have HN : Hid (nmB s.data.toList = (letterB s[0] && s.data.toList.all nmC)) := by
        have e1 : nmB s.data.toList = (decide (1 ≤ s.data.toList.length) && decide (s.data.toList.length ≤ 20) && (match s.data.toList with | [] => false | c :: _ => letterB c) && s.data.toList.all nmC) := rfl
        have e2 : (match s.data.toList with | [] => false | c :: _ => letterB c) = letterB s[0] := by rw [hr]
        show _ = _
        rw [e1, e2, show decide (1 ≤ s.data.toList.length) = true from decide_eq_true (by have := HL.out; omega), show decide (s.data.toList.length ≤ 20) = true from decide_eq_true (by have := HL.out; omega)]
        rfl
      have HT : Hid (∀ k (_ : k < s.size) (W : World), Calls Tryz.prog 91 #[.int .u8 (s[k].toNat : Int)] W fun e w' => e = .returned (.bool (letterB s[k])) ∧ w' = W) := fun k _ W => rletter_any s[k] W
      have HD : Hid (∀ k (_ : k < s.size) (W : World), Calls Tryz.prog 87 #[.int .u8 (s[k].toNat : Int)] W fun e w' => e = .returned (.bool (isDig s[k])) ∧ w' = W) := fun k _ W => rdig_any s[k] W
      clear hr
      cases hl0 : letterB s[0]
      · have HT0 := hide (HT.out 0 hp)
        rw [hl0] at HT0 HN
        rw [HN.out]
        clear HT HD hl0
        go_enter Tryz.func106, Tryz.ntmps106
        go_wp2_with (go_at_call 91; refine (HT0.out _).mono ?_; rintro e wz ⟨rfl, hz⟩; subst wz)
        go_ret
        exact ⟨rfl, rfl⟩
      · have HT0 := hide (HT.out 0 hp)
        rw [hl0] at HT0 HN
        rw [HN.out]
        obtain ⟨Q, hQ⟩ : ∃ Q, s.data.toList.all nmC = Q := ⟨_, rfl⟩
        rw [hQ]
        have HQ := hide hQ
        clear hl0 hQ HN
        go_enter Tryz.func106, Tryz.ntmps106
        go_wp2_with (go_at_call 91; refine (HT0.out _).mono ?_; rintro e wz ⟨rfl, hz⟩; subst wz)
        go_loopw [3] (fun iv wr => ∃ k : Nat, k ≤ s.size ∧ iv = .int .i64 k ∧ (s.data.toList.take k).all nmC = true ∧ wr = w) (fun iv _ => s.size - (intOf iv).toNat)
        case atStart => exact ⟨0, Nat.zero_le _, rfl, by simp, rfl⟩
        case round =>
          obtain ⟨k, hk, rfl, hall, hwr⟩ := hrel
          subst wr
          have HA := hide hall
          clear hall
          by_cases hlt : k < s.size
          · have g1 : (k : Int) < s.size := by omega
            have hk' : k < s.data.toList.length := by have := HL.out; omega
            have HTk := hide (HT.out k hlt)
            have HDk := hide (HD.out k hlt)
            have e1 : ((s[k].toNat : Int) == 46) = decide (s[k].toNat = 46) := by rw [Bool.eq_iff_iff]; simp; omega
            have e3 : ((s[k].toNat : Int) == 95) = decide (s[k].toNat = 95) := by rw [Bool.eq_iff_iff]; simp; omega
            have n1 : ((s[k].toNat : Int) != 46) = !decide (s[k].toNat = 46) := by unfold bne; rw [e1]
            have n3 : ((s[k].toNat : Int) != 95) = !decide (s[k].toNat = 95) := by unfold bne; rw [e3]
            have HS : Hid (nmC s[k] = true → (s.data.toList.take (k + 1)).all nmC = true) := fun h => by
              rw [List.take_succ_eq_append_getElem hk', List.all_append, HA.out, ← HB.out k hlt]
              simp [h]
            have HF : Hid (nmC s[k] = false → s.data.toList.all nmC = false) := fun h => by
              rw [List.all_eq_false]
              exact ⟨s[k], by rw [HB.out k hlt]; exact List.getElem_mem hk', by rw [h]; simp⟩
            have HP : Hid (nmC s[k] = (letterB s[k] || isDig s[k] || decide (s[k].toNat = 46) || decide (s[k].toNat = 95))) := rfl
            clear HA HT HD HT0
            generalize decide (s[k].toNat = 46) = p46 at *
            generalize decide (s[k].toNat = 95) = p95 at *
            generalize isDig s[k] = d at *
            generalize letterB s[k] = l at *
            cases l
            · cases d
              · cases p46
                · cases p95
                  · have HY := hide (HF.out (by rw [HP.out]; simp))
                    go_wp2_with (first | (go_at_call 87; refine (HDk.out _).mono ?_; rintro e wz ⟨rfl, hz⟩; subst wz) | (go_at_call 91; refine (HTk.out _).mono ?_; rintro e wz ⟨rfl, hz⟩; subst wz))
                    go_ret
                    exact ⟨by rw [← HQ.out, HY.out]; rfl, rfl⟩
                  · have HY := hide (HS.out (by rw [HP.out]; simp))
                    go_wp2_with (first | (go_at_call 87; refine (HDk.out _).mono ?_; rintro e wz ⟨rfl, hz⟩; subst wz) | (go_at_call 91; refine (HTk.out _).mono ?_; rintro e wz ⟨rfl, hz⟩; subst wz))
                    go_roundw
                    case rel => exact ⟨k + 1, by omega, by go_num, HY.out, trivial⟩
                    case measure => simp [intOf]; omega
                · have HY := hide (HS.out (by rw [HP.out]; simp))
                  go_wp2_with (first | (go_at_call 87; refine (HDk.out _).mono ?_; rintro e wz ⟨rfl, hz⟩; subst wz) | (go_at_call 91; refine (HTk.out _).mono ?_; rintro e wz ⟨rfl, hz⟩; subst wz))
                  go_roundw
                  case rel => exact ⟨k + 1, by omega, by go_num, HY.out, trivial⟩
                  case measure => simp [intOf]; omega
              · have HY := hide (HS.out (by rw [HP.out]; simp))
                go_wp2_with (first | (go_at_call 87; refine (HDk.out _).mono ?_; rintro e wz ⟨rfl, hz⟩; subst wz) | (go_at_call 91; refine (HTk.out _).mono ?_; rintro e wz ⟨rfl, hz⟩; subst wz))
                go_roundw
                case rel => exact ⟨k + 1, by omega, by go_num, HY.out, trivial⟩
                case measure => simp [intOf]; omega
            · have HY := hide (HS.out (by rw [HP.out]; simp))
              go_wp2_with (first | (go_at_call 87; refine (HDk.out _).mono ?_; rintro e wz ⟨rfl, hz⟩; subst wz) | (go_at_call 91; refine (HTk.out _).mono ?_; rintro e wz ⟨rfl, hz⟩; subst wz))
              go_roundw
              case rel => exact ⟨k + 1, by omega, by go_num, HY.out, trivial⟩
              case measure => simp [intOf]; omega
          · have g1 : ¬ (k : Int) < s.size := by omega
            have HY : Hid (s.data.toList.all nmC = true) := by
              have := HA.out
              rw [List.take_of_length_le (by have := HL.out; omega)] at this
              exact this
            go_wp2
            go_ret
            exact ⟨by rw [← HQ.out, HY.out]; rfl, rfl⟩
set_option maxRecDepth 100000 in
set_option maxHeartbeats 4000000 in
theorem rword_any (s : ByteArray) (a : Nat) (w : World) (hs : s.size ≤ 1024) (ha : a < s.size) (hfirst : (letterB s[a] || decide (s[a].toNat = 36)) = true) :
    Calls Tryz.prog 92 #[.string s, .int .i64 (a : Int)] w fun e w' => e = .returned (.tuple #[tokV (atX a (wordT (s.data.toList.drop a))).1, .int .i64 (atX a (wordT (s.data.toList.drop a))).2.1, .int .i64 (atX a (wordT (s.data.toList.drop a))).2.2]) ∧ Below w.heap.size w w' := by
  have hsl : s.data.toList.length = s.size := by simp
  have hl := run_le wordB (s.data.toList.drop a)
  have hl' : (s.data.toList.drop a).length = s.size - a := by rw [List.length_drop, hsl]
  have hd : s.data.toList.drop a = s[a] :: s.data.toList.drop (a + 1) := by
    rw [List.drop_eq_getElem_cons (by omega), ByteArray.getElem_eq_getElem_data, ← Array.getElem_toList]
  have hw0 : wordB s[a] = true := by
    unfold wordB
    simp at hfirst ⊢
    rcases hfirst with h | h <;> simp [h]
  have hn1 : 1 ≤ runN wordB (s.data.toList.drop a) := by rw [hd]; exact run_pos hw0
  have hln : ((s.data.toList.drop a).take (runN wordB (s.data.toList.drop a))).length = runN wordB (s.data.toList.drop a) := by rw [List.length_take]; omega
  have hall : ((s.data.toList.drop a).take (runN wordB (s.data.toList.drop a))).all wordB = true := by
    have e : (s.data.toList.drop a).take (runN wordB (s.data.toList.drop a)) = (s.data.toList.drop a).takeWhile wordB := by
      unfold runN; exact (List.prefix_iff_eq_take.1 (List.takeWhile_prefix wordB)).symm
    rw [e]; exact List.all_takeWhile
  have hnm : nmB ((s.data.toList.drop a).take (runN wordB (s.data.toList.drop a))) = !(((s.data.toList.drop a).take (runN wordB (s.data.toList.drop a))).any (fun x => decide (x.toNat = 36)) || decide (20 < runN wordB (s.data.toList.drop a))) := by
    obtain ⟨m, hm⟩ : ∃ m, runN wordB (s.data.toList.drop a) = m + 1 := ⟨runN wordB (s.data.toList.drop a) - 1, by omega⟩
    rw [hm] at hall hln ⊢
    rw [hd, List.take_succ_cons] at hall hln ⊢
    rw [nm_word hall hfirst, hln]
  have HR : Hid (∀ W : World, Calls Tryz.prog 103 #[.string s, .int .i64 (a : Int), .bool true] W fun e w' => e = .returned (.int .i64 (runN wordB (s.data.toList.drop a) : Int)) ∧ w' = W) := fun W => rrow_word s a W hs (by omega)
  have hes := ext_size s a (a + runN wordB (s.data.toList.drop a))
  have HN : Hid (∀ W : World, Calls Tryz.prog 106 #[.string (s.extract a (a + runN wordB (s.data.toList.drop a)))] W fun e w' => e = .returned (.bool (nmB ((s.data.toList.drop a).take (runN wordB (s.data.toList.drop a))))) ∧ w' = W) := fun W => by
    have := rname_any (s.extract a (a + runN wordB (s.data.toList.drop a))) W (by omega)
    rw [ext_mid] at this
    exact this
  have HF : Hid (∀ W : World, Calls Tryz.prog 107 #[.string (s.extract a (a + runN wordB (s.data.toList.drop a)))] W fun e w' => e = .returned (.string ⟨(foldL ((s.data.toList.drop a).take (runN wordB (s.data.toList.drop a)))).toArray⟩) ∧ Below W.heap.size W w') := fun W => by
    have := rfold_any (s.extract a (a + runN wordB (s.data.toList.drop a))) W (by unfold maxLen; omega)
    rw [ext_mid] at this
    exact this
  have HY : Hid (∀ W : World, Calls Tryz.prog 108 #[.string (s.extract a (a + runN wordB (s.data.toList.drop a)))] W fun e w' => e = .returned (.tuple #[.agg #[.int .i64 (Pla.parseR ((s.data.toList.drop a).take (runN wordB (s.data.toList.drop a)))).1, .int .i64 (Pla.parseR ((s.data.toList.drop a).take (runN wordB (s.data.toList.drop a)))).2.1, .bool (Pla.parseR ((s.data.toList.drop a).take (runN wordB (s.data.toList.drop a)))).2.2.1, .bool (Pla.parseR ((s.data.toList.drop a).take (runN wordB (s.data.toList.drop a)))).2.2.2.1], .int .i64 (Pla.parseR ((s.data.toList.drop a).take (runN wordB (s.data.toList.drop a)))).2.2.2.2]) ∧ Below W.heap.size W w') := fun W => by
    have := Pla.rparse_any (s.extract a (a + runN wordB (s.data.toList.drop a))) W (by unfold maxLen; omega)
    rw [ext_mid] at this
    exact this
  have hpre : Lib.hasPrefix ((s.data.toList.drop a).drop (runN wordB (s.data.toList.drop a))) [40] = decide (∃ h : a + runN wordB (s.data.toList.drop a) < s.size, s[a + runN wordB (s.data.toList.drop a)].toNat = 40) := by
    rw [List.drop_drop]
    by_cases h : a + runN wordB (s.data.toList.drop a) < s.size
    · rw [List.drop_eq_getElem_cons (by omega), Bool.eq_iff_iff]
      have e0 : s[a + runN wordB (s.data.toList.drop a)] = s.data.toList[a + runN wordB (s.data.toList.drop a)]'(by omega) := by rw [ByteArray.getElem_eq_getElem_data, Array.getElem_toList]
      rw [← e0]
      have e40 : (s[a + runN wordB (s.data.toList.drop a)].toNat = 40) ↔ s[a + runN wordB (s.data.toList.drop a)] = 40 := byte_is (n := 40) (by omega)
      simp only [Lib.hasPrefix, List.isPrefixOf, Bool.and_true, beq_iff_eq, decide_eq_true_eq, h, exists_true_left, e40]
      exact eq_comm
    · rw [List.drop_of_length_le (by omega)]
      simp [Lib.hasPrefix, h]
  unfold wordT nameT plainT
  rw [hln, hpre]
  rw [hnm] at HN
  unfold namedR
  generalize ((s.data.toList.drop a).take (runN wordB (s.data.toList.drop a))).any (fun x => decide (x.toNat = 36)) = dol at *
  generalize Pla.parseR ((s.data.toList.drop a).take (runN wordB (s.data.toList.drop a))) = pr at *
  obtain ⟨F, hF⟩ : ∃ F : ByteArray, (⟨(foldL ((s.data.toList.drop a).take (runN wordB (s.data.toList.drop a)))).toArray⟩ : ByteArray) = F := ⟨_, rfl⟩
  have hFl : F.toList = foldL ((s.data.toList.drop a).take (runN wordB (s.data.toList.drop a))) := by rw [← hF, ByteArray.toList_eq]
  rw [hF] at HF
  have HFF : Hid ((⟨(foldL ((s.data.toList.drop a).take (runN wordB (s.data.toList.drop a)))).toArray⟩ : ByteArray) = F) := hF
  generalize foldL ((s.data.toList.drop a).take (runN wordB (s.data.toList.drop a))) = fl at *
  clear hnm hall hln hd hw0 hF hl' hpre hes
  generalize runN wordB (s.data.toList.drop a) = n at *
  obtain ⟨pa, pb, pc, pd, pe⟩ := pr
  have hn2 : (a : Int) + (n : Int) ≤ s.size := by rw [List.length_drop] at hl; omega
  clear hl hfirst
  simp only at *
  by_cases hbr : ∃ h : a + n < s.size, s[a + n].toNat = 40
  · obtain ⟨hb1, hb2⟩ := hbr
    have g1 : (a : Int) + (n : Int) < s.size := by omega
    have g2 : ((s[a + n].toNat : Int) == 40) = true := by rw [beq_iff_eq]; omega
    rw [if_pos (by simp; exact ⟨hb1, hb2⟩)]
    clear hb2
    cases hq : (dol || decide (20 < n))
    · rw [hq] at HN
      rw [if_neg (by simp), atX_yes a n (by simp [nameTok])]
      clear HY hFl hq
      go_enter Tryz.func92, Tryz.ntmps92
      go_wp2_with (first | (go_at_call 103; refine (HR.out _).mono ?_; rintro e wz ⟨rfl, hz⟩; subst wz) | (go_at_call 106; refine (HN.out _).mono ?_; rintro e wz ⟨rfl, hz⟩; subst wz) | (go_at_call 107; refine (HF.out _).mono ?_; rintro e w1 ⟨rfl, hb_w1⟩; obtain ⟨c_w1, f_w1⟩ := bcell hb_w1; have z_w1 : w.heap.size < w1.heap.size := by have := hb_w1.size; simp at this; omega))
      refine bodyPost_ret (v := .tuple #[.agg #[.int .i64 3, .int .i64 0, .int .i64 0, .string ⟨#[]⟩, .bool false, .int .i64 0, .int .i64 0, .int .i64 0, .bool false, .bool false, .string F, .int .i64 (a : Int)], .int .i64 ((a : Int) + (n : Int)), .int .i64 0]) (by simp [results, Tryz.results92, go_sem, *]) rfl ⟨by rw [← HFF.out]; rfl, ?_⟩
      repeat' (first | with_reducible exact Below.refl _ _ | with_reducible refine Below.setCell ?_ ?_ _ | with_reducible refine Below.alloc ?_ ?_ _ | with_reducible refine below_drewN ?_ _ | with_reducible refine Below.drew ?_ | with_reducible refine Below.trans ?_ (Below.mono (by assumption) ?_) | with_reducible exact Nat.le_refl _ | with_reducible refine Nat.le_trans ?_ (Below.size (by assumption)) | with_reducible refine Nat.le_trans ?_ (size_alloc _ _) | with_reducible refine Nat.le_trans ?_ (size_set _ _ _) | with_reducible refine Nat.le_trans ?_ (size_drewN _ _) | with_reducible refine Nat.le_trans ?_ (size_drew _) | (simp; done) | (simp; omega) | omega)
    · rw [hq] at HN
      rw [if_pos rfl, atX_no]
      clear HY hFl hq
      go_enter Tryz.func92, Tryz.ntmps92
      go_wp2_with (first | (go_at_call 103; refine (HR.out _).mono ?_; rintro e wz ⟨rfl, hz⟩; subst wz) | (go_at_call 106; refine (HN.out _).mono ?_; rintro e wz ⟨rfl, hz⟩; subst wz))
      refine bodyPost_ret (v := .tuple #[.agg #[.int .i64 0, .int .i64 0, .int .i64 0, .string ⟨#[]⟩, .bool false, .int .i64 0, .int .i64 0, .int .i64 0, .bool false, .bool false, .string ⟨#[]⟩, .int .i64 0], .int .i64 0, .int .i64 5]) (by simp [results, Tryz.results92, go_sem, *]) rfl ⟨rfl, ?_⟩
      repeat' (first | with_reducible exact Below.refl _ _ | with_reducible refine Below.setCell ?_ ?_ _ | with_reducible refine Below.alloc ?_ ?_ _ | with_reducible refine below_drewN ?_ _ | with_reducible refine Below.drew ?_ | with_reducible refine Below.trans ?_ (Below.mono (by assumption) ?_) | with_reducible exact Nat.le_refl _ | with_reducible refine Nat.le_trans ?_ (Below.size (by assumption)) | with_reducible refine Nat.le_trans ?_ (size_alloc _ _) | with_reducible refine Nat.le_trans ?_ (size_set _ _ _) | with_reducible refine Nat.le_trans ?_ (size_drewN _ _) | with_reducible refine Nat.le_trans ?_ (size_drew _) | (simp; done) | (simp; omega) | omega)
  · have hg : ¬ (a : Int) + (n : Int) < s.size ∨ ∃ h : a + n < s.size, ((s[a + n].toNat : Int) == 40) = false := by
      by_cases h : a + n < s.size
      · exact Or.inr ⟨h, by rw [beq_eq_false_iff_ne]; intro e; exact hbr ⟨h, by omega⟩⟩
      · exact Or.inl (by omega)
    rw [if_neg (by simpa using hbr)]
    clear hbr HN
    rcases hg with g1 | ⟨hb1, g2⟩
    · have g0 : True := trivial
      by_cases ht : fl = [84, 82, 85, 69]
      · have t1 : (F.toList == [84, 82, 85, 69]) = true := by rw [hFl, ht]; rfl
        rw [if_pos ht, if_pos rfl, atX_yes a n (by simp [valTok])]
        clear hFl ht HY
        go_enter Tryz.func92, Tryz.ntmps92
        go_wp2_with (first | (go_at_call 103; refine (HR.out _).mono ?_; rintro e wz ⟨rfl, hz⟩; subst wz) | (go_at_call 107; refine (HF.out _).mono ?_; rintro e w1 ⟨rfl, hb_w1⟩; obtain ⟨c_w1, f_w1⟩ := bcell hb_w1; have z_w1 : w.heap.size < w1.heap.size := by have := hb_w1.size; simp at this; omega))
        refine bodyPost_ret (v := .tuple #[.agg #[.int .i64 1, .int .i64 3, .int .i64 0, .string ⟨#[]⟩, .bool true, .int .i64 0, .int .i64 0, .int .i64 0, .bool false, .bool false, .string ⟨#[]⟩, .int .i64 (a : Int)], .int .i64 ((a : Int) + (n : Int)), .int .i64 0]) (by simp [results, Tryz.results92, go_sem, *]) rfl ⟨rfl, ?_⟩
        repeat' (first | with_reducible exact Below.refl _ _ | with_reducible refine Below.setCell ?_ ?_ _ | with_reducible refine Below.alloc ?_ ?_ _ | with_reducible refine below_drewN ?_ _ | with_reducible refine Below.drew ?_ | with_reducible refine Below.trans ?_ (Below.mono (by assumption) ?_) | with_reducible exact Nat.le_refl _ | with_reducible refine Nat.le_trans ?_ (Below.size (by assumption)) | with_reducible refine Nat.le_trans ?_ (size_alloc _ _) | with_reducible refine Nat.le_trans ?_ (size_set _ _ _) | with_reducible refine Nat.le_trans ?_ (size_drewN _ _) | with_reducible refine Nat.le_trans ?_ (size_drew _) | (simp; done) | (simp; omega) | omega)
      · have t1 : (F.toList == [84, 82, 85, 69]) = false := by rw [hFl, beq_eq_false_iff_ne]; exact ht
        rw [if_neg ht]
        by_cases hf : fl = [70, 65, 76, 83, 69]
        · have t2 : (F.toList == [70, 65, 76, 83, 69]) = true := by rw [hFl, hf]; rfl
          rw [if_pos hf, if_pos rfl, atX_yes a n (by simp [valTok])]
          clear hFl ht hf HY
          go_enter Tryz.func92, Tryz.ntmps92
          go_wp2_with (first | (go_at_call 103; refine (HR.out _).mono ?_; rintro e wz ⟨rfl, hz⟩; subst wz) | (go_at_call 107; refine (HF.out _).mono ?_; rintro e w1 ⟨rfl, hb_w1⟩; obtain ⟨c_w1, f_w1⟩ := bcell hb_w1; have z_w1 : w.heap.size < w1.heap.size := by have := hb_w1.size; simp at this; omega))
          refine bodyPost_ret (v := .tuple #[.agg #[.int .i64 1, .int .i64 3, .int .i64 0, .string ⟨#[]⟩, .bool false, .int .i64 0, .int .i64 0, .int .i64 0, .bool false, .bool false, .string ⟨#[]⟩, .int .i64 (a : Int)], .int .i64 ((a : Int) + (n : Int)), .int .i64 0]) (by simp [results, Tryz.results92, go_sem, *]) rfl ⟨rfl, ?_⟩
          repeat' (first | with_reducible exact Below.refl _ _ | with_reducible refine Below.setCell ?_ ?_ _ | with_reducible refine Below.alloc ?_ ?_ _ | with_reducible refine below_drewN ?_ _ | with_reducible refine Below.drew ?_ | with_reducible refine Below.trans ?_ (Below.mono (by assumption) ?_) | with_reducible exact Nat.le_refl _ | with_reducible refine Nat.le_trans ?_ (Below.size (by assumption)) | with_reducible refine Nat.le_trans ?_ (size_alloc _ _) | with_reducible refine Nat.le_trans ?_ (size_set _ _ _) | with_reducible refine Nat.le_trans ?_ (size_drewN _ _) | with_reducible refine Nat.le_trans ?_ (size_drew _) | (simp; done) | (simp; omega) | omega)
        · have t2 : (F.toList == [70, 65, 76, 83, 69]) = false := by rw [hFl, beq_eq_false_iff_ne]; exact hf
          rw [if_neg hf, if_neg (by simp)]
          clear hFl ht hf
          by_cases h0 : pe = 0
          · subst h0
            rw [if_pos rfl, atX_yes a n (by simp [cellTok])]
            go_enter Tryz.func92, Tryz.ntmps92
            go_wp2_with (first | (go_at_call 103; refine (HR.out _).mono ?_; rintro e wz ⟨rfl, hz⟩; subst wz) | (go_at_call 107; refine (HF.out _).mono ?_; rintro e w1 ⟨rfl, hb_w1⟩; obtain ⟨c_w1, f_w1⟩ := bcell hb_w1; have z_w1 : w.heap.size < w1.heap.size := by have := hb_w1.size; simp at this; omega) | (go_at_call 108; refine (HY.out _).mono ?_; rintro e w2 ⟨rfl, hb_w2⟩; obtain ⟨c_w2, f_w2⟩ := bcell hb_w2; have z_w2 : w.heap.size < w2.heap.size := by have := hb_w2.size; omega))
            refine bodyPost_ret (v := .tuple #[.agg #[.int .i64 2, .int .i64 0, .int .i64 0, .string ⟨#[]⟩, .bool false, .int .i64 0, .int .i64 pa, .int .i64 pb, .bool pc, .bool pd, .string ⟨#[]⟩, .int .i64 (a : Int)], .int .i64 ((a : Int) + (n : Int)), .int .i64 0]) (by simp [results, Tryz.results92, go_sem, *]) rfl ⟨rfl, ?_⟩
            repeat' (first | with_reducible exact Below.refl _ _ | with_reducible refine Below.setCell ?_ ?_ _ | with_reducible refine Below.alloc ?_ ?_ _ | with_reducible refine below_drewN ?_ _ | with_reducible refine Below.drew ?_ | with_reducible refine Below.trans ?_ (Below.mono (by assumption) ?_) | with_reducible exact Nat.le_refl _ | with_reducible refine Nat.le_trans ?_ (Below.size (by assumption)) | with_reducible refine Nat.le_trans ?_ (size_alloc _ _) | with_reducible refine Nat.le_trans ?_ (size_set _ _ _) | with_reducible refine Nat.le_trans ?_ (size_drewN _ _) | with_reducible refine Nat.le_trans ?_ (size_drew _) | (simp; done) | (simp; omega) | omega)
          · have e0 : (pe == 0) = false := by simpa using h0
            have e1 : (pe != 0) = true := by simpa using h0
            rw [if_neg h0, atX_no]
            clear h0
            go_enter Tryz.func92, Tryz.ntmps92
            go_wp2_with (first | (go_at_call 103; refine (HR.out _).mono ?_; rintro e wz ⟨rfl, hz⟩; subst wz) | (go_at_call 107; refine (HF.out _).mono ?_; rintro e w1 ⟨rfl, hb_w1⟩; obtain ⟨c_w1, f_w1⟩ := bcell hb_w1; have z_w1 : w.heap.size < w1.heap.size := by have := hb_w1.size; simp at this; omega) | (go_at_call 108; refine (HY.out _).mono ?_; rintro e w2 ⟨rfl, hb_w2⟩; obtain ⟨c_w2, f_w2⟩ := bcell hb_w2; have z_w2 : w.heap.size < w2.heap.size := by have := hb_w2.size; omega))
            refine bodyPost_ret (v := .tuple #[.agg #[.int .i64 0, .int .i64 0, .int .i64 0, .string ⟨#[]⟩, .bool false, .int .i64 0, .int .i64 0, .int .i64 0, .bool false, .bool false, .string ⟨#[]⟩, .int .i64 0], .int .i64 0, .int .i64 pe]) (by simp [results, Tryz.results92, go_sem, *]) rfl ⟨rfl, ?_⟩
            repeat' (first | with_reducible exact Below.refl _ _ | with_reducible refine Below.setCell ?_ ?_ _ | with_reducible refine Below.alloc ?_ ?_ _ | with_reducible refine below_drewN ?_ _ | with_reducible refine Below.drew ?_ | with_reducible refine Below.trans ?_ (Below.mono (by assumption) ?_) | with_reducible exact Nat.le_refl _ | with_reducible refine Nat.le_trans ?_ (Below.size (by assumption)) | with_reducible refine Nat.le_trans ?_ (size_alloc _ _) | with_reducible refine Nat.le_trans ?_ (size_set _ _ _) | with_reducible refine Nat.le_trans ?_ (size_drewN _ _) | with_reducible refine Nat.le_trans ?_ (size_drew _) | (simp; done) | (simp; omega) | omega)
    · have g1 : (a : Int) + (n : Int) < s.size := by omega
      by_cases ht : fl = [84, 82, 85, 69]
      · have t1 : (F.toList == [84, 82, 85, 69]) = true := by rw [hFl, ht]; rfl
        rw [if_pos ht, if_pos rfl, atX_yes a n (by simp [valTok])]
        clear hFl ht HY
        go_enter Tryz.func92, Tryz.ntmps92
        go_wp2_with (first | (go_at_call 103; refine (HR.out _).mono ?_; rintro e wz ⟨rfl, hz⟩; subst wz) | (go_at_call 107; refine (HF.out _).mono ?_; rintro e w1 ⟨rfl, hb_w1⟩; obtain ⟨c_w1, f_w1⟩ := bcell hb_w1; have z_w1 : w.heap.size < w1.heap.size := by have := hb_w1.size; simp at this; omega))
        refine bodyPost_ret (v := .tuple #[.agg #[.int .i64 1, .int .i64 3, .int .i64 0, .string ⟨#[]⟩, .bool true, .int .i64 0, .int .i64 0, .int .i64 0, .bool false, .bool false, .string ⟨#[]⟩, .int .i64 (a : Int)], .int .i64 ((a : Int) + (n : Int)), .int .i64 0]) (by simp [results, Tryz.results92, go_sem, *]) rfl ⟨rfl, ?_⟩
        repeat' (first | with_reducible exact Below.refl _ _ | with_reducible refine Below.setCell ?_ ?_ _ | with_reducible refine Below.alloc ?_ ?_ _ | with_reducible refine below_drewN ?_ _ | with_reducible refine Below.drew ?_ | with_reducible refine Below.trans ?_ (Below.mono (by assumption) ?_) | with_reducible exact Nat.le_refl _ | with_reducible refine Nat.le_trans ?_ (Below.size (by assumption)) | with_reducible refine Nat.le_trans ?_ (size_alloc _ _) | with_reducible refine Nat.le_trans ?_ (size_set _ _ _) | with_reducible refine Nat.le_trans ?_ (size_drewN _ _) | with_reducible refine Nat.le_trans ?_ (size_drew _) | (simp; done) | (simp; omega) | omega)
      · have t1 : (F.toList == [84, 82, 85, 69]) = false := by rw [hFl, beq_eq_false_iff_ne]; exact ht
        rw [if_neg ht]
        by_cases hf : fl = [70, 65, 76, 83, 69]
        · have t2 : (F.toList == [70, 65, 76, 83, 69]) = true := by rw [hFl, hf]; rfl
          rw [if_pos hf, if_pos rfl, atX_yes a n (by simp [valTok])]
          clear hFl ht hf HY
          go_enter Tryz.func92, Tryz.ntmps92
          go_wp2_with (first | (go_at_call 103; refine (HR.out _).mono ?_; rintro e wz ⟨rfl, hz⟩; subst wz) | (go_at_call 107; refine (HF.out _).mono ?_; rintro e w1 ⟨rfl, hb_w1⟩; obtain ⟨c_w1, f_w1⟩ := bcell hb_w1; have z_w1 : w.heap.size < w1.heap.size := by have := hb_w1.size; simp at this; omega))
          refine bodyPost_ret (v := .tuple #[.agg #[.int .i64 1, .int .i64 3, .int .i64 0, .string ⟨#[]⟩, .bool false, .int .i64 0, .int .i64 0, .int .i64 0, .bool false, .bool false, .string ⟨#[]⟩, .int .i64 (a : Int)], .int .i64 ((a : Int) + (n : Int)), .int .i64 0]) (by simp [results, Tryz.results92, go_sem, *]) rfl ⟨rfl, ?_⟩
          repeat' (first | with_reducible exact Below.refl _ _ | with_reducible refine Below.setCell ?_ ?_ _ | with_reducible refine Below.alloc ?_ ?_ _ | with_reducible refine below_drewN ?_ _ | with_reducible refine Below.drew ?_ | with_reducible refine Below.trans ?_ (Below.mono (by assumption) ?_) | with_reducible exact Nat.le_refl _ | with_reducible refine Nat.le_trans ?_ (Below.size (by assumption)) | with_reducible refine Nat.le_trans ?_ (size_alloc _ _) | with_reducible refine Nat.le_trans ?_ (size_set _ _ _) | with_reducible refine Nat.le_trans ?_ (size_drewN _ _) | with_reducible refine Nat.le_trans ?_ (size_drew _) | (simp; done) | (simp; omega) | omega)
        · have t2 : (F.toList == [70, 65, 76, 83, 69]) = false := by rw [hFl, beq_eq_false_iff_ne]; exact hf
          rw [if_neg hf, if_neg (by simp)]
          clear hFl ht hf
          by_cases h0 : pe = 0
          · subst h0
            rw [if_pos rfl, atX_yes a n (by simp [cellTok])]
            go_enter Tryz.func92, Tryz.ntmps92
            go_wp2_with (first | (go_at_call 103; refine (HR.out _).mono ?_; rintro e wz ⟨rfl, hz⟩; subst wz) | (go_at_call 107; refine (HF.out _).mono ?_; rintro e w1 ⟨rfl, hb_w1⟩; obtain ⟨c_w1, f_w1⟩ := bcell hb_w1; have z_w1 : w.heap.size < w1.heap.size := by have := hb_w1.size; simp at this; omega) | (go_at_call 108; refine (HY.out _).mono ?_; rintro e w2 ⟨rfl, hb_w2⟩; obtain ⟨c_w2, f_w2⟩ := bcell hb_w2; have z_w2 : w.heap.size < w2.heap.size := by have := hb_w2.size; omega))
            refine bodyPost_ret (v := .tuple #[.agg #[.int .i64 2, .int .i64 0, .int .i64 0, .string ⟨#[]⟩, .bool false, .int .i64 0, .int .i64 pa, .int .i64 pb, .bool pc, .bool pd, .string ⟨#[]⟩, .int .i64 (a : Int)], .int .i64 ((a : Int) + (n : Int)), .int .i64 0]) (by simp [results, Tryz.results92, go_sem, *]) rfl ⟨rfl, ?_⟩
            repeat' (first | with_reducible exact Below.refl _ _ | with_reducible refine Below.setCell ?_ ?_ _ | with_reducible refine Below.alloc ?_ ?_ _ | with_reducible refine below_drewN ?_ _ | with_reducible refine Below.drew ?_ | with_reducible refine Below.trans ?_ (Below.mono (by assumption) ?_) | with_reducible exact Nat.le_refl _ | with_reducible refine Nat.le_trans ?_ (Below.size (by assumption)) | with_reducible refine Nat.le_trans ?_ (size_alloc _ _) | with_reducible refine Nat.le_trans ?_ (size_set _ _ _) | with_reducible refine Nat.le_trans ?_ (size_drewN _ _) | with_reducible refine Nat.le_trans ?_ (size_drew _) | (simp; done) | (simp; omega) | omega)
          · have e0 : (pe == 0) = false := by simpa using h0
            have e1 : (pe != 0) = true := by simpa using h0
            rw [if_neg h0, atX_no]
            clear h0
            go_enter Tryz.func92, Tryz.ntmps92
            go_wp2_with (first | (go_at_call 103; refine (HR.out _).mono ?_; rintro e wz ⟨rfl, hz⟩; subst wz) | (go_at_call 107; refine (HF.out _).mono ?_; rintro e w1 ⟨rfl, hb_w1⟩; obtain ⟨c_w1, f_w1⟩ := bcell hb_w1; have z_w1 : w.heap.size < w1.heap.size := by have := hb_w1.size; simp at this; omega) | (go_at_call 108; refine (HY.out _).mono ?_; rintro e w2 ⟨rfl, hb_w2⟩; obtain ⟨c_w2, f_w2⟩ := bcell hb_w2; have z_w2 : w.heap.size < w2.heap.size := by have := hb_w2.size; omega))
            refine bodyPost_ret (v := .tuple #[.agg #[.int .i64 0, .int .i64 0, .int .i64 0, .string ⟨#[]⟩, .bool false, .int .i64 0, .int .i64 0, .int .i64 0, .bool false, .bool false, .string ⟨#[]⟩, .int .i64 0], .int .i64 0, .int .i64 pe]) (by simp [results, Tryz.results92, go_sem, *]) rfl ⟨rfl, ?_⟩
            repeat' (first | with_reducible exact Below.refl _ _ | with_reducible refine Below.setCell ?_ ?_ _ | with_reducible refine Below.alloc ?_ ?_ _ | with_reducible refine below_drewN ?_ _ | with_reducible refine Below.drew ?_ | with_reducible refine Below.trans ?_ (Below.mono (by assumption) ?_) | with_reducible exact Nat.le_refl _ | with_reducible refine Nat.le_trans ?_ (Below.size (by assumption)) | with_reducible refine Nat.le_trans ?_ (size_alloc _ _) | with_reducible refine Nat.le_trans ?_ (size_set _ _ _) | with_reducible refine Nat.le_trans ?_ (size_drewN _ _) | with_reducible refine Nat.le_trans ?_ (size_drew _) | (simp; done) | (simp; omega) | omega)
end
end Go.Proofs.YtklldmidcmfbdaaGreatDoor
