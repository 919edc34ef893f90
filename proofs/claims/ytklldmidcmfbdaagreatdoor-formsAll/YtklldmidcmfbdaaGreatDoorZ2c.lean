/-
  Out of LxR5, LxR6, what is asked for (laid by pack9.py).
-/
import Derived.Test.YtklldmidcmfbdaaGreatDoorVNum
import Derived.Test.YtklldmidcmfbdaaGreatDoorVVal
import Derived.Test.YtklldmidcmfbdaaGreatDoorVVal3
import Derived.Test.YtklldmidcmfbdaaGreatDoorVVal4
import Derived.Test.YtklldmidcmfbdaaGreatDoorZ1
import Derived.Test.YtklldmidcmfbdaaGreatDoorZ2
import Derived.Test.YtklldmidcmfbdaaGreatDoorZ2b
import Derived.BigCall
import Derived.BigGuard
import Derived.BigQuiet
import Derived.ChangeArms
import Derived.Deep.QuietTactic
import Derived.Deep.RegionHeld3
import Derived.Deep.RegionWith
import Derived.Laws.Cover1
import Derived.Laws.EntriesVeiled
import Derived.Laws.IdiomStrings
import Derived.Lib.AppendIntMem
import Derived.Lib.AtoiErrMem
import Derived.Lib.IndexMore
import Derived.Lib.ItoaMem
import Derived.Lib.LaidTab
import Derived.Lib.MinMax
import Derived.Lib.OthersKept
import Derived.Lib.Replace
import Derived.Lib.ReplaceLaws
import Derived.Lib.SmallJoins
import Derived.Lib.Walk
import Derived.LoopIn
import Derived.LoopNIn
import Derived.LoopTactic
import Derived.Maps.AppendAt
import Derived.OwnWalkIn
import Derived.RangeFuncBound
import Derived.RangeFuncBox
import Derived.RangeFuncCalls
import Derived.RangeFuncLeaves
import Derived.RangeFuncNested
import Derived.Shelf.Abstract
import Derived.Shelf.RegionOpen
import Derived.TacticsInMore
import Derived.WalkKit
import Derived.WalkLawsBesides
import Derived.WalkSpells
import Derived.WideShapes
namespace Go.Proofs.YtklldmidcmfbdaaGreatDoor
section
open Go.RowKit
set_option maxRecDepth 100000 in
set_option maxHeartbeats 4000000 in
theorem rone_any (s : ByteArray) (a : Nat) (w : World) (hs : s.size ≤ 1024) (ha : a < s.size) :
    Calls Tryz.prog 67 #[.string s, .int .i64 (a : Int)] w fun e w' => e = .returned (.tuple #[tokV (atX a (firstT (s.data.toList.drop a))).1, .int .i64 (atX a (firstT (s.data.toList.drop a))).2.1, .int .i64 (atX a (firstT (s.data.toList.drop a))).2.2]) ∧ Below w.heap.size w w' := by
  have hsl : s.data.toList.length = s.size := by simp
  have hd : s.data.toList.drop a = s[a] :: s.data.toList.drop (a + 1) := by
    rw [List.drop_eq_getElem_cons (by omega), ByteArray.getElem_eq_getElem_data, ← Array.getElem_toList]
  have HD : Hid (∀ W : World, Calls Tryz.prog 87 #[.int .u8 (s[a].toNat : Int)] W fun e w' => e = .returned (.bool (isDig s[a])) ∧ w' = W) := fun W => rdig_any s[a] W
  have HT : Hid (∀ W : World, Calls Tryz.prog 91 #[.int .u8 (s[a].toNat : Int)] W fun e w' => e = .returned (.bool (letterB s[a])) ∧ w' = W) := fun W => rletter_any s[a] W
  have g1 : (a : Int) < s.size := by omega
  rw [first_cons hd]
  cases hdg : isDig s[a]
  · rw [hdg] at HD
    rw [if_neg (by simp)]
    by_cases c34 : s[a].toNat = 34
    · rw [if_pos c34]
      have e34 : ((s[a].toNat : Int) == 34) = true := by rw [beq_iff_eq]; omega
      have HX : Hid (∀ W : World, Calls Tryz.prog 89 #[.string s, .int .i64 (a : Int)] W fun e w' => e = .returned (.tuple #[tokV (atX a (textT (s.data.toList.drop a))).1, .int .i64 (atX a (textT (s.data.toList.drop a))).2.1, .int .i64 (atX a (textT (s.data.toList.drop a))).2.2]) ∧ Below W.heap.size W w') := fun W => rtext_any s a W hs ha
      generalize atX a (textT (s.data.toList.drop a)) = q at *
      clear hd hdg c34 HT hsl
      obtain ⟨⟨t0, t1, t2, t3, t4, t5, t6, t7, t8, t9, t10, t11⟩, tn, te⟩ := q
      obtain ⟨T3, hT3⟩ : ∃ T : ByteArray, (⟨t3.toArray⟩ : ByteArray) = T := ⟨_, rfl⟩
      obtain ⟨T10, hT10⟩ : ∃ T : ByteArray, (⟨t10.toArray⟩ : ByteArray) = T := ⟨_, rfl⟩
      have HX' : Hid (∀ W : World, Calls Tryz.prog 89 #[.string s, .int .i64 (a : Int)] W fun e w' => e = .returned (.tuple #[.agg #[.int .i64 t0, .int .i64 t1, .int .i64 t2, .string T3, .bool t4, .int .i64 t5, .int .i64 t6, .int .i64 t7, .bool t8, .bool t9, .string T10, .int .i64 t11], .int .i64 tn, .int .i64 te]) ∧ Below W.heap.size W w') := by
        rw [← hT3, ← hT10]
        exact HX.out
      have HT3 := hide hT3
      have HT10 := hide hT10
      clear HX hT3 hT10
      go_enter Tryz.func67, Tryz.ntmps67
      go_wp2_with (first | (go_at_call 87; refine (HD.out _).mono ?_; rintro e wz ⟨rfl, hz⟩; subst wz) | (go_at_call 89; refine (HX'.out _).mono ?_; rintro e w1 ⟨rfl, hb_w1⟩; obtain ⟨c_w1, f_w1⟩ := bcell hb_w1; have z_w1 : w.heap.size < w1.heap.size := by have := hb_w1.size; simp at this; omega))
      refine bodyPost_ret (v := .tuple #[.agg #[.int .i64 t0, .int .i64 t1, .int .i64 t2, .string T3, .bool t4, .int .i64 t5, .int .i64 t6, .int .i64 t7, .bool t8, .bool t9, .string T10, .int .i64 t11], .int .i64 tn, .int .i64 te]) (by simp [results, Tryz.results67, go_sem, *]) rfl ⟨by rw [← HT3.out, ← HT10.out]; rfl, ?_⟩
      repeat' (first | with_reducible exact Below.refl _ _ | with_reducible refine Below.setCell ?_ ?_ _ | with_reducible refine Below.alloc ?_ ?_ _ | with_reducible refine below_drewN ?_ _ | with_reducible refine Below.drew ?_ | with_reducible refine Below.trans ?_ (Below.mono (by assumption) ?_) | with_reducible exact Nat.le_refl _ | with_reducible refine Nat.le_trans ?_ (Below.size (by assumption)) | with_reducible refine Nat.le_trans ?_ (size_alloc _ _) | with_reducible refine Nat.le_trans ?_ (size_set _ _ _) | with_reducible refine Nat.le_trans ?_ (size_drewN _ _) | with_reducible refine Nat.le_trans ?_ (size_drew _) | (simp; done) | (simp; omega) | omega)
    · rw [if_neg c34]
      have e34 : ((s[a].toNat : Int) == 34) = false := by rw [beq_eq_false_iff_ne]; omega
      by_cases c35 : s[a].toNat = 35
      · rw [if_pos c35]
        have e35 : ((s[a].toNat : Int) == 35) = true := by rw [beq_iff_eq]; omega
        have HX : Hid (∀ W : World, Calls Tryz.prog 90 #[.string s, .int .i64 (a : Int)] W fun e w' => e = .returned (.tuple #[tokV (atX a (faultT (s.data.toList.drop a))).1, .int .i64 (atX a (faultT (s.data.toList.drop a))).2.1, .int .i64 (atX a (faultT (s.data.toList.drop a))).2.2]) ∧ Below W.heap.size W w') := fun W => rfault_any s a W hs (by omega)
        generalize atX a (faultT (s.data.toList.drop a)) = q at *
        clear hd hdg c34 c35 HT hsl
        obtain ⟨⟨t0, t1, t2, t3, t4, t5, t6, t7, t8, t9, t10, t11⟩, tn, te⟩ := q
        obtain ⟨T3, hT3⟩ : ∃ T : ByteArray, (⟨t3.toArray⟩ : ByteArray) = T := ⟨_, rfl⟩
        obtain ⟨T10, hT10⟩ : ∃ T : ByteArray, (⟨t10.toArray⟩ : ByteArray) = T := ⟨_, rfl⟩
        have HX' : Hid (∀ W : World, Calls Tryz.prog 90 #[.string s, .int .i64 (a : Int)] W fun e w' => e = .returned (.tuple #[.agg #[.int .i64 t0, .int .i64 t1, .int .i64 t2, .string T3, .bool t4, .int .i64 t5, .int .i64 t6, .int .i64 t7, .bool t8, .bool t9, .string T10, .int .i64 t11], .int .i64 tn, .int .i64 te]) ∧ Below W.heap.size W w') := by
          rw [← hT3, ← hT10]
          exact HX.out
        have HT3 := hide hT3
        have HT10 := hide hT10
        clear HX hT3 hT10
        go_enter Tryz.func67, Tryz.ntmps67
        go_wp2_with (first | (go_at_call 87; refine (HD.out _).mono ?_; rintro e wz ⟨rfl, hz⟩; subst wz) | (go_at_call 90; refine (HX'.out _).mono ?_; rintro e w1 ⟨rfl, hb_w1⟩; obtain ⟨c_w1, f_w1⟩ := bcell hb_w1; have z_w1 : w.heap.size < w1.heap.size := by have := hb_w1.size; simp at this; omega))
        refine bodyPost_ret (v := .tuple #[.agg #[.int .i64 t0, .int .i64 t1, .int .i64 t2, .string T3, .bool t4, .int .i64 t5, .int .i64 t6, .int .i64 t7, .bool t8, .bool t9, .string T10, .int .i64 t11], .int .i64 tn, .int .i64 te]) (by simp [results, Tryz.results67, go_sem, *]) rfl ⟨by rw [← HT3.out, ← HT10.out]; rfl, ?_⟩
        repeat' (first | with_reducible exact Below.refl _ _ | with_reducible refine Below.setCell ?_ ?_ _ | with_reducible refine Below.alloc ?_ ?_ _ | with_reducible refine below_drewN ?_ _ | with_reducible refine Below.drew ?_ | with_reducible refine Below.trans ?_ (Below.mono (by assumption) ?_) | with_reducible exact Nat.le_refl _ | with_reducible refine Nat.le_trans ?_ (Below.size (by assumption)) | with_reducible refine Nat.le_trans ?_ (size_alloc _ _) | with_reducible refine Nat.le_trans ?_ (size_set _ _ _) | with_reducible refine Nat.le_trans ?_ (size_drewN _ _) | with_reducible refine Nat.le_trans ?_ (size_drew _) | (simp; done) | (simp; omega) | omega)
      · rw [if_neg c35]
        have e35 : ((s[a].toNat : Int) == 35) = false := by rw [beq_eq_false_iff_ne]; omega
        cases hl : letterB s[a]
        · rw [hl] at HT
          by_cases c36 : s[a].toNat = 36
          · have e36 : ((s[a].toNat : Int) == 36) = true := by rw [beq_iff_eq]; omega
            rw [if_pos (by simp [c36])]
            have HX : Hid (∀ W : World, Calls Tryz.prog 92 #[.string s, .int .i64 (a : Int)] W fun e w' => e = .returned (.tuple #[tokV (atX a (wordT (s.data.toList.drop a))).1, .int .i64 (atX a (wordT (s.data.toList.drop a))).2.1, .int .i64 (atX a (wordT (s.data.toList.drop a))).2.2]) ∧ Below W.heap.size W w') := fun W => rword_any s a W hs ha (by simp [c36])
            generalize atX a (wordT (s.data.toList.drop a)) = q at *
            clear hd hdg c34 c35 c36 hl hsl
            obtain ⟨⟨t0, t1, t2, t3, t4, t5, t6, t7, t8, t9, t10, t11⟩, tn, te⟩ := q
            obtain ⟨T3, hT3⟩ : ∃ T : ByteArray, (⟨t3.toArray⟩ : ByteArray) = T := ⟨_, rfl⟩
            obtain ⟨T10, hT10⟩ : ∃ T : ByteArray, (⟨t10.toArray⟩ : ByteArray) = T := ⟨_, rfl⟩
            have HX' : Hid (∀ W : World, Calls Tryz.prog 92 #[.string s, .int .i64 (a : Int)] W fun e w' => e = .returned (.tuple #[.agg #[.int .i64 t0, .int .i64 t1, .int .i64 t2, .string T3, .bool t4, .int .i64 t5, .int .i64 t6, .int .i64 t7, .bool t8, .bool t9, .string T10, .int .i64 t11], .int .i64 tn, .int .i64 te]) ∧ Below W.heap.size W w') := by
              rw [← hT3, ← hT10]
              exact HX.out
            have HT3 := hide hT3
            have HT10 := hide hT10
            clear HX hT3 hT10
            go_enter Tryz.func67, Tryz.ntmps67
            go_wp2_with (first | (go_at_call 87; refine (HD.out _).mono ?_; rintro e wz ⟨rfl, hz⟩; subst wz) | (go_at_call 91; refine (HT.out _).mono ?_; rintro e wz ⟨rfl, hz⟩; subst wz) | (go_at_call 92; refine (HX'.out _).mono ?_; rintro e w1 ⟨rfl, hb_w1⟩; obtain ⟨c_w1, f_w1⟩ := bcell hb_w1; have z_w1 : w.heap.size < w1.heap.size := by have := hb_w1.size; simp at this; omega))
            refine bodyPost_ret (v := .tuple #[.agg #[.int .i64 t0, .int .i64 t1, .int .i64 t2, .string T3, .bool t4, .int .i64 t5, .int .i64 t6, .int .i64 t7, .bool t8, .bool t9, .string T10, .int .i64 t11], .int .i64 tn, .int .i64 te]) (by simp [results, Tryz.results67, go_sem, *]) rfl ⟨by rw [← HT3.out, ← HT10.out]; rfl, ?_⟩
            repeat' (first | with_reducible exact Below.refl _ _ | with_reducible refine Below.setCell ?_ ?_ _ | with_reducible refine Below.alloc ?_ ?_ _ | with_reducible refine below_drewN ?_ _ | with_reducible refine Below.drew ?_ | with_reducible refine Below.trans ?_ (Below.mono (by assumption) ?_) | with_reducible exact Nat.le_refl _ | with_reducible refine Nat.le_trans ?_ (Below.size (by assumption)) | with_reducible refine Nat.le_trans ?_ (size_alloc _ _) | with_reducible refine Nat.le_trans ?_ (size_set _ _ _) | with_reducible refine Nat.le_trans ?_ (size_drewN _ _) | with_reducible refine Nat.le_trans ?_ (size_drew _) | (simp; done) | (simp; omega) | omega)
          · have e36 : ((s[a].toNat : Int) == 36) = false := by rw [beq_eq_false_iff_ne]; omega
            rw [if_neg (by simp [c36])]
            have HX : Hid (∀ W : World, Calls Tryz.prog 93 #[.string s, .int .i64 (a : Int)] W fun e w' => e = .returned (.tuple #[tokV (atX a (signT (s.data.toList.drop a))).1, .int .i64 (atX a (signT (s.data.toList.drop a))).2.1, .int .i64 (atX a (signT (s.data.toList.drop a))).2.2]) ∧ Below W.heap.size W w') := fun W => rsign_any s a W hs (by omega)
            generalize atX a (signT (s.data.toList.drop a)) = q at *
            clear hd hdg c34 c35 c36 hl hsl
            obtain ⟨⟨t0, t1, t2, t3, t4, t5, t6, t7, t8, t9, t10, t11⟩, tn, te⟩ := q
            obtain ⟨T3, hT3⟩ : ∃ T : ByteArray, (⟨t3.toArray⟩ : ByteArray) = T := ⟨_, rfl⟩
            obtain ⟨T10, hT10⟩ : ∃ T : ByteArray, (⟨t10.toArray⟩ : ByteArray) = T := ⟨_, rfl⟩
            have HX' : Hid (∀ W : World, Calls Tryz.prog 93 #[.string s, .int .i64 (a : Int)] W fun e w' => e = .returned (.tuple #[.agg #[.int .i64 t0, .int .i64 t1, .int .i64 t2, .string T3, .bool t4, .int .i64 t5, .int .i64 t6, .int .i64 t7, .bool t8, .bool t9, .string T10, .int .i64 t11], .int .i64 tn, .int .i64 te]) ∧ Below W.heap.size W w') := by
              rw [← hT3, ← hT10]
              exact HX.out
            have HT3 := hide hT3
            have HT10 := hide hT10
            clear HX hT3 hT10
            go_enter Tryz.func67, Tryz.ntmps67
            go_wp2_with (first | (go_at_call 87; refine (HD.out _).mono ?_; rintro e wz ⟨rfl, hz⟩; subst wz) | (go_at_call 91; refine (HT.out _).mono ?_; rintro e wz ⟨rfl, hz⟩; subst wz) | (go_at_call 93; refine (HX'.out _).mono ?_; rintro e w1 ⟨rfl, hb_w1⟩; obtain ⟨c_w1, f_w1⟩ := bcell hb_w1; have z_w1 : w.heap.size < w1.heap.size := by have := hb_w1.size; simp at this; omega))
            refine bodyPost_ret (v := .tuple #[.agg #[.int .i64 t0, .int .i64 t1, .int .i64 t2, .string T3, .bool t4, .int .i64 t5, .int .i64 t6, .int .i64 t7, .bool t8, .bool t9, .string T10, .int .i64 t11], .int .i64 tn, .int .i64 te]) (by simp [results, Tryz.results67, go_sem, *]) rfl ⟨by rw [← HT3.out, ← HT10.out]; rfl, ?_⟩
            repeat' (first | with_reducible exact Below.refl _ _ | with_reducible refine Below.setCell ?_ ?_ _ | with_reducible refine Below.alloc ?_ ?_ _ | with_reducible refine below_drewN ?_ _ | with_reducible refine Below.drew ?_ | with_reducible refine Below.trans ?_ (Below.mono (by assumption) ?_) | with_reducible exact Nat.le_refl _ | with_reducible refine Nat.le_trans ?_ (Below.size (by assumption)) | with_reducible refine Nat.le_trans ?_ (size_alloc _ _) | with_reducible refine Nat.le_trans ?_ (size_set _ _ _) | with_reducible refine Nat.le_trans ?_ (size_drewN _ _) | with_reducible refine Nat.le_trans ?_ (size_drew _) | (simp; done) | (simp; omega) | omega)
        · rw [hl] at HT
          rw [if_pos (by simp)]
          have HX : Hid (∀ W : World, Calls Tryz.prog 92 #[.string s, .int .i64 (a : Int)] W fun e w' => e = .returned (.tuple #[tokV (atX a (wordT (s.data.toList.drop a))).1, .int .i64 (atX a (wordT (s.data.toList.drop a))).2.1, .int .i64 (atX a (wordT (s.data.toList.drop a))).2.2]) ∧ Below W.heap.size W w') := fun W => rword_any s a W hs ha (by simp [hl])
          generalize atX a (wordT (s.data.toList.drop a)) = q at *
          clear hd hdg c34 c35 hl hsl
          obtain ⟨⟨t0, t1, t2, t3, t4, t5, t6, t7, t8, t9, t10, t11⟩, tn, te⟩ := q
          obtain ⟨T3, hT3⟩ : ∃ T : ByteArray, (⟨t3.toArray⟩ : ByteArray) = T := ⟨_, rfl⟩
          obtain ⟨T10, hT10⟩ : ∃ T : ByteArray, (⟨t10.toArray⟩ : ByteArray) = T := ⟨_, rfl⟩
          have HX' : Hid (∀ W : World, Calls Tryz.prog 92 #[.string s, .int .i64 (a : Int)] W fun e w' => e = .returned (.tuple #[.agg #[.int .i64 t0, .int .i64 t1, .int .i64 t2, .string T3, .bool t4, .int .i64 t5, .int .i64 t6, .int .i64 t7, .bool t8, .bool t9, .string T10, .int .i64 t11], .int .i64 tn, .int .i64 te]) ∧ Below W.heap.size W w') := by
            rw [← hT3, ← hT10]
            exact HX.out
          have HT3 := hide hT3
          have HT10 := hide hT10
          clear HX hT3 hT10
          go_enter Tryz.func67, Tryz.ntmps67
          go_wp2_with (first | (go_at_call 87; refine (HD.out _).mono ?_; rintro e wz ⟨rfl, hz⟩; subst wz) | (go_at_call 91; refine (HT.out _).mono ?_; rintro e wz ⟨rfl, hz⟩; subst wz) | (go_at_call 92; refine (HX'.out _).mono ?_; rintro e w1 ⟨rfl, hb_w1⟩; obtain ⟨c_w1, f_w1⟩ := bcell hb_w1; have z_w1 : w.heap.size < w1.heap.size := by have := hb_w1.size; simp at this; omega))
          refine bodyPost_ret (v := .tuple #[.agg #[.int .i64 t0, .int .i64 t1, .int .i64 t2, .string T3, .bool t4, .int .i64 t5, .int .i64 t6, .int .i64 t7, .bool t8, .bool t9, .string T10, .int .i64 t11], .int .i64 tn, .int .i64 te]) (by simp [results, Tryz.results67, go_sem, *]) rfl ⟨by rw [← HT3.out, ← HT10.out]; rfl, ?_⟩
          repeat' (first | with_reducible exact Below.refl _ _ | with_reducible refine Below.setCell ?_ ?_ _ | with_reducible refine Below.alloc ?_ ?_ _ | with_reducible refine below_drewN ?_ _ | with_reducible refine Below.drew ?_ | with_reducible refine Below.trans ?_ (Below.mono (by assumption) ?_) | with_reducible exact Nat.le_refl _ | with_reducible refine Nat.le_trans ?_ (Below.size (by assumption)) | with_reducible refine Nat.le_trans ?_ (size_alloc _ _) | with_reducible refine Nat.le_trans ?_ (size_set _ _ _) | with_reducible refine Nat.le_trans ?_ (size_drewN _ _) | with_reducible refine Nat.le_trans ?_ (size_drew _) | (simp; done) | (simp; omega) | omega)
  · rw [hdg] at HD
    rw [if_pos rfl]
    have HX : Hid (∀ W : World, Calls Tryz.prog 88 #[.string s, .int .i64 (a : Int)] W fun e w' => e = .returned (.tuple #[tokV (atX a (numberT (s.data.toList.drop a))).1, .int .i64 (atX a (numberT (s.data.toList.drop a))).2.1, .int .i64 (atX a (numberT (s.data.toList.drop a))).2.2]) ∧ Below W.heap.size W w') := fun W => rnum_any s a W hs (by omega)
    generalize atX a (numberT (s.data.toList.drop a)) = q at *
    clear hd hdg HT hsl
    obtain ⟨⟨t0, t1, t2, t3, t4, t5, t6, t7, t8, t9, t10, t11⟩, tn, te⟩ := q
    obtain ⟨T3, hT3⟩ : ∃ T : ByteArray, (⟨t3.toArray⟩ : ByteArray) = T := ⟨_, rfl⟩
    obtain ⟨T10, hT10⟩ : ∃ T : ByteArray, (⟨t10.toArray⟩ : ByteArray) = T := ⟨_, rfl⟩
    have HX' : Hid (∀ W : World, Calls Tryz.prog 88 #[.string s, .int .i64 (a : Int)] W fun e w' => e = .returned (.tuple #[.agg #[.int .i64 t0, .int .i64 t1, .int .i64 t2, .string T3, .bool t4, .int .i64 t5, .int .i64 t6, .int .i64 t7, .bool t8, .bool t9, .string T10, .int .i64 t11], .int .i64 tn, .int .i64 te]) ∧ Below W.heap.size W w') := by
      rw [← hT3, ← hT10]
      exact HX.out
    have HT3 := hide hT3
    have HT10 := hide hT10
    clear HX hT3 hT10
    go_enter Tryz.func67, Tryz.ntmps67
    go_wp2_with (first | (go_at_call 87; refine (HD.out _).mono ?_; rintro e wz ⟨rfl, hz⟩; subst wz) | (go_at_call 88; refine (HX'.out _).mono ?_; rintro e w1 ⟨rfl, hb_w1⟩; obtain ⟨c_w1, f_w1⟩ := bcell hb_w1; have z_w1 : w.heap.size < w1.heap.size := by have := hb_w1.size; simp at this; omega))
    refine bodyPost_ret (v := .tuple #[.agg #[.int .i64 t0, .int .i64 t1, .int .i64 t2, .string T3, .bool t4, .int .i64 t5, .int .i64 t6, .int .i64 t7, .bool t8, .bool t9, .string T10, .int .i64 t11], .int .i64 tn, .int .i64 te]) (by simp [results, Tryz.results67, go_sem, *]) rfl ⟨by rw [← HT3.out, ← HT10.out]; rfl, ?_⟩
    repeat' (first | with_reducible exact Below.refl _ _ | with_reducible refine Below.setCell ?_ ?_ _ | with_reducible refine Below.alloc ?_ ?_ _ | with_reducible refine below_drewN ?_ _ | with_reducible refine Below.drew ?_ | with_reducible refine Below.trans ?_ (Below.mono (by assumption) ?_) | with_reducible exact Nat.le_refl _ | with_reducible refine Nat.le_trans ?_ (Below.size (by assumption)) | with_reducible refine Nat.le_trans ?_ (size_alloc _ _) | with_reducible refine Nat.le_trans ?_ (size_set _ _ _) | with_reducible refine Nat.le_trans ?_ (size_drewN _ _) | with_reducible refine Nat.le_trans ?_ (size_drew _) | (simp; done) | (simp; omega) | omega)
end
section
open Go.RowKit Go.Shelf
set_option maxRecDepth 100000 in
set_option maxHeartbeats 4000000 in
theorem rscan_long (s : ByteArray) (w : World) (hs : s.size ≤ maxLen) (h : 1024 < s.size) :
    Calls Tryz.prog 45 #[.string s] w fun e w' => e = .returned (.tuple #[.slice none 0 0, .int .i64 0, .int .i64 7]) ∧ Below w.heap.size w w' := by
  unfold maxLen at hs
  have g : (1024 : Int) < s.size := by omega
  go_enter Tryz.func45, Tryz.ntmps45
  go_wp2
  go_ret3
  exact ⟨rfl, Below.refl _ _⟩
theorem cellsT_snoc (ts : List Tok) (t : Tok) : cellsT (ts ++ [t]) = cellsT ts ++ tokC t := by unfold cellsT; simp
set_option maxRecDepth 100000 in
set_option maxHeartbeats 4000000 in
theorem rscan_short (s : ByteArray) (w : World) (h : s.size ≤ 1024) :
    Calls Tryz.prog 45 #[.string s] w fun e w' => ∃ v, e = .returned (.tuple #[v, .int .i64 (scanR s.data.toList).2.1, .int .i64 (scanR s.data.toList).2.2]) ∧ RowT w.heap.size w' v (scanR s.data.toList).1 ∧ Below w.heap.size w w' := by
  obtain ⟨i0, hi, hz0, hz1, hz2⟩ := info_parts info_tok
  have g : ¬ (1024 : Int) < s.size := by omega
  have HL : Hid (s.data.toList.length = s.size) := by show _ = _; simp
  go_enter Tryz.func45, Tryz.ntmps45
  go_wp2
  go_loopw [5, 6] (fun ov iv wr => ∃ (k f : Nat) (pre : List (Tok × Int)), k ≤ s.size ∧ s.size - k < f ∧ pre.length ≤ k ∧ iv = .int .i64 k ∧ (∀ y ∈ pre, y.2 = 0) ∧ allG s.data.toList = pre ++ runG f k (s.data.toList.drop k) ∧ wr.ownsRow w.heap.size 115 12 ov pre.length (cellsT (pre.map fun y => y.1)) ∧ Below w.heap.size w wr) (fun _ iv _ => s.size - (intOf iv).toNat)
  case atStart => exact ⟨0, s.size + 1, [], Nat.zero_le _, by omega, by simp, rfl, by simp, by unfold allG; rw [HL.out]; rfl, World.ownsRow_nil _ _ _ _, Below.refl _ _⟩
  case round =>
    obtain ⟨k, f, pre, hk, hf, hpl, rfl, hz, hx, hown, hB⟩ := hrel
    have hbs := hB.size
    obtain ⟨f', rfl⟩ : ∃ f', f = f' + 1 := ⟨f - 1, by omega⟩
    by_cases hlt : k < s.size
    · have g1 : (k : Int) < s.size := by omega
      have hd : s.data.toList.drop k = s[k] :: s.data.toList.drop (k + 1) := by
        rw [List.drop_eq_getElem_cons (by have := HL.out; omega), ByteArray.getElem_eq_getElem_data, ← Array.getElem_toList]
      by_cases h32 : s[k].toNat = 32
      · have e32 : ((s[k].toNat : Int) == 32) = true := by rw [beq_iff_eq]; omega
        have HX : Hid (allG s.data.toList = pre ++ runG (f' + 1) (k + 1) (s.data.toList.drop (k + 1))) := by
          show _ = _
          rw [hx, hd, (byte_is (n := 32) (by omega)).1 h32]
          exact congrArg _ (run_blank f' k _)
        have HZ := hide hz
        have HO := hide hown
        clear hx hd h32 hz hown
        go_wp2
        go_roundw
        case rel => exact ⟨k + 1, f' + 1, pre, by omega, by omega, by omega, by go_num, HZ.out, HX.out, HO.out, hB⟩
        case measure => simp [intOf]; omega
      · have e32 : ((s[k].toNat : Int) == 32) = false := by rw [beq_eq_false_iff_ne]; omega
        have hbl : runN blankB (s.data.toList.drop k) = 0 := by rw [hd]; exact blank_none (by unfold blankB; simpa using h32)
        have HO1 : Hid (∀ W : World, Calls Tryz.prog 67 #[.string s, .int .i64 (k : Int)] W fun e w' => e = .returned (.tuple #[tokV (atX k (firstT (s.data.toList.drop k))).1, .int .i64 (atX k (firstT (s.data.toList.drop k))).2.1, .int .i64 (atX k (firstT (s.data.toList.drop k))).2.2]) ∧ Below W.heap.size W w') := fun W => rone_any s k W h hlt
        obtain ⟨x, hxx⟩ : ∃ x, firstT (s.data.toList.drop k) = x := ⟨_, rfl⟩
        have hne : s.data.toList.drop k ≠ [] := by rw [hd]; simp
        have hkd := first_kind hne
        have hgd := good_first (s.data.toList.drop k)
        rw [hxx] at HO1 hkd hgd
        unfold Good at hgd
        rw [List.length_drop, HL.out] at hgd
        by_cases h0 : x.1.kind = 0
        · have he0 := hkd h0
          have ha : atX k x = (zt, 0, x.2.2) := by unfold atX; rw [if_pos h0]
          rw [ha] at HO1
          have hr : runG (f' + 1) k (s.data.toList.drop k) = [(x.1.put ((k + 0 : Nat) : Int), x.2.2)] := run_last hbl (by rw [List.drop_zero]; exact hxx) h0
          rw [hr] at hx
          have HF : Hid (scanR s.data.toList = ([], (k : Int), x.2.2)) := scan_no h (x := (x.1.put ((k + 0 : Nat) : Int), x.2.2)) (by rw [hx]; exact List.prefix_refl _) hz he0
          generalize x.2.2 = e at *
          have ee : (e == 0) = false := by simpa using he0
          have en : (e != 0) = true := by simpa using he0
          have HO2 : Hid (∀ W : World, Calls Tryz.prog 67 #[.string s, .int .i64 (k : Int)] W fun r w' => r = .returned (.tuple #[.agg #[.int .i64 0, .int .i64 0, .int .i64 0, .string ⟨#[]⟩, .bool false, .int .i64 0, .int .i64 0, .int .i64 0, .bool false, .bool false, .string ⟨#[]⟩, .int .i64 0], .int .i64 0, .int .i64 e]) ∧ Below W.heap.size W w') := HO1
          clear hx hr hz he0 ha hkd hgd hbl hd h0 hxx hown HO1 hne
          go_wp2_with (go_at_call 67; refine (HO2.out _).mono ?_; rintro r w1 ⟨rfl, hb1⟩)
          go_ret3
          rw [HF.out]
          refine ⟨_, rfl, World.ownsRow_nil _ _ _ _, ?_⟩
          repeat' (first | with_reducible exact Below.refl _ _ | with_reducible refine Below.setCell ?_ ?_ _ | with_reducible refine Below.alloc ?_ ?_ _ | with_reducible refine below_drewN ?_ _ | with_reducible refine Below.drew ?_ | with_reducible refine Below.trans ?_ (Below.mono (by assumption) ?_) | with_reducible exact Nat.le_refl _ | with_reducible refine Nat.le_trans ?_ (Below.size (by assumption)) | with_reducible refine Nat.le_trans ?_ (size_alloc _ _) | with_reducible refine Nat.le_trans ?_ (size_set _ _ _) | with_reducible refine Nat.le_trans ?_ (size_drewN _ _) | with_reducible refine Nat.le_trans ?_ (size_drew _) | (simp; done) | (simp; omega) | omega)
        · rcases hgd with ⟨hh, _⟩ | ⟨_, hg1, hg2, hg3, _⟩
          · exact absurd hh h0
          have ha : atX k x = (x.1.put (k : Int), ((k + x.2.1 : Nat) : Int), 0) := by unfold atX; rw [if_neg h0]
          rw [ha] at HO1
          have hr : runG (f' + 1) k (s.data.toList.drop k) = (x.1.put ((k + 0 : Nat) : Int), x.2.2) :: runG f' (k + 0 + x.2.1) (((s.data.toList.drop k).drop 0).drop x.2.1) := run_more hbl (by rw [List.drop_zero]; exact hxx) h0
          rw [hr, hg1, List.drop_zero, List.drop_drop] at hx
          obtain ⟨⟨t0, t1, t2, t3, t4, t5, t6, t7, t8, t9, t10, t11⟩, tm, te⟩ := x
          obtain ⟨T3, hT3⟩ : ∃ T : ByteArray, (⟨t3.toArray⟩ : ByteArray) = T := ⟨_, rfl⟩
          obtain ⟨T10, hT10⟩ : ∃ T : ByteArray, (⟨t10.toArray⟩ : ByteArray) = T := ⟨_, rfl⟩
          have HO2 : Hid (∀ W : World, Calls Tryz.prog 67 #[.string s, .int .i64 (k : Int)] W fun r w' => r = .returned (.tuple #[.agg #[.int .i64 t0, .int .i64 t1, .int .i64 t2, .string T3, .bool t4, .int .i64 t5, .int .i64 t6, .int .i64 t7, .bool t8, .bool t9, .string T10, .int .i64 (k : Int)], .int .i64 ((k : Int) + (tm : Int)), .int .i64 0]) ∧ Below W.heap.size W w') := by
            rw [← hT3, ← hT10]
            exact HO1.out
          obtain ⟨X, hX⟩ : ∃ X : Tok × Int, X = (Tok.put ⟨t0, t1, t2, t3, t4, t5, t6, t7, t8, t9, t10, t11⟩ ((k + 0 : Nat) : Int), 0) := ⟨_, rfl⟩
          have HX : Hid (allG s.data.toList = (pre ++ [X]) ++ runG f' (k + tm) (s.data.toList.drop (k + tm))) := by
            show _ = _
            rw [hx, hX]
            simp
          have HZ : Hid (∀ y ∈ pre ++ [X], y.2 = 0) := fun y hy => by
            rcases List.mem_append.1 hy with hy | hy
            · exact hz y hy
            · rw [List.mem_singleton.1 hy, hX]
          have HC : Hid (cellsT ((pre ++ [X]).map fun y => y.1) = cellsT (pre.map fun y => y.1) ++ [.int .i64 t0, .int .i64 t1, .int .i64 t2, .string T3, .bool t4, .int .i64 t5, .int .i64 t6, .int .i64 t7, .bool t8, .bool t9, .string T10, .int .i64 (k : Int)]) := by
            show _ = _
            rw [List.map_append, List.map_cons, List.map_nil, cellsT_snoc, hX, ← hT3, ← hT10]
            rfl
          obtain ⟨XS, hXS⟩ : ∃ XS, cellsT (pre.map fun y => y.1) = XS := ⟨_, rfl⟩
          rw [hXS] at hown HC
          have hk4 : k + tm ≤ s.size := by simp only at hg3; omega
          have hg2' : 1 ≤ tm := hg2
          have HOW := hide hown
          clear hx hr hz ha hkd hbl hd h0 hxx HO1 hne hX hT3 hT10 hXS hg1 hg2 hg3 hown
          go_wp2_with fail
          refine (HO2.out _).mono ?_
          rintro r w1 ⟨rfl, hb1⟩
          have hB1 : Below w.heap.size w w1 := hB.trans (hb1.mono hbs)
          have hbs1 := hB1.size
          have hown1 := World.ownsRow.kept HOW.out ⟨hb1.os, hb1.tape, hb1.output, hb1.size, fun i hi _ => hb1.block i hi⟩ (row := none) (by cases u5.ownBlock <;> simp)
          go_wp2_with (first | (at_builtin; refine wpList_append_own _ rfl _ _ 107 rfl w.heap.size 115 i0 (.agg #[.int .i64 0, .int .i64 0, .int .i64 0, .string ⟨#[]⟩, .bool false, .int .i64 0, .int .i64 0, .int .i64 0, .bool false, .bool false, .string ⟨#[]⟩, .int .i64 0]) 12 104 Tryz.underlying107 hi hz0 hz1 hz2 rfl (by decide) _ _ _ rfl ((hown1.alloc _).alloc _) ⟨w1.heap.size + 1, 0, none⟩ 1 1 [.int .i64 t0, .int .i64 t1, .int .i64 t2, .string T3, .bool t4, .int .i64 t5, .int .i64 t6, .int .i64 t7, .bool t8, .bool t9, .string T10, .int .i64 (k : Int)] rfl rfl ?c1 ?c2 ?c3 ?c4 ?c5 ?_) | go_in)
          case c1 =>
            intro j u hj
            have := cells_new (w1.alloc (.cells #[.int .i64 t0, .int .i64 t1, .int .i64 t2, .string T3, .bool t4, .int .i64 t5, .int .i64 t6, .int .i64 t7, .bool t8, .bool t9, .string T10, .int .i64 (k : Int)] 115)) #[.int .i64 t0, .int .i64 t1, .int .i64 t2, .string T3, .bool t4, .int .i64 t5, .int .i64 t6, .int .i64 t7, .bool t8, .bool t9, .string T10, .int .i64 (k : Int)] 115 j u hj
            rw [World.size_alloc] at this
            exact this
          case c2 => simp [Value.oneCell']
          case c3 => unfold maxLen; omega
          case c4 => omega
          case c5 => simp; omega
          intro v' w2 hown' hgrow _
          have hB2 : Below w.heap.size w w2 := (((hB1.alloc hbs1 _).alloc (by simp; omega) _).grown hgrow (by simp; omega) (fun j hj => (hown1.lt j hj).1))
          rw [← HC.out] at hown'
          obtain ⟨gv, capv, rfl⟩ := ownsRow_succ hown'
          have HR := hide hown'
          clear hown' hgrow
          go_wp2
          go_roundw
          case rel => exact ⟨k + tm, f', pre ++ [X], by omega, by omega, by simp; omega, by go_num, HZ.out, HX.out, by simpa using HR.out, hB2⟩
          case measure => simp [intOf]; omega
    · have g1 : ¬ (k : Int) < s.size := by omega
      obtain rfl : k = s.size := by omega
      have hd : s.data.toList.drop s.size = [] := List.drop_of_length_le (by have := HL.out; omega)
      rw [hd, run_last (l := []) (b := 0) (x := (zt, 0, 0)) rfl rfl rfl] at hx
      have HF : Hid (scanR s.data.toList = ((allG s.data.toList).map (fun x => x.1), 0, 0)) := scan_ok h (by
        rw [hx]
        intro y hy
        rcases List.mem_append.1 hy with hy | hy
        · exact hz y hy
        · rw [List.mem_singleton.1 hy])
      have HC : Hid (cellsT ((allG s.data.toList).map fun y => y.1) = cellsT (pre.map fun y => y.1) ++ [.int .i64 0, .int .i64 0, .int .i64 0, .string ⟨#[]⟩, .bool false, .int .i64 0, .int .i64 0, .int .i64 0, .bool false, .bool false, .string ⟨#[]⟩, .int .i64 (s.size : Int)] ∧ (allG s.data.toList).length = pre.length + 1) := by
        rw [hx]
        refine ⟨?_, by simp⟩
        rw [List.map_append, List.map_cons, List.map_nil, cellsT_snoc]
        rfl
      obtain ⟨XS, hXS⟩ : ∃ XS, cellsT (pre.map fun y => y.1) = XS := ⟨_, rfl⟩
      rw [hXS] at hown HC
      clear hx hd hz hXS
      go_wp2_with (first | (at_builtin; refine wpList_append_own _ rfl _ _ 107 rfl w.heap.size 115 i0 (.agg #[.int .i64 0, .int .i64 0, .int .i64 0, .string ⟨#[]⟩, .bool false, .int .i64 0, .int .i64 0, .int .i64 0, .bool false, .bool false, .string ⟨#[]⟩, .int .i64 0]) 12 104 Tryz.underlying107 hi hz0 hz1 hz2 rfl (by decide) _ _ _ rfl (hown.alloc _) ⟨wr.heap.size, 0, none⟩ 1 1 [.int .i64 0, .int .i64 0, .int .i64 0, .string ⟨#[]⟩, .bool false, .int .i64 0, .int .i64 0, .int .i64 0, .bool false, .bool false, .string ⟨#[]⟩, .int .i64 (s.size : Int)] rfl rfl ?c1 ?c2 ?c3 ?c4 ?c5 ?_) | go_in)
      case c2 => simp [Value.oneCell']
      case c3 => unfold maxLen; omega
      case c4 => omega
      case c5 => first | omega | (simp; omega)
      intro v' w2 hown' hgrow _
      have hB2 : Below w.heap.size w w2 := ((hB.alloc hbs _).grown hgrow (by simp; omega) (fun j hj => (hown.lt j hj).1))
      obtain ⟨gv, capv, rfl⟩ := ownsRow_succ hown'
      have HR := hide hown'
      clear hown' hgrow
      go_wp2
      go_ret3
      rw [HF.out]
      refine ⟨_, rfl, ?_, hB2⟩
      unfold RowT
      rw [List.length_map, HC.out.2, HC.out.1]
      exact HR.out
theorem rscan_any (s : ByteArray) (w : World) (hs : s.size ≤ maxLen) :
    Calls Tryz.prog 45 #[.string s] w fun e w' => ∃ v, e = .returned (.tuple #[v, .int .i64 (scanR s.data.toList).2.1, .int .i64 (scanR s.data.toList).2.2]) ∧ RowT w.heap.size w' v (scanR s.data.toList).1 ∧ Below w.heap.size w w' := by
  by_cases h : s.size ≤ 1024
  · exact rscan_short s w h
  · refine (rscan_long s w hs (by omega)).mono ?_
    rintro e w' ⟨rfl, hb⟩
    have hl : s.data.toList.length = s.size := by simp
    rw [show scanR s.data.toList = ([], 0, 7) by unfold scanR; rw [if_pos (by omega)]]
    exact ⟨_, rfl, World.ownsRow_nil _ _ _ _, hb⟩
end
end Go.Proofs.YtklldmidcmfbdaaGreatDoor
