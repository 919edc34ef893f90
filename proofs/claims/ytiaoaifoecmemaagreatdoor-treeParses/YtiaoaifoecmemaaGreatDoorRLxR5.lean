/-
  The answer's one and Scan.
-/
import Derived.Test.YtiaoaifoecmemaaGreatDoorRLxR2
import Derived.Test.YtiaoaifoecmemaaGreatDoorRLxR3
import Derived.Test.YtiaoaifoecmemaaGreatDoorRLxR4
import Derived.Test.YtiaoaifoecmemaaGreatDoorRLxM3
import Derived.Test.YtiaoaifoecmemaaGreatDoorRLxRow
set_option maxRecDepth 100000
set_option maxHeartbeats 4000000
namespace Go.Proofs.YtiaoaifoecmemaaGreatDoor
open Go.RowKit
theorem rone_any (s : ByteArray) (a : Nat) (w : World) (hs : s.size ≤ 1024) (ha : a < s.size) :
    Calls Tryz.prog 40 #[.string s, .int .i64 (a : Int)] w fun e w' => e = .returned (.tuple #[tokV (atX a (firstT (s.data.toList.drop a))).1, .int .i64 (atX a (firstT (s.data.toList.drop a))).2.1, .int .i64 (atX a (firstT (s.data.toList.drop a))).2.2]) ∧ Below w.heap.size w w' := by
  have hsl : s.data.toList.length = s.size := by simp
  have hd : s.data.toList.drop a = s[a] :: s.data.toList.drop (a + 1) := by
    rw [List.drop_eq_getElem_cons (by omega), ByteArray.getElem_eq_getElem_data, ← Array.getElem_toList]
  have HD : Hid (∀ W : World, Calls Tryz.prog 69 #[.int .u8 (s[a].toNat : Int)] W fun e w' => e = .returned (.bool (isDig s[a])) ∧ w' = W) := fun W => rdig_any s[a] W
  have HT : Hid (∀ W : World, Calls Tryz.prog 73 #[.int .u8 (s[a].toNat : Int)] W fun e w' => e = .returned (.bool (letterB s[a])) ∧ w' = W) := fun W => rletter_any s[a] W
  have g1 : (a : Int) < s.size := by omega
  rw [first_cons hd]
  cases hdg : isDig s[a]
  · rw [hdg] at HD
    rw [if_neg (by simp)]
    by_cases c34 : s[a].toNat = 34
    · rw [if_pos c34]
      have e34 : ((s[a].toNat : Int) == 34) = true := by rw [beq_iff_eq]; omega
      have HX : Hid (∀ W : World, Calls Tryz.prog 71 #[.string s, .int .i64 (a : Int)] W fun e w' => e = .returned (.tuple #[tokV (atX a (textT (s.data.toList.drop a))).1, .int .i64 (atX a (textT (s.data.toList.drop a))).2.1, .int .i64 (atX a (textT (s.data.toList.drop a))).2.2]) ∧ Below W.heap.size W w') := fun W => rtext_any s a W hs ha
      generalize atX a (textT (s.data.toList.drop a)) = q at *
      clear hd hdg c34 HT hsl
      obtain ⟨⟨t0, t1, t2, t3, t4, t5, t6, t7, t8, t9, t10, t11⟩, tn, te⟩ := q
      obtain ⟨T3, hT3⟩ : ∃ T : ByteArray, (⟨t3.toArray⟩ : ByteArray) = T := ⟨_, rfl⟩
      obtain ⟨T10, hT10⟩ : ∃ T : ByteArray, (⟨t10.toArray⟩ : ByteArray) = T := ⟨_, rfl⟩
      have HX' : Hid (∀ W : World, Calls Tryz.prog 71 #[.string s, .int .i64 (a : Int)] W fun e w' => e = .returned (.tuple #[.agg #[.int .i64 t0, .int .i64 t1, .int .i64 t2, .string T3, .bool t4, .int .i64 t5, .int .i64 t6, .int .i64 t7, .bool t8, .bool t9, .string T10, .int .i64 t11], .int .i64 tn, .int .i64 te]) ∧ Below W.heap.size W w') := by
        rw [← hT3, ← hT10]
        exact HX.out
      have HT3 := hide hT3
      have HT10 := hide hT10
      clear HX hT3 hT10
      go_enter Tryz.func40, Tryz.ntmps40
      go_wp2_with (first | (go_at_call 69; refine (HD.out _).mono ?_; rintro e wz ⟨rfl, hz⟩; subst wz) | (go_at_call 71; refine (HX'.out _).mono ?_; rintro e w1 ⟨rfl, hb_w1⟩; obtain ⟨c_w1, f_w1⟩ := bcell hb_w1; have z_w1 : w.heap.size < w1.heap.size := by have := hb_w1.size; simp at this; omega))
      refine bodyPost_ret (v := .tuple #[.agg #[.int .i64 t0, .int .i64 t1, .int .i64 t2, .string T3, .bool t4, .int .i64 t5, .int .i64 t6, .int .i64 t7, .bool t8, .bool t9, .string T10, .int .i64 t11], .int .i64 tn, .int .i64 te]) (by simp [results, Tryz.results40, go_sem, *]) rfl ⟨by rw [← HT3.out, ← HT10.out]; rfl, ?_⟩
      repeat' (first | with_reducible (first | exact Below.refl _ _ | refine Below.setCell ?_ ?_ _ | refine Below.alloc ?_ ?_ _ | refine below_drewN ?_ _ | refine Below.drew ?_ | refine Below.trans ?_ (Below.mono (by assumption) ?_) | exact Nat.le_refl _ | refine Nat.le_trans ?_ (Below.size (by assumption)) | refine zzA ?_ | refine zzB ?_ | refine zzC ?_ | refine zzD ?_) | (simp; done) | (simp; omega) | omega)
    · rw [if_neg c34]
      have e34 : ((s[a].toNat : Int) == 34) = false := by rw [beq_eq_false_iff_ne]; omega
      by_cases c35 : s[a].toNat = 35
      · rw [if_pos c35]
        have e35 : ((s[a].toNat : Int) == 35) = true := by rw [beq_iff_eq]; omega
        have HX : Hid (∀ W : World, Calls Tryz.prog 72 #[.string s, .int .i64 (a : Int)] W fun e w' => e = .returned (.tuple #[tokV (atX a (faultT (s.data.toList.drop a))).1, .int .i64 (atX a (faultT (s.data.toList.drop a))).2.1, .int .i64 (atX a (faultT (s.data.toList.drop a))).2.2]) ∧ Below W.heap.size W w') := fun W => rfault_any s a W hs (by omega)
        generalize atX a (faultT (s.data.toList.drop a)) = q at *
        clear hd hdg c34 c35 HT hsl
        obtain ⟨⟨t0, t1, t2, t3, t4, t5, t6, t7, t8, t9, t10, t11⟩, tn, te⟩ := q
        obtain ⟨T3, hT3⟩ : ∃ T : ByteArray, (⟨t3.toArray⟩ : ByteArray) = T := ⟨_, rfl⟩
        obtain ⟨T10, hT10⟩ : ∃ T : ByteArray, (⟨t10.toArray⟩ : ByteArray) = T := ⟨_, rfl⟩
        have HX' : Hid (∀ W : World, Calls Tryz.prog 72 #[.string s, .int .i64 (a : Int)] W fun e w' => e = .returned (.tuple #[.agg #[.int .i64 t0, .int .i64 t1, .int .i64 t2, .string T3, .bool t4, .int .i64 t5, .int .i64 t6, .int .i64 t7, .bool t8, .bool t9, .string T10, .int .i64 t11], .int .i64 tn, .int .i64 te]) ∧ Below W.heap.size W w') := by
          rw [← hT3, ← hT10]
          exact HX.out
        have HT3 := hide hT3
        have HT10 := hide hT10
        clear HX hT3 hT10
        go_enter Tryz.func40, Tryz.ntmps40
        go_wp2_with (first | (go_at_call 69; refine (HD.out _).mono ?_; rintro e wz ⟨rfl, hz⟩; subst wz) | (go_at_call 72; refine (HX'.out _).mono ?_; rintro e w1 ⟨rfl, hb_w1⟩; obtain ⟨c_w1, f_w1⟩ := bcell hb_w1; have z_w1 : w.heap.size < w1.heap.size := by have := hb_w1.size; simp at this; omega))
        refine bodyPost_ret (v := .tuple #[.agg #[.int .i64 t0, .int .i64 t1, .int .i64 t2, .string T3, .bool t4, .int .i64 t5, .int .i64 t6, .int .i64 t7, .bool t8, .bool t9, .string T10, .int .i64 t11], .int .i64 tn, .int .i64 te]) (by simp [results, Tryz.results40, go_sem, *]) rfl ⟨by rw [← HT3.out, ← HT10.out]; rfl, ?_⟩
        repeat' (first | with_reducible (first | exact Below.refl _ _ | refine Below.setCell ?_ ?_ _ | refine Below.alloc ?_ ?_ _ | refine below_drewN ?_ _ | refine Below.drew ?_ | refine Below.trans ?_ (Below.mono (by assumption) ?_) | exact Nat.le_refl _ | refine Nat.le_trans ?_ (Below.size (by assumption)) | refine zzA ?_ | refine zzB ?_ | refine zzC ?_ | refine zzD ?_) | (simp; done) | (simp; omega) | omega)
      · rw [if_neg c35]
        have e35 : ((s[a].toNat : Int) == 35) = false := by rw [beq_eq_false_iff_ne]; omega
        cases hl : letterB s[a]
        · rw [hl] at HT
          by_cases c36 : s[a].toNat = 36
          · have e36 : ((s[a].toNat : Int) == 36) = true := by rw [beq_iff_eq]; omega
            rw [if_pos (by simp [c36])]
            have HX : Hid (∀ W : World, Calls Tryz.prog 74 #[.string s, .int .i64 (a : Int)] W fun e w' => e = .returned (.tuple #[tokV (atX a (wordT (s.data.toList.drop a))).1, .int .i64 (atX a (wordT (s.data.toList.drop a))).2.1, .int .i64 (atX a (wordT (s.data.toList.drop a))).2.2]) ∧ Below W.heap.size W w') := fun W => rword_any s a W hs ha (by simp [c36])
            generalize atX a (wordT (s.data.toList.drop a)) = q at *
            clear hd hdg c34 c35 c36 hl hsl
            obtain ⟨⟨t0, t1, t2, t3, t4, t5, t6, t7, t8, t9, t10, t11⟩, tn, te⟩ := q
            obtain ⟨T3, hT3⟩ : ∃ T : ByteArray, (⟨t3.toArray⟩ : ByteArray) = T := ⟨_, rfl⟩
            obtain ⟨T10, hT10⟩ : ∃ T : ByteArray, (⟨t10.toArray⟩ : ByteArray) = T := ⟨_, rfl⟩
            have HX' : Hid (∀ W : World, Calls Tryz.prog 74 #[.string s, .int .i64 (a : Int)] W fun e w' => e = .returned (.tuple #[.agg #[.int .i64 t0, .int .i64 t1, .int .i64 t2, .string T3, .bool t4, .int .i64 t5, .int .i64 t6, .int .i64 t7, .bool t8, .bool t9, .string T10, .int .i64 t11], .int .i64 tn, .int .i64 te]) ∧ Below W.heap.size W w') := by
              rw [← hT3, ← hT10]
              exact HX.out
            have HT3 := hide hT3
            have HT10 := hide hT10
            clear HX hT3 hT10
            go_enter Tryz.func40, Tryz.ntmps40
            go_wp2_with (first | (go_at_call 69; refine (HD.out _).mono ?_; rintro e wz ⟨rfl, hz⟩; subst wz) | (go_at_call 73; refine (HT.out _).mono ?_; rintro e wz ⟨rfl, hz⟩; subst wz) | (go_at_call 74; refine (HX'.out _).mono ?_; rintro e w1 ⟨rfl, hb_w1⟩; obtain ⟨c_w1, f_w1⟩ := bcell hb_w1; have z_w1 : w.heap.size < w1.heap.size := by have := hb_w1.size; simp at this; omega))
            refine bodyPost_ret (v := .tuple #[.agg #[.int .i64 t0, .int .i64 t1, .int .i64 t2, .string T3, .bool t4, .int .i64 t5, .int .i64 t6, .int .i64 t7, .bool t8, .bool t9, .string T10, .int .i64 t11], .int .i64 tn, .int .i64 te]) (by simp [results, Tryz.results40, go_sem, *]) rfl ⟨by rw [← HT3.out, ← HT10.out]; rfl, ?_⟩
            repeat' (first | with_reducible (first | exact Below.refl _ _ | refine Below.setCell ?_ ?_ _ | refine Below.alloc ?_ ?_ _ | refine below_drewN ?_ _ | refine Below.drew ?_ | refine Below.trans ?_ (Below.mono (by assumption) ?_) | exact Nat.le_refl _ | refine Nat.le_trans ?_ (Below.size (by assumption)) | refine zzA ?_ | refine zzB ?_ | refine zzC ?_ | refine zzD ?_) | (simp; done) | (simp; omega) | omega)
          · have e36 : ((s[a].toNat : Int) == 36) = false := by rw [beq_eq_false_iff_ne]; omega
            rw [if_neg (by simp [c36])]
            have HX : Hid (∀ W : World, Calls Tryz.prog 75 #[.string s, .int .i64 (a : Int)] W fun e w' => e = .returned (.tuple #[tokV (atX a (signT (s.data.toList.drop a))).1, .int .i64 (atX a (signT (s.data.toList.drop a))).2.1, .int .i64 (atX a (signT (s.data.toList.drop a))).2.2]) ∧ Below W.heap.size W w') := fun W => rsign_any s a W hs (by omega)
            generalize atX a (signT (s.data.toList.drop a)) = q at *
            clear hd hdg c34 c35 c36 hl hsl
            obtain ⟨⟨t0, t1, t2, t3, t4, t5, t6, t7, t8, t9, t10, t11⟩, tn, te⟩ := q
            obtain ⟨T3, hT3⟩ : ∃ T : ByteArray, (⟨t3.toArray⟩ : ByteArray) = T := ⟨_, rfl⟩
            obtain ⟨T10, hT10⟩ : ∃ T : ByteArray, (⟨t10.toArray⟩ : ByteArray) = T := ⟨_, rfl⟩
            have HX' : Hid (∀ W : World, Calls Tryz.prog 75 #[.string s, .int .i64 (a : Int)] W fun e w' => e = .returned (.tuple #[.agg #[.int .i64 t0, .int .i64 t1, .int .i64 t2, .string T3, .bool t4, .int .i64 t5, .int .i64 t6, .int .i64 t7, .bool t8, .bool t9, .string T10, .int .i64 t11], .int .i64 tn, .int .i64 te]) ∧ Below W.heap.size W w') := by
              rw [← hT3, ← hT10]
              exact HX.out
            have HT3 := hide hT3
            have HT10 := hide hT10
            clear HX hT3 hT10
            go_enter Tryz.func40, Tryz.ntmps40
            go_wp2_with (first | (go_at_call 69; refine (HD.out _).mono ?_; rintro e wz ⟨rfl, hz⟩; subst wz) | (go_at_call 73; refine (HT.out _).mono ?_; rintro e wz ⟨rfl, hz⟩; subst wz) | (go_at_call 75; refine (HX'.out _).mono ?_; rintro e w1 ⟨rfl, hb_w1⟩; obtain ⟨c_w1, f_w1⟩ := bcell hb_w1; have z_w1 : w.heap.size < w1.heap.size := by have := hb_w1.size; simp at this; omega))
            refine bodyPost_ret (v := .tuple #[.agg #[.int .i64 t0, .int .i64 t1, .int .i64 t2, .string T3, .bool t4, .int .i64 t5, .int .i64 t6, .int .i64 t7, .bool t8, .bool t9, .string T10, .int .i64 t11], .int .i64 tn, .int .i64 te]) (by simp [results, Tryz.results40, go_sem, *]) rfl ⟨by rw [← HT3.out, ← HT10.out]; rfl, ?_⟩
            repeat' (first | with_reducible (first | exact Below.refl _ _ | refine Below.setCell ?_ ?_ _ | refine Below.alloc ?_ ?_ _ | refine below_drewN ?_ _ | refine Below.drew ?_ | refine Below.trans ?_ (Below.mono (by assumption) ?_) | exact Nat.le_refl _ | refine Nat.le_trans ?_ (Below.size (by assumption)) | refine zzA ?_ | refine zzB ?_ | refine zzC ?_ | refine zzD ?_) | (simp; done) | (simp; omega) | omega)
        · rw [hl] at HT
          rw [if_pos (by simp)]
          have HX : Hid (∀ W : World, Calls Tryz.prog 74 #[.string s, .int .i64 (a : Int)] W fun e w' => e = .returned (.tuple #[tokV (atX a (wordT (s.data.toList.drop a))).1, .int .i64 (atX a (wordT (s.data.toList.drop a))).2.1, .int .i64 (atX a (wordT (s.data.toList.drop a))).2.2]) ∧ Below W.heap.size W w') := fun W => rword_any s a W hs ha (by simp [hl])
          generalize atX a (wordT (s.data.toList.drop a)) = q at *
          clear hd hdg c34 c35 hl hsl
          obtain ⟨⟨t0, t1, t2, t3, t4, t5, t6, t7, t8, t9, t10, t11⟩, tn, te⟩ := q
          obtain ⟨T3, hT3⟩ : ∃ T : ByteArray, (⟨t3.toArray⟩ : ByteArray) = T := ⟨_, rfl⟩
          obtain ⟨T10, hT10⟩ : ∃ T : ByteArray, (⟨t10.toArray⟩ : ByteArray) = T := ⟨_, rfl⟩
          have HX' : Hid (∀ W : World, Calls Tryz.prog 74 #[.string s, .int .i64 (a : Int)] W fun e w' => e = .returned (.tuple #[.agg #[.int .i64 t0, .int .i64 t1, .int .i64 t2, .string T3, .bool t4, .int .i64 t5, .int .i64 t6, .int .i64 t7, .bool t8, .bool t9, .string T10, .int .i64 t11], .int .i64 tn, .int .i64 te]) ∧ Below W.heap.size W w') := by
            rw [← hT3, ← hT10]
            exact HX.out
          have HT3 := hide hT3
          have HT10 := hide hT10
          clear HX hT3 hT10
          go_enter Tryz.func40, Tryz.ntmps40
          go_wp2_with (first | (go_at_call 69; refine (HD.out _).mono ?_; rintro e wz ⟨rfl, hz⟩; subst wz) | (go_at_call 73; refine (HT.out _).mono ?_; rintro e wz ⟨rfl, hz⟩; subst wz) | (go_at_call 74; refine (HX'.out _).mono ?_; rintro e w1 ⟨rfl, hb_w1⟩; obtain ⟨c_w1, f_w1⟩ := bcell hb_w1; have z_w1 : w.heap.size < w1.heap.size := by have := hb_w1.size; simp at this; omega))
          refine bodyPost_ret (v := .tuple #[.agg #[.int .i64 t0, .int .i64 t1, .int .i64 t2, .string T3, .bool t4, .int .i64 t5, .int .i64 t6, .int .i64 t7, .bool t8, .bool t9, .string T10, .int .i64 t11], .int .i64 tn, .int .i64 te]) (by simp [results, Tryz.results40, go_sem, *]) rfl ⟨by rw [← HT3.out, ← HT10.out]; rfl, ?_⟩
          repeat' (first | with_reducible (first | exact Below.refl _ _ | refine Below.setCell ?_ ?_ _ | refine Below.alloc ?_ ?_ _ | refine below_drewN ?_ _ | refine Below.drew ?_ | refine Below.trans ?_ (Below.mono (by assumption) ?_) | exact Nat.le_refl _ | refine Nat.le_trans ?_ (Below.size (by assumption)) | refine zzA ?_ | refine zzB ?_ | refine zzC ?_ | refine zzD ?_) | (simp; done) | (simp; omega) | omega)
  · rw [hdg] at HD
    rw [if_pos rfl]
    have HX : Hid (∀ W : World, Calls Tryz.prog 70 #[.string s, .int .i64 (a : Int)] W fun e w' => e = .returned (.tuple #[tokV (atX a (numberT (s.data.toList.drop a))).1, .int .i64 (atX a (numberT (s.data.toList.drop a))).2.1, .int .i64 (atX a (numberT (s.data.toList.drop a))).2.2]) ∧ Below W.heap.size W w') := fun W => rnum_any s a W hs (by omega)
    generalize atX a (numberT (s.data.toList.drop a)) = q at *
    clear hd hdg HT hsl
    obtain ⟨⟨t0, t1, t2, t3, t4, t5, t6, t7, t8, t9, t10, t11⟩, tn, te⟩ := q
    obtain ⟨T3, hT3⟩ : ∃ T : ByteArray, (⟨t3.toArray⟩ : ByteArray) = T := ⟨_, rfl⟩
    obtain ⟨T10, hT10⟩ : ∃ T : ByteArray, (⟨t10.toArray⟩ : ByteArray) = T := ⟨_, rfl⟩
    have HX' : Hid (∀ W : World, Calls Tryz.prog 70 #[.string s, .int .i64 (a : Int)] W fun e w' => e = .returned (.tuple #[.agg #[.int .i64 t0, .int .i64 t1, .int .i64 t2, .string T3, .bool t4, .int .i64 t5, .int .i64 t6, .int .i64 t7, .bool t8, .bool t9, .string T10, .int .i64 t11], .int .i64 tn, .int .i64 te]) ∧ Below W.heap.size W w') := by
      rw [← hT3, ← hT10]
      exact HX.out
    have HT3 := hide hT3
    have HT10 := hide hT10
    clear HX hT3 hT10
    go_enter Tryz.func40, Tryz.ntmps40
    go_wp2_with (first | (go_at_call 69; refine (HD.out _).mono ?_; rintro e wz ⟨rfl, hz⟩; subst wz) | (go_at_call 70; refine (HX'.out _).mono ?_; rintro e w1 ⟨rfl, hb_w1⟩; obtain ⟨c_w1, f_w1⟩ := bcell hb_w1; have z_w1 : w.heap.size < w1.heap.size := by have := hb_w1.size; simp at this; omega))
    refine bodyPost_ret (v := .tuple #[.agg #[.int .i64 t0, .int .i64 t1, .int .i64 t2, .string T3, .bool t4, .int .i64 t5, .int .i64 t6, .int .i64 t7, .bool t8, .bool t9, .string T10, .int .i64 t11], .int .i64 tn, .int .i64 te]) (by simp [results, Tryz.results40, go_sem, *]) rfl ⟨by rw [← HT3.out, ← HT10.out]; rfl, ?_⟩
    repeat' (first | with_reducible (first | exact Below.refl _ _ | refine Below.setCell ?_ ?_ _ | refine Below.alloc ?_ ?_ _ | refine below_drewN ?_ _ | refine Below.drew ?_ | refine Below.trans ?_ (Below.mono (by assumption) ?_) | exact Nat.le_refl _ | refine Nat.le_trans ?_ (Below.size (by assumption)) | refine zzA ?_ | refine zzB ?_ | refine zzC ?_ | refine zzD ?_) | (simp; done) | (simp; omega) | omega)
end Go.Proofs.YtiaoaifoecmemaaGreatDoor
