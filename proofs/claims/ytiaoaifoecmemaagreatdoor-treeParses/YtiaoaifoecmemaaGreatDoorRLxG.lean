/-
  What lex's calls ask of the world; the contract of first.
-/
import Derived.Test.YtiaoaifoecmemaaGreatDoorRLxC
import Derived.Test.YtiaoaifoecmemaaGreatDoorRLxE
import Derived.Test.YtiaoaifoecmemaaGreatDoorRLxF
set_option maxRecDepth 100000
set_option maxHeartbeats 4000000
namespace Go.Proofs.YtiaoaifoecmemaaGreatDoor
open Go.RowKit
structure EnvL (w : World) : Prop where
 cell : CellOk w
 names : NamesOk w
 signs : SignsOk w
theorem EnvL.below {w w' : World} (h : EnvL w) (hb : Below w.heap.size w w') : EnvL w' := ⟨cellOk_below h.cell hb, names_below h.names hb, signs_below h.signs hb⟩
theorem first_cons {l : List UInt8} {c : UInt8} {r : List UInt8} (h : l = c :: r) : firstT l = if isDig c then numberT l else if c.toNat = 34 then textT l else if c.toNat = 35 then faultT l else if letterB c || decide (c.toNat = 36) then wordT l else signT l := by subst h; rfl
theorem first_nil (w : World) :
  Calls Tryz.prog 99 #[.string ⟨#[]⟩] w fun e w' => e = .returned (.tuple #[tokV (firstT []).1, .int .i64 ((firstT []).2.1 : Int), .int .i64 (firstT []).2.2]) ∧ Below w.heap.size w w' := by
 go_enter Tryz.func99, Tryz.ntmps99
 go_wp2
 refine bodyPost_ret (v := .tuple #[.agg #[.int .i64 0, .int .i64 0, .int .i64 0, .string ⟨#[]⟩, .bool false, .int .i64 0, .int .i64 0, .int .i64 0, .bool false, .bool false, .string ⟨#[]⟩, .int .i64 0], .int .i64 0, .int .i64 0]) (by simp [results, Tryz.results99, go_sem]) rfl ⟨rfl, ?_⟩
 repeat' (first | with_reducible (first | exact Below.refl _ _ | refine Below.setCell ?_ ?_ _ | refine Below.alloc ?_ ?_ _ | refine below_drewN ?_ _ | refine Below.drew ?_ | refine Below.trans ?_ (Below.mono (by assumption) ?_) | exact Nat.le_refl _ | refine Nat.le_trans ?_ (Below.size (by assumption)) | refine zzA ?_ | refine zzB ?_ | refine zzC ?_ | refine zzD ?_) | (simp; done) | (simp; omega) | omega)
theorem first_any (s : ByteArray) (w : World) (he : EnvL w) (hs : s.size ≤ 1024) :
    Calls Tryz.prog 99 #[.string s] w fun e w' => e = .returned (.tuple #[tokV (firstT s.data.toList).1, .int .i64 ((firstT s.data.toList).2.1 : Int), .int .i64 (firstT s.data.toList).2.2]) ∧ Below w.heap.size w w' := by
  by_cases h0 : s.size = 0
  · obtain rfl : s = ⟨#[]⟩ := by
      apply ByteArray.ext
      exact Array.eq_empty_of_size_eq_zero h0
    exact first_nil w
  · have hm : s.size ≤ maxLen := by unfold maxLen; omega
    have h1 : 0 < s.size := by omega
    obtain ⟨r, hr⟩ : ∃ r, s.data.toList = s[0] :: r := by
      have : 0 < s.data.toList.length := by simpa using h1
      refine ⟨s.data.toList.drop 1, ?_⟩
      have e := List.drop_eq_getElem_cons this
      rw [List.drop_zero] at e
      rw [ByteArray.getElem_eq_getElem_data, ← Array.getElem_toList]
      exact e
    have g0 : (s.toList == []) = false := by
      rw [ByteArray.toList_eq, hr]; rfl
    have HD : Hid (∀ W : World, Calls Tryz.prog 125 #[.int .u8 (s[0].toNat : Int)] W fun e w' => e = .returned (.bool (isDig s[0])) ∧ w' = W) := fun W => isDigit_any s[0] W
    have HL : Hid (∀ W : World, Calls Tryz.prog 129 #[.int .u8 (s[0].toNat : Int)] W fun e w' => e = .returned (.bool (letterB s[0])) ∧ w' = W) := fun W => isLetter_any s[0] W
    have i34 : (⟨#[34]⟩ : ByteArray)[0] = 34 := rfl
    have i35 : (⟨#[35]⟩ : ByteArray)[0] = 35 := rfl
    have i36 : (⟨#[36]⟩ : ByteArray)[0] = 36 := rfl
    have HE := hide he
    have HB : Hid (∀ o : Obj, EnvL (w.alloc o)) := fun o => HE.out.below ((Below.refl _ _).alloc (Nat.le_refl _) o)
    rw [first_cons hr]
    cases hd : isDig s[0]
    · rw [hd] at HD
      rw [if_neg (by simp)]
      by_cases c34 : s[0].toNat = 34
      · rw [if_pos c34]
        have e34 : ((s[0].toNat : Int) == 34) = true := by rw [beq_iff_eq]; omega
        have HX : Hid (∀ W : World, EnvL W → Calls Tryz.prog 127 #[.string s] W fun e w' => e = .returned (.tuple #[tokV (textT s.data.toList).1, .int .i64 ((textT s.data.toList).2.1 : Int), .int .i64 (textT s.data.toList).2.2]) ∧ Below W.heap.size W w') := fun W hW => lxtext_any s W r (by rw [hr, byte34.1 c34]) hW.cell hs
        generalize textT s.data.toList = q at *
        clear hr hd c34 he HL
        obtain ⟨⟨t0, t1, t2, t3, t4, t5, t6, t7, t8, t9, t10, t11⟩, tm, te⟩ := q
        obtain ⟨T3, hT3⟩ : ∃ T : ByteArray, (⟨t3.toArray⟩ : ByteArray) = T := ⟨_, rfl⟩
        obtain ⟨T10, hT10⟩ : ∃ T : ByteArray, (⟨t10.toArray⟩ : ByteArray) = T := ⟨_, rfl⟩
        have HX' : Hid (∀ W : World, EnvL W → Calls Tryz.prog 127 #[.string s] W fun e w' => e = .returned (.tuple #[.agg #[.int .i64 t0, .int .i64 t1, .int .i64 t2, .string T3, .bool t4, .int .i64 t5, .int .i64 t6, .int .i64 t7, .bool t8, .bool t9, .string T10, .int .i64 t11], .int .i64 (tm : Int), .int .i64 te]) ∧ Below W.heap.size W w') := by
          rw [← hT3, ← hT10]
          exact HX.out
        have HT3 := hide hT3
        have HT10 := hide hT10
        clear HX hT3 hT10
        go_enter Tryz.func99, Tryz.ntmps99
        go_wp2_with (first | (go_at_call 125; refine (HD.out _).mono ?_; rintro e wz ⟨rfl, hz⟩; subst wz) | (go_at_call 127; refine (HX'.out _ (HB.out _)).mono ?_; rintro e w1 ⟨rfl, hb_w1⟩; obtain ⟨c_w1, f_w1⟩ := bcell hb_w1; have z_w1 : w.heap.size < w1.heap.size := by have := hb_w1.size; simp at this; omega))
        refine bodyPost_ret (v := .tuple #[.agg #[.int .i64 t0, .int .i64 t1, .int .i64 t2, .string T3, .bool t4, .int .i64 t5, .int .i64 t6, .int .i64 t7, .bool t8, .bool t9, .string T10, .int .i64 t11], .int .i64 (tm : Int), .int .i64 te]) (by simp [results, Tryz.results99, go_sem, *]) rfl ⟨by rw [← HT3.out, ← HT10.out]; rfl, ?_⟩
        repeat' (first | with_reducible (first | exact Below.refl _ _ | refine Below.setCell ?_ ?_ _ | refine Below.alloc ?_ ?_ _ | refine below_drewN ?_ _ | refine Below.drew ?_ | refine Below.trans ?_ (Below.mono (by assumption) ?_) | exact Nat.le_refl _ | refine Nat.le_trans ?_ (Below.size (by assumption)) | refine zzA ?_ | refine zzB ?_ | refine zzC ?_ | refine zzD ?_) | (simp; done) | (simp; omega) | omega)
      · rw [if_neg c34]
        have e34 : ((s[0].toNat : Int) == 34) = false := by rw [beq_eq_false_iff_ne]; omega
        by_cases c35 : s[0].toNat = 35
        · rw [if_pos c35]
          have e35 : ((s[0].toNat : Int) == 35) = true := by rw [beq_iff_eq]; omega
          have HX : Hid (∀ W : World, EnvL W → Calls Tryz.prog 128 #[.string s] W fun e w' => e = .returned (.tuple #[tokV (faultT s.data.toList).1, .int .i64 ((faultT s.data.toList).2.1 : Int), .int .i64 (faultT s.data.toList).2.2]) ∧ Below W.heap.size W w') := fun W hW => lxfault_any s W hW.names
          generalize faultT s.data.toList = q at *
          clear hr hd c34 c35 he HL
          obtain ⟨⟨t0, t1, t2, t3, t4, t5, t6, t7, t8, t9, t10, t11⟩, tm, te⟩ := q
          obtain ⟨T3, hT3⟩ : ∃ T : ByteArray, (⟨t3.toArray⟩ : ByteArray) = T := ⟨_, rfl⟩
          obtain ⟨T10, hT10⟩ : ∃ T : ByteArray, (⟨t10.toArray⟩ : ByteArray) = T := ⟨_, rfl⟩
          have HX' : Hid (∀ W : World, EnvL W → Calls Tryz.prog 128 #[.string s] W fun e w' => e = .returned (.tuple #[.agg #[.int .i64 t0, .int .i64 t1, .int .i64 t2, .string T3, .bool t4, .int .i64 t5, .int .i64 t6, .int .i64 t7, .bool t8, .bool t9, .string T10, .int .i64 t11], .int .i64 (tm : Int), .int .i64 te]) ∧ Below W.heap.size W w') := by
            rw [← hT3, ← hT10]
            exact HX.out
          have HT3 := hide hT3
          have HT10 := hide hT10
          clear HX hT3 hT10
          go_enter Tryz.func99, Tryz.ntmps99
          go_wp2_with (first | (go_at_call 125; refine (HD.out _).mono ?_; rintro e wz ⟨rfl, hz⟩; subst wz) | (go_at_call 128; refine (HX'.out _ (HB.out _)).mono ?_; rintro e w1 ⟨rfl, hb_w1⟩; obtain ⟨c_w1, f_w1⟩ := bcell hb_w1; have z_w1 : w.heap.size < w1.heap.size := by have := hb_w1.size; simp at this; omega))
          refine bodyPost_ret (v := .tuple #[.agg #[.int .i64 t0, .int .i64 t1, .int .i64 t2, .string T3, .bool t4, .int .i64 t5, .int .i64 t6, .int .i64 t7, .bool t8, .bool t9, .string T10, .int .i64 t11], .int .i64 (tm : Int), .int .i64 te]) (by simp [results, Tryz.results99, go_sem, *]) rfl ⟨by rw [← HT3.out, ← HT10.out]; rfl, ?_⟩
          repeat' (first | with_reducible (first | exact Below.refl _ _ | refine Below.setCell ?_ ?_ _ | refine Below.alloc ?_ ?_ _ | refine below_drewN ?_ _ | refine Below.drew ?_ | refine Below.trans ?_ (Below.mono (by assumption) ?_) | exact Nat.le_refl _ | refine Nat.le_trans ?_ (Below.size (by assumption)) | refine zzA ?_ | refine zzB ?_ | refine zzC ?_ | refine zzD ?_) | (simp; done) | (simp; omega) | omega)
        · rw [if_neg c35]
          have e35 : ((s[0].toNat : Int) == 35) = false := by rw [beq_eq_false_iff_ne]; omega
          have HX : Hid (∀ W : World, Calls Tryz.prog 130 #[.string s] W fun e w' => e = .returned (.tuple #[tokV (wordT s.data.toList).1, .int .i64 ((wordT s.data.toList).2.1 : Int), .int .i64 (wordT s.data.toList).2.2]) ∧ Below W.heap.size W w') := fun W => lxword_any s W hm
          have HY : Hid (∀ W : World, EnvL W → Calls Tryz.prog 131 #[.string s] W fun e w' => e = .returned (.tuple #[tokV (signT s.data.toList).1, .int .i64 ((signT s.data.toList).2.1 : Int), .int .i64 (signT s.data.toList).2.2]) ∧ Below W.heap.size W w') := fun W hW => lxsign_any s W hW.signs
          generalize wordT s.data.toList = q at *
          generalize signT s.data.toList = q' at *
          clear hr hd c34 c35 he
          cases hl : letterB s[0]
          · rw [hl] at HL
            by_cases c36 : s[0].toNat = 36
            · have e36 : ((s[0].toNat : Int) == 36) = true := by rw [beq_iff_eq]; omega
              rw [if_pos (by simp [c36])]
              clear hl c36 HY
              obtain ⟨⟨t0, t1, t2, t3, t4, t5, t6, t7, t8, t9, t10, t11⟩, tm, te⟩ := q
              obtain ⟨T3, hT3⟩ : ∃ T : ByteArray, (⟨t3.toArray⟩ : ByteArray) = T := ⟨_, rfl⟩
              obtain ⟨T10, hT10⟩ : ∃ T : ByteArray, (⟨t10.toArray⟩ : ByteArray) = T := ⟨_, rfl⟩
              have HX' : Hid (∀ W : World, Calls Tryz.prog 130 #[.string s] W fun e w' => e = .returned (.tuple #[.agg #[.int .i64 t0, .int .i64 t1, .int .i64 t2, .string T3, .bool t4, .int .i64 t5, .int .i64 t6, .int .i64 t7, .bool t8, .bool t9, .string T10, .int .i64 t11], .int .i64 (tm : Int), .int .i64 te]) ∧ Below W.heap.size W w') := by
                rw [← hT3, ← hT10]
                exact HX.out
              have HT3 := hide hT3
              have HT10 := hide hT10
              clear HX hT3 hT10
              go_enter Tryz.func99, Tryz.ntmps99
              go_wp2_with (first | (go_at_call 125; refine (HD.out _).mono ?_; rintro e wz ⟨rfl, hz⟩; subst wz) | (go_at_call 129; refine (HL.out _).mono ?_; rintro e wz ⟨rfl, hz⟩; subst wz) | (go_at_call 130; refine (HX'.out _).mono ?_; rintro e w1 ⟨rfl, hb_w1⟩; obtain ⟨c_w1, f_w1⟩ := bcell hb_w1; have z_w1 : w.heap.size < w1.heap.size := by have := hb_w1.size; simp at this; omega))
              refine bodyPost_ret (v := .tuple #[.agg #[.int .i64 t0, .int .i64 t1, .int .i64 t2, .string T3, .bool t4, .int .i64 t5, .int .i64 t6, .int .i64 t7, .bool t8, .bool t9, .string T10, .int .i64 t11], .int .i64 (tm : Int), .int .i64 te]) (by simp [results, Tryz.results99, go_sem, *]) rfl ⟨by rw [← HT3.out, ← HT10.out]; rfl, ?_⟩
              repeat' (first | with_reducible (first | exact Below.refl _ _ | refine Below.setCell ?_ ?_ _ | refine Below.alloc ?_ ?_ _ | refine below_drewN ?_ _ | refine Below.drew ?_ | refine Below.trans ?_ (Below.mono (by assumption) ?_) | exact Nat.le_refl _ | refine Nat.le_trans ?_ (Below.size (by assumption)) | refine zzA ?_ | refine zzB ?_ | refine zzC ?_ | refine zzD ?_) | (simp; done) | (simp; omega) | omega)
            · have e36 : ((s[0].toNat : Int) == 36) = false := by rw [beq_eq_false_iff_ne]; omega
              rw [if_neg (by simp [c36])]
              clear hl c36 HX
              obtain ⟨⟨t0, t1, t2, t3, t4, t5, t6, t7, t8, t9, t10, t11⟩, tm, te⟩ := q'
              obtain ⟨T3, hT3⟩ : ∃ T : ByteArray, (⟨t3.toArray⟩ : ByteArray) = T := ⟨_, rfl⟩
              obtain ⟨T10, hT10⟩ : ∃ T : ByteArray, (⟨t10.toArray⟩ : ByteArray) = T := ⟨_, rfl⟩
              have HY' : Hid (∀ W : World, EnvL W → Calls Tryz.prog 131 #[.string s] W fun e w' => e = .returned (.tuple #[.agg #[.int .i64 t0, .int .i64 t1, .int .i64 t2, .string T3, .bool t4, .int .i64 t5, .int .i64 t6, .int .i64 t7, .bool t8, .bool t9, .string T10, .int .i64 t11], .int .i64 (tm : Int), .int .i64 te]) ∧ Below W.heap.size W w') := by
                rw [← hT3, ← hT10]
                exact HY.out
              have HT3 := hide hT3
              have HT10 := hide hT10
              clear HY hT3 hT10
              go_enter Tryz.func99, Tryz.ntmps99
              go_wp2_with (first | (go_at_call 125; refine (HD.out _).mono ?_; rintro e wz ⟨rfl, hz⟩; subst wz) | (go_at_call 129; refine (HL.out _).mono ?_; rintro e wz ⟨rfl, hz⟩; subst wz) | (go_at_call 131; refine (HY'.out _ (HB.out _)).mono ?_; rintro e w1 ⟨rfl, hb_w1⟩; obtain ⟨c_w1, f_w1⟩ := bcell hb_w1; have z_w1 : w.heap.size < w1.heap.size := by have := hb_w1.size; simp at this; omega))
              refine bodyPost_ret (v := .tuple #[.agg #[.int .i64 t0, .int .i64 t1, .int .i64 t2, .string T3, .bool t4, .int .i64 t5, .int .i64 t6, .int .i64 t7, .bool t8, .bool t9, .string T10, .int .i64 t11], .int .i64 (tm : Int), .int .i64 te]) (by simp [results, Tryz.results99, go_sem, *]) rfl ⟨by rw [← HT3.out, ← HT10.out]; rfl, ?_⟩
              repeat' (first | with_reducible (first | exact Below.refl _ _ | refine Below.setCell ?_ ?_ _ | refine Below.alloc ?_ ?_ _ | refine below_drewN ?_ _ | refine Below.drew ?_ | refine Below.trans ?_ (Below.mono (by assumption) ?_) | exact Nat.le_refl _ | refine Nat.le_trans ?_ (Below.size (by assumption)) | refine zzA ?_ | refine zzB ?_ | refine zzC ?_ | refine zzD ?_) | (simp; done) | (simp; omega) | omega)
          · rw [hl] at HL
            rw [if_pos (by simp)]
            clear hl HY
            obtain ⟨⟨t0, t1, t2, t3, t4, t5, t6, t7, t8, t9, t10, t11⟩, tm, te⟩ := q
            obtain ⟨T3, hT3⟩ : ∃ T : ByteArray, (⟨t3.toArray⟩ : ByteArray) = T := ⟨_, rfl⟩
            obtain ⟨T10, hT10⟩ : ∃ T : ByteArray, (⟨t10.toArray⟩ : ByteArray) = T := ⟨_, rfl⟩
            have HX' : Hid (∀ W : World, Calls Tryz.prog 130 #[.string s] W fun e w' => e = .returned (.tuple #[.agg #[.int .i64 t0, .int .i64 t1, .int .i64 t2, .string T3, .bool t4, .int .i64 t5, .int .i64 t6, .int .i64 t7, .bool t8, .bool t9, .string T10, .int .i64 t11], .int .i64 (tm : Int), .int .i64 te]) ∧ Below W.heap.size W w') := by
              rw [← hT3, ← hT10]
              exact HX.out
            have HT3 := hide hT3
            have HT10 := hide hT10
            clear HX hT3 hT10
            go_enter Tryz.func99, Tryz.ntmps99
            go_wp2_with (first | (go_at_call 125; refine (HD.out _).mono ?_; rintro e wz ⟨rfl, hz⟩; subst wz) | (go_at_call 129; refine (HL.out _).mono ?_; rintro e wz ⟨rfl, hz⟩; subst wz) | (go_at_call 130; refine (HX'.out _).mono ?_; rintro e w1 ⟨rfl, hb_w1⟩; obtain ⟨c_w1, f_w1⟩ := bcell hb_w1; have z_w1 : w.heap.size < w1.heap.size := by have := hb_w1.size; simp at this; omega))
            refine bodyPost_ret (v := .tuple #[.agg #[.int .i64 t0, .int .i64 t1, .int .i64 t2, .string T3, .bool t4, .int .i64 t5, .int .i64 t6, .int .i64 t7, .bool t8, .bool t9, .string T10, .int .i64 t11], .int .i64 (tm : Int), .int .i64 te]) (by simp [results, Tryz.results99, go_sem, *]) rfl ⟨by rw [← HT3.out, ← HT10.out]; rfl, ?_⟩
            repeat' (first | with_reducible (first | exact Below.refl _ _ | refine Below.setCell ?_ ?_ _ | refine Below.alloc ?_ ?_ _ | refine below_drewN ?_ _ | refine Below.drew ?_ | refine Below.trans ?_ (Below.mono (by assumption) ?_) | exact Nat.le_refl _ | refine Nat.le_trans ?_ (Below.size (by assumption)) | refine zzA ?_ | refine zzB ?_ | refine zzC ?_ | refine zzD ?_) | (simp; done) | (simp; omega) | omega)
    · rw [hd] at HD
      rw [if_pos rfl]
      have HX : Hid (∀ W : World, EnvL W → Calls Tryz.prog 126 #[.string s] W fun e w' => e = .returned (.tuple #[tokV (numberT s.data.toList).1, .int .i64 ((numberT s.data.toList).2.1 : Int), .int .i64 (numberT s.data.toList).2.2]) ∧ Below W.heap.size W w') := fun W hW => lxnum_any s W hW.cell hm
      generalize numberT s.data.toList = q at *
      clear hr hd he HL
      obtain ⟨⟨t0, t1, t2, t3, t4, t5, t6, t7, t8, t9, t10, t11⟩, tm, te⟩ := q
      obtain ⟨T3, hT3⟩ : ∃ T : ByteArray, (⟨t3.toArray⟩ : ByteArray) = T := ⟨_, rfl⟩
      obtain ⟨T10, hT10⟩ : ∃ T : ByteArray, (⟨t10.toArray⟩ : ByteArray) = T := ⟨_, rfl⟩
      have HX' : Hid (∀ W : World, EnvL W → Calls Tryz.prog 126 #[.string s] W fun e w' => e = .returned (.tuple #[.agg #[.int .i64 t0, .int .i64 t1, .int .i64 t2, .string T3, .bool t4, .int .i64 t5, .int .i64 t6, .int .i64 t7, .bool t8, .bool t9, .string T10, .int .i64 t11], .int .i64 (tm : Int), .int .i64 te]) ∧ Below W.heap.size W w') := by
        rw [← hT3, ← hT10]
        exact HX.out
      have HT3 := hide hT3
      have HT10 := hide hT10
      clear HX hT3 hT10
      go_enter Tryz.func99, Tryz.ntmps99
      go_wp2_with (first | (go_at_call 125; refine (HD.out _).mono ?_; rintro e wz ⟨rfl, hz⟩; subst wz) | (go_at_call 126; refine (HX'.out _ (HB.out _)).mono ?_; rintro e w1 ⟨rfl, hb_w1⟩; obtain ⟨c_w1, f_w1⟩ := bcell hb_w1; have z_w1 : w.heap.size < w1.heap.size := by have := hb_w1.size; simp at this; omega))
      refine bodyPost_ret (v := .tuple #[.agg #[.int .i64 t0, .int .i64 t1, .int .i64 t2, .string T3, .bool t4, .int .i64 t5, .int .i64 t6, .int .i64 t7, .bool t8, .bool t9, .string T10, .int .i64 t11], .int .i64 (tm : Int), .int .i64 te]) (by simp [results, Tryz.results99, go_sem, *]) rfl ⟨by rw [← HT3.out, ← HT10.out]; rfl, ?_⟩
      repeat' (first | with_reducible (first | exact Below.refl _ _ | refine Below.setCell ?_ ?_ _ | refine Below.alloc ?_ ?_ _ | refine below_drewN ?_ _ | refine Below.drew ?_ | refine Below.trans ?_ (Below.mono (by assumption) ?_) | exact Nat.le_refl _ | refine Nat.le_trans ?_ (Below.size (by assumption)) | refine zzA ?_ | refine zzB ?_ | refine zzC ?_ | refine zzD ?_) | (simp; done) | (simp; omega) | omega)
end Go.Proofs.YtiaoaifoecmemaaGreatDoor
