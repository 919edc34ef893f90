/-
  The contracts of lex's name and word.
-/
import Derived.Test.YtiaoaifoecmemaaGreatDoorRLxB
import Derived.Test.YtiaoaifoecmemaaGreatDoorRLxM1
set_option maxRecDepth 100000
set_option maxHeartbeats 4000000
namespace Go.Proofs.YtiaoaifoecmemaaGreatDoor
open Go.RowKit
theorem index_ge' : ∀ (l : List UInt8), -1 ≤ Lib.indexByte l 36
  | [] => by simp [Lib.indexByte]
  | c :: r => by
    have := index_ge' r
    unfold Lib.indexByte
    split
    · omega
    · split <;> omega
theorem has_dollar : ∀ (l : List UInt8), decide (0 ≤ Lib.indexByte l 36) = l.any (fun c => decide (c.toNat = 36))
  | [] => by simp [Lib.indexByte]
  | c :: r => by
    have ih := has_dollar r
    have hg := index_ge' r
    have hx : Lib.indexByte (c :: r) 36 = if c == 36 then 0 else if Lib.indexByte r 36 == -1 then -1 else Lib.indexByte r 36 + 1 := rfl
    rw [List.any_cons, ← ih, hx]
    have e36 : c.toNat = 36 ↔ c = 36 := byte_is (by omega)
    by_cases h : c = 36
    · simp [h]
    · have h' : ¬ c.toNat = 36 := fun x => h (e36.1 x)
      have hb : (c == 36) = false := by simp [h]
      rw [show decide (c.toNat = 36) = false by simp [h']]
      simp only [hb, Bool.false_or]
      by_cases hm : Lib.indexByte r 36 = -1
      · simp [hm]
      · simp [hm]
        omega
theorem truth_word (s : ByteArray) : truthV 2 0 s false 0 = ((namedR s.data.toList).1, if (namedR s.data.toList).2 then 0 else 2) := by
  unfold truthV
  by_cases h : s.size ≤ 255
  · rw [show rightB 2 0 s false 0 = true by simp [rightB, h]]
    simp
  · rw [show rightB 2 0 s false 0 = false by simp [rightB, h]]
    have hl : 255 < s.data.toList.length := by simp; omega
    have hf : (foldL s.data.toList).length = s.data.toList.length := by unfold foldL; simp
    have : namedR s.data.toList = (false, false) := by
      unfold namedR
      rw [if_neg (fun e => by rw [e] at hf; simp at hf; simp at hl; omega), if_neg (fun e => by rw [e] at hf; simp at hf; simp at hl; omega)]
    rw [this]; simp
theorem lxname_any (s : ByteArray) (w : World) (hs : s.size ≤ maxLen) :
    Calls Tryz.prog 162 #[.string s] w fun e w' => e = .returned (.tuple #[tokV (nameT s.data.toList).1, .int .i64 ((nameT s.data.toList).2.1 : Int), .int .i64 (nameT s.data.toList).2.2]) ∧ Below w.heap.size w w' := by
  have HC : Hid (∀ W : World, Calls Tryz.prog 186 #[.string s, .string ⟨#[36]⟩] W fun e w' => e = .returned (.bool (s.data.toList.any (fun c => decide (c.toNat = 36)))) ∧ w' = W) := fun W => by
    have := Tryz.strings_Contains_one s 36 W
    rw [has_dollar] at this
    exact this
  have HF : Hid (∀ W : World, Calls Tryz.prog 187 #[.string s] W fun e w' => e = .returned (.string ⟨(foldL s.data.toList).toArray⟩) ∧ Below W.heap.size W w') := fun W => fold_any s W
  have hl : s.data.toList.length = s.size := by simp
  unfold maxLen at hs
  unfold nameT
  rw [hl]
  cases ha : s.data.toList.any (fun c => decide (c.toNat = 36))
  · rw [ha] at HC
    by_cases h20 : 20 < s.size
    · have g20 : (20 : Int) < s.size := by omega
      have HW : Hid (∀ W : World, Calls Tryz.prog 157 #[.int .i64 5] W fun r w' => r = .returned (.tuple #[.agg #[.int .i64 0, .int .i64 0, .int .i64 0, .string ⟨#[]⟩, .bool false, .int .i64 0, .int .i64 0, .int .i64 0, .bool false, .bool false, .string ⟨#[]⟩, .int .i64 0], .int .i64 0, .int .i64 5]) ∧ Below W.heap.size W w') := fun W => wrong_any 5 W
      rw [if_pos (by simp; omega)]
      clear hl ha h20
      go_enter Tryz.func162, Tryz.ntmps162
      go_wp2_with (first | (go_at_call 186; refine (HC.out _).mono ?_; rintro e wz ⟨rfl, hz⟩; subst wz) | (go_at_call 157; refine (HW.out _).mono ?_; rintro e w1 ⟨rfl, hb_w1⟩; obtain ⟨c_w1, f_w1⟩ := bcell hb_w1))
      refine bodyPost_ret (v := .tuple #[.agg #[.int .i64 0, .int .i64 0, .int .i64 0, .string ⟨#[]⟩, .bool false, .int .i64 0, .int .i64 0, .int .i64 0, .bool false, .bool false, .string ⟨#[]⟩, .int .i64 0], .int .i64 0, .int .i64 5]) (by simp [results, Tryz.results162, go_sem, *]) rfl ⟨rfl, ?_⟩
      repeat' (first | with_reducible (first | exact Below.refl _ _ | refine Below.setCell ?_ ?_ _ | refine Below.alloc ?_ ?_ _ | refine below_drewN ?_ _ | refine Below.drew ?_ | refine Below.trans ?_ (Below.mono (by assumption) ?_) | exact Nat.le_refl _ | refine Nat.le_trans ?_ (Below.size (by assumption)) | refine zzA ?_ | refine zzB ?_ | refine zzC ?_ | refine zzD ?_) | (simp; done) | (simp; omega) | omega)
    · have g20 : ¬ (20 : Int) < s.size := by omega
      rw [if_neg (by simp; omega)]
      obtain ⟨T, hT⟩ : ∃ T : ByteArray, (⟨(foldL s.data.toList).toArray⟩ : ByteArray) = T := ⟨_, rfl⟩
      rw [hT] at HF
      have HTT := hide hT
      clear hl ha h20 hT
      go_enter Tryz.func162, Tryz.ntmps162
      go_wp2_with (first | (go_at_call 186; refine (HC.out _).mono ?_; rintro e wz ⟨rfl, hz⟩; subst wz) | (go_at_call 187; refine (HF.out _).mono ?_; rintro e w1 ⟨rfl, hb_w1⟩; obtain ⟨c_w1, f_w1⟩ := bcell hb_w1; have z_w1 : w.heap.size < w1.heap.size := by have := hb_w1.size; simp at this; omega))
      refine bodyPost_ret (v := .tuple #[.agg #[.int .i64 3, .int .i64 0, .int .i64 0, .string ⟨#[]⟩, .bool false, .int .i64 0, .int .i64 0, .int .i64 0, .bool false, .bool false, .string T, .int .i64 0], .int .i64 (s.size : Int), .int .i64 0]) (by simp [results, Tryz.results162, go_sem, *]) rfl ⟨by rw [← HTT.out]; rfl, ?_⟩
      repeat' (first | with_reducible (first | exact Below.refl _ _ | refine Below.setCell ?_ ?_ _ | refine Below.alloc ?_ ?_ _ | refine below_drewN ?_ _ | refine Below.drew ?_ | refine Below.trans ?_ (Below.mono (by assumption) ?_) | exact Nat.le_refl _ | refine Nat.le_trans ?_ (Below.size (by assumption)) | refine zzA ?_ | refine zzB ?_ | refine zzC ?_ | refine zzD ?_) | (simp; done) | (simp; omega) | omega)
  · rw [ha] at HC
    have HW : Hid (∀ W : World, Calls Tryz.prog 157 #[.int .i64 5] W fun r w' => r = .returned (.tuple #[.agg #[.int .i64 0, .int .i64 0, .int .i64 0, .string ⟨#[]⟩, .bool false, .int .i64 0, .int .i64 0, .int .i64 0, .bool false, .bool false, .string ⟨#[]⟩, .int .i64 0], .int .i64 0, .int .i64 5]) ∧ Below W.heap.size W w') := fun W => wrong_any 5 W
    rw [if_pos (by simp)]
    clear hl ha
    go_enter Tryz.func162, Tryz.ntmps162
    go_wp2_with (first | (go_at_call 186; refine (HC.out _).mono ?_; rintro e wz ⟨rfl, hz⟩; subst wz) | (go_at_call 157; refine (HW.out _).mono ?_; rintro e w1 ⟨rfl, hb_w1⟩; obtain ⟨c_w1, f_w1⟩ := bcell hb_w1))
    refine bodyPost_ret (v := .tuple #[.agg #[.int .i64 0, .int .i64 0, .int .i64 0, .string ⟨#[]⟩, .bool false, .int .i64 0, .int .i64 0, .int .i64 0, .bool false, .bool false, .string ⟨#[]⟩, .int .i64 0], .int .i64 0, .int .i64 5]) (by simp [results, Tryz.results162, go_sem, *]) rfl ⟨rfl, ?_⟩
    repeat' (first | with_reducible (first | exact Below.refl _ _ | refine Below.setCell ?_ ?_ _ | refine Below.alloc ?_ ?_ _ | refine below_drewN ?_ _ | refine Below.drew ?_ | refine Below.trans ?_ (Below.mono (by assumption) ?_) | exact Nat.le_refl _ | refine Nat.le_trans ?_ (Below.size (by assumption)) | refine zzA ?_ | refine zzB ?_ | refine zzC ?_ | refine zzD ?_) | (simp; done) | (simp; omega) | omega)
theorem lxword_any (s : ByteArray) (w : World) (hs : s.size ≤ maxLen) :
    Calls Tryz.prog 130 #[.string s] w fun e w' => e = .returned (.tuple #[tokV (wordT s.data.toList).1, .int .i64 ((wordT s.data.toList).2.1 : Int), .int .i64 (wordT s.data.toList).2.2]) ∧ Below w.heap.size w w' := by
  have hl := run_le wordB s.data.toList
  have hl' : s.data.toList.length = s.size := by simp
  have HR : Hid (∀ W : World, Calls Tryz.prog 97 #[.string s, .func (.func 161) #[] #[]] W fun e w' => e = .returned (.int .i64 (runN wordB s.data.toList : Int)) ∧ w' = W) := fun W => row_word s W hs
  have HP : Hid (∀ W : World, Calls Tryz.prog 160 #[.string (s.extract (runN wordB s.data.toList) s.size), .string ⟨#[40]⟩] W fun e w' => e = .returned (.bool (Lib.hasPrefix (s.data.toList.drop (runN wordB s.data.toList)) [40])) ∧ w' = W) := fun W => by
    have := Tryz.strings_HasPrefix (s.extract (runN wordB s.data.toList) s.size) ⟨#[40]⟩ W
    rw [str_drop'] at this
    exact this
  have HN : Hid (∀ W : World, Calls Tryz.prog 162 #[.string (s.extract 0 (runN wordB s.data.toList))] W fun e w' => e = .returned (.tuple #[tokV (nameT (s.data.toList.take (runN wordB s.data.toList))).1, .int .i64 ((nameT (s.data.toList.take (runN wordB s.data.toList))).2.1 : Int), .int .i64 (nameT (s.data.toList.take (runN wordB s.data.toList))).2.2]) ∧ Below W.heap.size W w') := fun W => by
    have := lxname_any (s.extract 0 (runN wordB s.data.toList)) W (Nat.le_trans (ext_size _ _ _) hs)
    rw [str_take'] at this
    exact this
  have HT : Hid (∀ W : World, Calls Tryz.prog 163 #[.agg #[.int .i64 2, .int .i64 0, .string (s.extract 0 (runN wordB s.data.toList)), .bool false, .int .i64 0]] W fun e w' => e = .returned (.tuple #[.bool (namedR (s.data.toList.take (runN wordB s.data.toList))).1, .int .i64 (if (namedR (s.data.toList.take (runN wordB s.data.toList))).2 then 0 else 2)]) ∧ Below W.heap.size W w') := fun W => by
    have := truthV_any 2 0 (s.extract 0 (runN wordB s.data.toList)) false 0 W (Nat.le_trans (ext_size _ _ _) hs)
    rw [truth_word, str_take'] at this
    exact this
  have HY : Hid (∀ W : World, Calls Tryz.prog 164 #[.string (s.extract 0 (runN wordB s.data.toList))] W fun e w' => e = .returned (.tuple #[.agg #[.int .i64 (Pla.parseR (s.data.toList.take (runN wordB s.data.toList))).1, .int .i64 (Pla.parseR (s.data.toList.take (runN wordB s.data.toList))).2.1, .bool (Pla.parseR (s.data.toList.take (runN wordB s.data.toList))).2.2.1, .bool (Pla.parseR (s.data.toList.take (runN wordB s.data.toList))).2.2.2.1], .int .i64 (Pla.parseR (s.data.toList.take (runN wordB s.data.toList))).2.2.2.2]) ∧ Below W.heap.size W w') := fun W => by
    have := Pla.parse_any (s.extract 0 (runN wordB s.data.toList)) W (Nat.le_trans (ext_size _ _ _) hs)
    rw [str_take'] at this
    exact this
  unfold maxLen at hs
  unfold wordT plainT
  have hln : (s.data.toList.take (runN wordB s.data.toList)).length = runN wordB s.data.toList := by rw [List.length_take]; omega
  rw [hln]
  cases hp : Lib.hasPrefix (s.data.toList.drop (runN wordB s.data.toList)) [40]
  · rw [hp] at HP
    rw [if_neg (by simp)]
    generalize namedR (s.data.toList.take (runN wordB s.data.toList)) = nr at *
    generalize Pla.parseR (s.data.toList.take (runN wordB s.data.toList)) = pr at *
    clear HN hp hln
    generalize runN wordB s.data.toList = n at *
    obtain ⟨nb, nz⟩ := nr
    obtain ⟨pa, pb, pc, pd, pe⟩ := pr
    have hn : n ≤ s.size := by omega
    clear hl hl'
    simp only at *
    cases nz
    · rw [if_neg (by simp)]
      simp only [if_false, Bool.false_eq_true] at HT
      by_cases h0 : pe = 0
      · subst h0
        rw [if_pos rfl]
        go_enter Tryz.func130, Tryz.ntmps130
        go_wp2_with (first | (go_at_call 97; refine (HR.out _).mono ?_; rintro e wz ⟨rfl, hz⟩; subst wz) | (go_at_call 160; refine (HP.out _).mono ?_; rintro e wz ⟨rfl, hz⟩; subst wz) | (go_at_call 163; refine (HT.out _).mono ?_; rintro e w1 ⟨rfl, hb_w1⟩; obtain ⟨c_w1, f_w1⟩ := bcell hb_w1; have z_w1 : w.heap.size < w1.heap.size := by have := hb_w1.size; simp at this; omega) | (go_at_call 164; refine (HY.out _).mono ?_; rintro e w2 ⟨rfl, hb_w2⟩; obtain ⟨c_w2, f_w2⟩ := bcell hb_w2; have z_w2 : w.heap.size < w2.heap.size := by have := hb_w2.size; omega))
        refine bodyPost_ret (v := .tuple #[.agg #[.int .i64 2, .int .i64 0, .int .i64 0, .string ⟨#[]⟩, .bool false, .int .i64 0, .int .i64 pa, .int .i64 pb, .bool pc, .bool pd, .string ⟨#[]⟩, .int .i64 0], .int .i64 (n : Int), .int .i64 0]) (by simp [results, Tryz.results130, go_sem, *]) rfl ⟨rfl, ?_⟩
        repeat' (first | with_reducible (first | exact Below.refl _ _ | refine Below.setCell ?_ ?_ _ | refine Below.alloc ?_ ?_ _ | refine below_drewN ?_ _ | refine Below.drew ?_ | refine Below.trans ?_ (Below.mono (by assumption) ?_) | exact Nat.le_refl _ | refine Nat.le_trans ?_ (Below.size (by assumption)) | refine zzA ?_ | refine zzB ?_ | refine zzC ?_ | refine zzD ?_) | (simp; done) | (simp; omega) | omega)
      · rw [if_neg h0]
        have e0 : (pe == 0) = false := by simpa using h0
        have HW : Hid (∀ W : World, Calls Tryz.prog 157 #[.int .i64 pe] W fun r w' => r = .returned (.tuple #[.agg #[.int .i64 0, .int .i64 0, .int .i64 0, .string ⟨#[]⟩, .bool false, .int .i64 0, .int .i64 0, .int .i64 0, .bool false, .bool false, .string ⟨#[]⟩, .int .i64 0], .int .i64 0, .int .i64 pe]) ∧ Below W.heap.size W w') := fun W => wrong_any pe W
        clear h0
        go_enter Tryz.func130, Tryz.ntmps130
        go_wp2_with (first | (go_at_call 97; refine (HR.out _).mono ?_; rintro e wz ⟨rfl, hz⟩; subst wz) | (go_at_call 160; refine (HP.out _).mono ?_; rintro e wz ⟨rfl, hz⟩; subst wz) | (go_at_call 163; refine (HT.out _).mono ?_; rintro e w1 ⟨rfl, hb_w1⟩; obtain ⟨c_w1, f_w1⟩ := bcell hb_w1; have z_w1 : w.heap.size < w1.heap.size := by have := hb_w1.size; simp at this; omega) | (go_at_call 164; refine (HY.out _).mono ?_; rintro e w2 ⟨rfl, hb_w2⟩; obtain ⟨c_w2, f_w2⟩ := bcell hb_w2; have z_w2 : w.heap.size < w2.heap.size := by have := hb_w2.size; omega) | (go_at_call 157; refine (HW.out _).mono ?_; rintro e w3 ⟨rfl, hb_w3⟩; obtain ⟨c_w3, f_w3⟩ := bcell hb_w3))
        obtain ⟨c_e, f_e⟩ := bcelln ((hb_w1.trans (hb_w2.mono (by simp; omega))).trans ((((Below.refl _ _).alloc (Nat.le_refl _) _).trans (hb_w3.mono (by simp))).mono (by simp; omega)))
        clear c_w1 f_w1 c_w2 f_w2 c_w3 f_w3
        refine bodyPost_ret (v := .tuple #[.agg #[.int .i64 0, .int .i64 0, .int .i64 0, .string ⟨#[]⟩, .bool false, .int .i64 0, .int .i64 0, .int .i64 0, .bool false, .bool false, .string ⟨#[]⟩, .int .i64 0], .int .i64 0, .int .i64 pe]) (by simp [results, Tryz.results130, go_sem, *]) rfl ⟨rfl, ?_⟩
        repeat' (first | with_reducible (first | exact Below.refl _ _ | refine Below.setCell ?_ ?_ _ | refine Below.alloc ?_ ?_ _ | refine below_drewN ?_ _ | refine Below.drew ?_ | refine Below.trans ?_ (Below.mono (by assumption) ?_) | exact Nat.le_refl _ | refine Nat.le_trans ?_ (Below.size (by assumption)) | refine zzA ?_ | refine zzB ?_ | refine zzC ?_ | refine zzD ?_) | (simp; done) | (simp; omega) | omega)
    · rw [if_pos rfl]
      simp only [if_true] at HT
      have HV : Hid (∀ W : World, Calls Tryz.prog 158 #[.agg #[.int .i64 3, .int .i64 0, .string ⟨#[]⟩, .bool nb, .int .i64 0], .int .i64 (n : Int)] W fun r w' => r = .returned (.tuple #[.agg #[.int .i64 1, .int .i64 3, .int .i64 0, .string ⟨#[]⟩, .bool nb, .int .i64 0, .int .i64 0, .int .i64 0, .bool false, .bool false, .string ⟨#[]⟩, .int .i64 0], .int .i64 (n : Int), .int .i64 0]) ∧ Below W.heap.size W w') := fun W => valued_any 3 0 ⟨#[]⟩ nb 0 n W
      go_enter Tryz.func130, Tryz.ntmps130
      go_wp2_with (first | (go_at_call 97; refine (HR.out _).mono ?_; rintro e wz ⟨rfl, hz⟩; subst wz) | (go_at_call 160; refine (HP.out _).mono ?_; rintro e wz ⟨rfl, hz⟩; subst wz) | (go_at_call 163; refine (HT.out _).mono ?_; rintro e w1 ⟨rfl, hb_w1⟩; obtain ⟨c_w1, f_w1⟩ := bcell hb_w1; have z_w1 : w.heap.size < w1.heap.size := by have := hb_w1.size; simp at this; omega) | (go_at_call 158; refine (HV.out _).mono ?_; rintro e w2 ⟨rfl, hb_w2⟩; obtain ⟨c_w2, f_w2⟩ := bcell hb_w2))
      refine bodyPost_ret (v := .tuple #[.agg #[.int .i64 1, .int .i64 3, .int .i64 0, .string ⟨#[]⟩, .bool nb, .int .i64 0, .int .i64 0, .int .i64 0, .bool false, .bool false, .string ⟨#[]⟩, .int .i64 0], .int .i64 (n : Int), .int .i64 0]) (by simp [results, Tryz.results130, go_sem, *]) rfl ⟨rfl, ?_⟩
      repeat' (first | with_reducible (first | exact Below.refl _ _ | refine Below.setCell ?_ ?_ _ | refine Below.alloc ?_ ?_ _ | refine below_drewN ?_ _ | refine Below.drew ?_ | refine Below.trans ?_ (Below.mono (by assumption) ?_) | exact Nat.le_refl _ | refine Nat.le_trans ?_ (Below.size (by assumption)) | refine zzA ?_ | refine zzB ?_ | refine zzC ?_ | refine zzD ?_) | (simp; done) | (simp; omega) | omega)
  · rw [hp] at HP
    rw [if_pos rfl]
    generalize nameT (s.data.toList.take (runN wordB s.data.toList)) = q at *
    clear HT HY hp hln
    generalize runN wordB s.data.toList = n at *
    have hn : n ≤ s.size := by omega
    clear hl hl'
    obtain ⟨⟨t0, t1, t2, t3, t4, t5, t6, t7, t8, t9, t10, t11⟩, tm, te⟩ := q
    obtain ⟨T3, hT3⟩ : ∃ T : ByteArray, (⟨t3.toArray⟩ : ByteArray) = T := ⟨_, rfl⟩
    obtain ⟨T10, hT10⟩ : ∃ T : ByteArray, (⟨t10.toArray⟩ : ByteArray) = T := ⟨_, rfl⟩
    have HN' : Hid (∀ W : World, Calls Tryz.prog 162 #[.string (s.extract 0 n)] W fun e w' => e = .returned (.tuple #[.agg #[.int .i64 t0, .int .i64 t1, .int .i64 t2, .string T3, .bool t4, .int .i64 t5, .int .i64 t6, .int .i64 t7, .bool t8, .bool t9, .string T10, .int .i64 t11], .int .i64 (tm : Int), .int .i64 te]) ∧ Below W.heap.size W w') := by
      rw [← hT3, ← hT10]
      exact HN.out
    have HT3 := hide hT3
    have HT10 := hide hT10
    clear HN hT3 hT10
    go_enter Tryz.func130, Tryz.ntmps130
    go_wp2_with (first | (go_at_call 97; refine (HR.out _).mono ?_; rintro e wz ⟨rfl, hz⟩; subst wz) | (go_at_call 160; refine (HP.out _).mono ?_; rintro e wz ⟨rfl, hz⟩; subst wz) | (go_at_call 162; refine (HN'.out _).mono ?_; rintro e w1 ⟨rfl, hb_w1⟩; obtain ⟨c_w1, f_w1⟩ := bcell hb_w1; have z_w1 : w.heap.size < w1.heap.size := by have := hb_w1.size; simp at this; omega))
    refine bodyPost_ret (v := .tuple #[.agg #[.int .i64 t0, .int .i64 t1, .int .i64 t2, .string T3, .bool t4, .int .i64 t5, .int .i64 t6, .int .i64 t7, .bool t8, .bool t9, .string T10, .int .i64 t11], .int .i64 (tm : Int), .int .i64 te]) (by simp [results, Tryz.results130, go_sem, *]) rfl ⟨by rw [← HT3.out, ← HT10.out]; rfl, ?_⟩
    repeat' (first | with_reducible (first | exact Below.refl _ _ | refine Below.setCell ?_ ?_ _ | refine Below.alloc ?_ ?_ _ | refine below_drewN ?_ _ | refine Below.drew ?_ | refine Below.trans ?_ (Below.mono (by assumption) ?_) | exact Nat.le_refl _ | refine Nat.le_trans ?_ (Below.size (by assumption)) | refine zzA ?_ | refine zzB ?_ | refine zzC ?_ | refine zzD ?_) | (simp; done) | (simp; omega) | omega)
end Go.Proofs.YtiaoaifoecmemaaGreatDoor
