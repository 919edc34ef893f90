/-
  The contract of crit's Key.
-/
import Derived.Test.YtpghgjibpbimeaaGreatDoorCk2
namespace Go.Proofs.YtpghgjibpbimeaaGreatDoor
open Go.RowKit
set_option linter.unusedSimpArgs false
set_option linter.unusedVariables false

theorem text_len {n : Int} (h : fitsB n = true) : (textOf n).length ≤ 40 := by
  have p := parse_print h
  by_cases hl : 40 < (textOf n).length
  · unfold parseR at p
    rw [if_pos hl] at p
    have := congrArg Prod.snd p
    simp at this
  · omega
theorem show_len {k n : Int} {s : ByteArray} {b : Bool} {c : Int} (h : rightB k n s b c = true) : (showV k n s b c).1.length ≤ 1000 := by
  unfold showV wordsV
  rw [h]
  rcases right_cases h with ⟨rfl, rfl, rfl, rfl, rfl⟩ | ⟨rfl, hf, rfl, rfl, rfl⟩ | ⟨rfl, rfl, hs, rfl, rfl⟩ | ⟨rfl, rfl, rfl, rfl⟩ | ⟨rfl, rfl, rfl, rfl, hc⟩
  · simp
  · have := text_len hf
    simp
    omega
  · have : s.data.toList.length = s.size := Array.length_toList
    simp at *
    omega
  · cases b <;> simp
  · have a : c = 1 ∨ c = 2 ∨ c = 3 ∨ c = 4 ∨ c = 5 ∨ c = 6 ∨ c = 7 := by omega
    rcases a with rfl | rfl | rfl | rfl | rfl | rfl | rfl <;> decide
theorem tame_len (s : ByteArray) : (tameT s).length ≤ s.size := by
  unfold tameT ownsR
  rw [List.length_map]
  have h1 := steps_len _ (foldL s.data.toList) (Nat.le_refl _)
  rw [foldL_len, show s.data.toList.length = s.size from Array.length_toList] at h1
  exact h1
theorem right_text {n : Int} {s : ByteArray} {b : Bool} {c : Int} (h : rightB 2 n s b c = true) : n = 0 ∧ b = false ∧ c = 0 := by
  rcases right_cases h with ⟨h, _⟩ | ⟨h, _⟩ | ⟨_, h1, _, h2, h3⟩ | ⟨h, _⟩ | ⟨h, _⟩
  · exact absurd h (by decide)
  · exact absurd h (by decide)
  · exact ⟨h1, h2, h3⟩
  · exact absurd h (by decide)
  · exact absurd h (by decide)
theorem show_text {T : List UInt8} (h : T.length ≤ 255) : showV 2 0 ⟨T.toArray⟩ false 0 = (T, 0) := by
  have hz : (⟨T.toArray⟩ : ByteArray).size ≤ 255 := by show T.toArray.size ≤ _; simpa using h
  have hr : rightB 2 0 ⟨T.toArray⟩ false 0 = true := by unfold rightB; simp [hz]
  unfold showV wordsV
  rw [hr]
  simp
theorem itoa_any (n : Int) (h0 : 0 ≤ n) (h1 : n ≤ 1000) (w : World) (ht : TabOk w) : Calls Tryz.prog 14 #[.int .i64 n] w fun e w' => e = .returned (.string ⟨(Lib.itoa n).toArray⟩) ∧ Below w.heap.size w w' :=
  (Tryz.strconv_Itoa n (by omega) (by omega) w ht).mono fun e w' ⟨h, k, os, e2⟩ => ⟨h, by rw [e2]; exact Go.Lib.below_grow w.heap.size w (Nat.le_refl _) k os⟩
theorem kba_app (a b : List UInt8) : (⟨a.toArray⟩ : ByteArray) ++ ⟨b.toArray⟩ = ⟨(a ++ b).toArray⟩ := by
  apply ByteArray.ext
  simp
set_option maxRecDepth 100000 in
set_option maxHeartbeats 4000000 in
theorem Key_any (g : ByteArray) (k n : Int) (s : ByteArray) (b : Bool) (c : Int) (w : World) (h1 : CSignsOk w) (h2 : TabOk w) (h3 : NamesOk w) (hz : s.size ≤ maxLen) :
    Calls Tryz.prog 4 #[.agg #[.string g, .int .i64 k, .int .i64 n, .string s, .bool b, .int .i64 c]] w fun e w' => e = .returned (.tuple #[.string ⟨(if keyedR g k n s b c then keyT k n s b c else []).toArray⟩, .bool (keyedR g k n s b c)]) ∧ Below w.heap.size w w' := by
  have HC : Hid (∀ W : World, Below w.heap.size w W → Calls Tryz.prog 8 #[.agg #[.string g, .int .i64 k, .int .i64 n, .string s, .bool b, .int .i64 c]] W fun e w' => e = .returned (.int .i64 (ccheckR g k n s b c)) ∧ Below W.heap.size W w') := fun W hW => ccheck_any g k n s b c W (csigns_below h1 hW) hz
  have hmf : ∀ (fn : Fn) (first cap : Array Value) (w : World), (Instr.makeFunc fn first cap).run Tryz.prog w = .ok (.func fn first cap) w := fun _ _ _ _ => rfl
  have hq : g.toList = g.data.toList := by rw [ByteArray.toList_eq]
  unfold keyedR
  unfold ccheckR at HC
  cases er : rightC g k n s b c
  · rw [er] at HC
    simp only [Bool.false_eq_true, if_false, Bool.false_and] at HC ⊢
    clear er hz h1 h2 h3 hmf hq
    go_enter Tryz.func4, Tryz.ntmps4
    go_wp2_with (first | (go_at_call 8; refine (HC.out _ (by repeat' (first | with_reducible exact Below.refl _ _ | with_reducible refine Below.setCell ?_ ?_ _ | with_reducible refine Below.alloc ?_ ?_ _ | with_reducible refine below_drewN ?_ _ | with_reducible refine Below.drew ?_ | with_reducible refine Below.trans ?_ (Below.mono (by assumption) ?_) | with_reducible exact Nat.le_refl _ | with_reducible refine Nat.le_trans ?_ (Below.size (by assumption)) | with_reducible refine Nat.le_trans ?_ (size_alloc _ _) | with_reducible refine Nat.le_trans ?_ (size_set _ _ _) | with_reducible refine Nat.le_trans ?_ (size_drewN _ _) | with_reducible refine Nat.le_trans ?_ (size_drew _) | (simp; done) | (simp; omega) | omega))).mono ?_; rintro e w1 ⟨rfl, hb_w1⟩; obtain ⟨c_w1, f_w1⟩ := bcell hb_w1; have z_w1 := hb_w1.size; (try simp at z_w1); have y_w1 : w.heap.size < w1.heap.size := (by omega)))
    refine bodyPost_ret (v := .tuple #[.string ⟨#[]⟩, .bool false]) (by simp [results, Tryz.results4, go_sem, *]) rfl ⟨rfl, ?_⟩
    repeat' (first | with_reducible exact Below.refl _ _ | with_reducible refine Below.setCell ?_ ?_ _ | with_reducible refine Below.alloc ?_ ?_ _ | with_reducible refine below_drewN ?_ _ | with_reducible refine Below.drew ?_ | with_reducible refine Below.trans ?_ (Below.mono (by assumption) ?_) | with_reducible exact Nat.le_refl _ | with_reducible refine Nat.le_trans ?_ (Below.size (by assumption)) | with_reducible refine Nat.le_trans ?_ (size_alloc _ _) | with_reducible refine Nat.le_trans ?_ (size_set _ _ _) | with_reducible refine Nat.le_trans ?_ (size_drewN _ _) | with_reducible refine Nat.le_trans ?_ (size_drew _) | (simp; done) | (simp; omega) | omega)
  rw [er] at HC
  simp only [if_true, Bool.true_and] at HC ⊢
  have er2 : rightB k n s b c = true := by unfold rightC at er; exact (Bool.and_eq_true_iff.1 er).2
  by_cases e1 : g.data.toList = [61]
  · obtain rfl : g = ⟨#[61]⟩ := by rw [← ba_eta g, e1]
    rw [decide_eq_true e1, Bool.true_and]
    have HI : Hid (∀ W : World, Below w.heap.size w W → Calls Tryz.prog 14 #[.int .i64 k] W fun e w' => e = .returned (.string ⟨(Lib.itoa k).toArray⟩) ∧ Below W.heap.size W w') := fun W hW => itoa_any k (by have := right_kind er2; omega) (by have := right_kind er2; omega) W (tab_below h2 hW)
    have li : (Lib.itoa k).length = 1 := by rw [itoa_kind (right_kind er2)]; rfl
    have sl : ∀ l : List UInt8, (⟨l.toArray⟩ : ByteArray).size = l.length := fun l => by show l.toArray.size = _; simp
    have si := sl (Lib.itoa k)
    rw [li] at si
    by_cases hk : k = 2
    · subst hk
      obtain ⟨rfl, rfl, rfl⟩ := right_text er2
      have z1 := right_size er2
      have HS : Hid (∀ W : World, Calls Tryz.prog 9 #[.string s] W fun e w' => ∃ g cap, e = .returned (.slice (some ⟨g, 0, none⟩) (stepsR (foldL s.data.toList)).length cap) ∧ StAt w' g 0 (stepsR (foldL s.data.toList)) ∧ g < w'.heap.size ∧ Below W.heap.size W w') := fun W => (csteps_any s W (by omega)).mono fun e w' ⟨v, he, hr⟩ => by
        obtain ⟨g, rfl, h1, h2, _, _, _, h3⟩ := strow_at hr
        exact ⟨g, _, he, h1, h2, h3⟩
      have hb := steps_bound s (by omega)
      have tl := tame_len s
      have hb2 : (stepsR (foldL s.data.toList)).length ≤ 1000 := by unfold tameT ownsR at tl; rw [List.length_map] at tl; omega
      have HW : Hid (∀ (g cap : Nat) (W : World), StAt W g 0 (stepsR (foldL s.data.toList)) → g < W.heap.size → Calls Tryz.prog 10 #[.slice (some ⟨g, 0, none⟩) (stepsR (foldL s.data.toList)).length cap, .func (.func 11) #[] #[]] W fun e w' => e = .returned (.bool (wildL s.data.toList)) ∧ Below W.heap.size W w') := fun g cap W h1 h2 => contains_wild g cap _ W h1 h2 hb
      have HT : Hid (∀ (g cap : Nat) (W : World), StAt W g 0 (stepsR (foldL s.data.toList)) → g < W.heap.size → Calls Tryz.prog 12 #[.slice (some ⟨g, 0, none⟩) (stepsR (foldL s.data.toList)).length cap] W fun e w' => e = .returned (.string ⟨(tameT s).toArray⟩) ∧ Below W.heap.size W w') := fun g cap W h1 h2 => written_any g cap _ W h1 h2 hb2
      have HO : Hid (∀ W : World, Below w.heap.size w W → Calls Tryz.prog 13 #[.agg #[.int .i64 2, .int .i64 0, .string ⟨(tameT s).toArray⟩, .bool false, .int .i64 0]] W fun e w' => e = .returned (.tuple #[.string ⟨(tameT s).toArray⟩, .int .i64 0]) ∧ Below W.heap.size W w') := fun W hW => by
        have := showV_any 2 0 ⟨(tameT s).toArray⟩ false 0 W (tab_below h2 hW) (names_below h3 hW) (by rw [sl]; unfold maxLen; omega)
        rwa [show_text (by omega)] at this
      have st := sl (tameT s)
      have HE : Hid ((⟨(Lib.itoa 2).toArray⟩ : ByteArray) ++ ⟨(tameT s).toArray⟩ = ⟨(keyT 2 0 s false 0).toArray⟩) := kba_app _ _
      generalize stepsR (foldL s.data.toList) = L at *
      have hkv : keyedV 2 s = !wildL s.data.toList := by unfold keyedV; simp
      rw [hkv]
      cases hw : wildL s.data.toList
      · rw [hw] at HW
        simp only [Bool.not_false, if_true]
        clear er er2 e1 hz h1 h2 h3 hw hq sl li
        have tb : (tameT s).length ≤ 255 := by omega
        generalize tameT s = T at *
        go_enter Tryz.func4, Tryz.ntmps4
        go_wp2_with (first | (go_at_call 8; refine (HC.out _ (by repeat' (first | with_reducible exact Below.refl _ _ | with_reducible refine Below.setCell ?_ ?_ _ | with_reducible refine Below.alloc ?_ ?_ _ | with_reducible refine below_drewN ?_ _ | with_reducible refine Below.drew ?_ | with_reducible refine Below.trans ?_ (Below.mono (by assumption) ?_) | with_reducible exact Nat.le_refl _ | with_reducible refine Nat.le_trans ?_ (Below.size (by assumption)) | with_reducible refine Nat.le_trans ?_ (size_alloc _ _) | with_reducible refine Nat.le_trans ?_ (size_set _ _ _) | with_reducible refine Nat.le_trans ?_ (size_drewN _ _) | with_reducible refine Nat.le_trans ?_ (size_drew _) | (simp; done) | (simp; omega) | omega))).mono ?_; rintro e w1 ⟨rfl, hb_w1⟩; obtain ⟨c_w1, f_w1⟩ := bcell hb_w1; have z_w1 := hb_w1.size; (try simp at z_w1); have y_w1 : w.heap.size < w1.heap.size := (by omega)) | (go_at_call 9; refine (HS.out _).mono ?_; rintro e w2 ⟨g2, cap2, rfl, st2, lt2, hb_w2⟩; have HX2 := hide st2; have HG2 := hide lt2; clear st2; obtain ⟨c_w2, f_w2⟩ := bcell hb_w2; have z_w2 := hb_w2.size; (try simp at z_w2); have y_w2 : w.heap.size < w2.heap.size := (by omega); have u_w2 : w1.heap.size < w2.heap.size := (by omega)) | (go_at_call 10; refine (HW.out _ _ _ HX2.out HG2.out).mono ?_; rintro e w3 ⟨rfl, hb_w3⟩; have HX3 := hide (HX2.out.below HG2.out hb_w3); have HG3 := hide (Nat.lt_of_lt_of_le HG2.out hb_w3.size); obtain ⟨c_w3, f_w3⟩ := bcell hb_w3; have z_w3 := hb_w3.size; (try simp at z_w3); have y_w3 : w.heap.size < w3.heap.size := (by omega); have u_w3 : w1.heap.size < w3.heap.size := (by omega)) | (go_at_call 12; refine (HT.out _ _ _ HX3.out HG3.out).mono ?_; rintro e w4 ⟨rfl, hb_w4⟩; obtain ⟨c_w4, f_w4⟩ := bcell hb_w4; have z_w4 := hb_w4.size; (try simp at z_w4); have y_w4 : w.heap.size < w4.heap.size := (by omega); have u_w4 : w1.heap.size < w4.heap.size := (by omega)) | (go_at_call 13; refine (HO.out _ (by repeat' (first | with_reducible exact Below.refl _ _ | with_reducible refine Below.setCell ?_ ?_ _ | with_reducible refine Below.alloc ?_ ?_ _ | with_reducible refine below_drewN ?_ _ | with_reducible refine Below.drew ?_ | with_reducible refine Below.trans ?_ (Below.mono (by assumption) ?_) | with_reducible exact Nat.le_refl _ | with_reducible refine Nat.le_trans ?_ (Below.size (by assumption)) | with_reducible refine Nat.le_trans ?_ (size_alloc _ _) | with_reducible refine Nat.le_trans ?_ (size_set _ _ _) | with_reducible refine Nat.le_trans ?_ (size_drewN _ _) | with_reducible refine Nat.le_trans ?_ (size_drew _) | (simp; done) | (simp; omega) | omega))).mono ?_; rintro e w5 ⟨rfl, hb_w5⟩; obtain ⟨c_w5, f_w5⟩ := bcell hb_w5; have z_w5 := hb_w5.size; (try simp at z_w5); have y_w5 : w.heap.size < w5.heap.size := (by omega); have u_w5 : w1.heap.size < w5.heap.size := (by omega)) | (go_at_call 14; refine (HI.out _ (by repeat' (first | with_reducible exact Below.refl _ _ | with_reducible refine Below.setCell ?_ ?_ _ | with_reducible refine Below.alloc ?_ ?_ _ | with_reducible refine below_drewN ?_ _ | with_reducible refine Below.drew ?_ | with_reducible refine Below.trans ?_ (Below.mono (by assumption) ?_) | with_reducible exact Nat.le_refl _ | with_reducible refine Nat.le_trans ?_ (Below.size (by assumption)) | with_reducible refine Nat.le_trans ?_ (size_alloc _ _) | with_reducible refine Nat.le_trans ?_ (size_set _ _ _) | with_reducible refine Nat.le_trans ?_ (size_drewN _ _) | with_reducible refine Nat.le_trans ?_ (size_drew _) | (simp; done) | (simp; omega) | omega))).mono ?_; rintro e w6 ⟨rfl, hb_w6⟩; obtain ⟨c_w6, f_w6⟩ := bcell hb_w6; have z_w6 := hb_w6.size; (try simp at z_w6); have y_w6 : w.heap.size < w6.heap.size := (by omega); have u_w6 : w1.heap.size < w6.heap.size := (by omega)))
        refine bodyPost_ret (v := .tuple #[.string (⟨(Lib.itoa 2).toArray⟩ ++ ⟨T.toArray⟩), .bool true]) (by simp [results, Tryz.results4, go_sem, *]) rfl ⟨by rw [HE.out], ?_⟩
        repeat' (first | with_reducible exact Below.refl _ _ | with_reducible refine Below.setCell ?_ ?_ _ | with_reducible refine Below.alloc ?_ ?_ _ | with_reducible refine below_drewN ?_ _ | with_reducible refine Below.drew ?_ | with_reducible refine Below.trans ?_ (Below.mono (by assumption) ?_) | with_reducible exact Nat.le_refl _ | with_reducible refine Nat.le_trans ?_ (Below.size (by assumption)) | with_reducible refine Nat.le_trans ?_ (size_alloc _ _) | with_reducible refine Nat.le_trans ?_ (size_set _ _ _) | with_reducible refine Nat.le_trans ?_ (size_drewN _ _) | with_reducible refine Nat.le_trans ?_ (size_drew _) | (simp; done) | (simp; omega) | omega)
      · rw [hw] at HW
        simp only [Bool.not_true, Bool.false_eq_true, if_false]
        clear er er2 e1 hz h1 h2 h3 hw hq sl li
        go_enter Tryz.func4, Tryz.ntmps4
        go_wp2_with (first | (go_at_call 8; refine (HC.out _ (by repeat' (first | with_reducible exact Below.refl _ _ | with_reducible refine Below.setCell ?_ ?_ _ | with_reducible refine Below.alloc ?_ ?_ _ | with_reducible refine below_drewN ?_ _ | with_reducible refine Below.drew ?_ | with_reducible refine Below.trans ?_ (Below.mono (by assumption) ?_) | with_reducible exact Nat.le_refl _ | with_reducible refine Nat.le_trans ?_ (Below.size (by assumption)) | with_reducible refine Nat.le_trans ?_ (size_alloc _ _) | with_reducible refine Nat.le_trans ?_ (size_set _ _ _) | with_reducible refine Nat.le_trans ?_ (size_drewN _ _) | with_reducible refine Nat.le_trans ?_ (size_drew _) | (simp; done) | (simp; omega) | omega))).mono ?_; rintro e w1 ⟨rfl, hb_w1⟩; obtain ⟨c_w1, f_w1⟩ := bcell hb_w1; have z_w1 := hb_w1.size; (try simp at z_w1); have y_w1 : w.heap.size < w1.heap.size := (by omega)) | (go_at_call 9; refine (HS.out _).mono ?_; rintro e w2 ⟨g2, cap2, rfl, st2, lt2, hb_w2⟩; have HX2 := hide st2; have HG2 := hide lt2; clear st2; obtain ⟨c_w2, f_w2⟩ := bcell hb_w2; have z_w2 := hb_w2.size; (try simp at z_w2); have y_w2 : w.heap.size < w2.heap.size := (by omega); have u_w2 : w1.heap.size < w2.heap.size := (by omega)) | (go_at_call 10; refine (HW.out _ _ _ HX2.out HG2.out).mono ?_; rintro e w3 ⟨rfl, hb_w3⟩; have HX3 := hide (HX2.out.below HG2.out hb_w3); have HG3 := hide (Nat.lt_of_lt_of_le HG2.out hb_w3.size); obtain ⟨c_w3, f_w3⟩ := bcell hb_w3; have z_w3 := hb_w3.size; (try simp at z_w3); have y_w3 : w.heap.size < w3.heap.size := (by omega); have u_w3 : w1.heap.size < w3.heap.size := (by omega)))
        refine bodyPost_ret (v := .tuple #[.string ⟨#[]⟩, .bool false]) (by simp [results, Tryz.results4, go_sem, *]) rfl ⟨rfl, ?_⟩
        repeat' (first | with_reducible exact Below.refl _ _ | with_reducible refine Below.setCell ?_ ?_ _ | with_reducible refine Below.alloc ?_ ?_ _ | with_reducible refine below_drewN ?_ _ | with_reducible refine Below.drew ?_ | with_reducible refine Below.trans ?_ (Below.mono (by assumption) ?_) | with_reducible exact Nat.le_refl _ | with_reducible refine Nat.le_trans ?_ (Below.size (by assumption)) | with_reducible refine Nat.le_trans ?_ (size_alloc _ _) | with_reducible refine Nat.le_trans ?_ (size_set _ _ _) | with_reducible refine Nat.le_trans ?_ (size_drewN _ _) | with_reducible refine Nat.le_trans ?_ (size_drew _) | (simp; done) | (simp; omega) | omega)
    · have hkv : keyedV k s = true := by unfold keyedV; simp [hk]
      rw [hkv]
      simp only [if_true]
      have t1 : (k == 2) = false := by simp [hk]
      have HO : Hid (∀ W : World, Below w.heap.size w W → Calls Tryz.prog 13 #[.agg #[.int .i64 k, .int .i64 n, .string s, .bool b, .int .i64 c]] W fun e w' => e = .returned (.tuple #[.string ⟨(showV k n s b c).1.toArray⟩, .int .i64 (showV k n s b c).2]) ∧ Below W.heap.size W w') := fun W hW => showV_any k n s b c W (tab_below h2 hW) (names_below h3 hW) hz
      have HE : Hid ((⟨(Lib.itoa k).toArray⟩ : ByteArray) ++ ⟨(showV k n s b c).1.toArray⟩ = ⟨(keyT k n s b c).toArray⟩) := by
        show _ = _
        rw [kba_app]; unfold keyT; rw [if_neg hk]
      have tb := show_len er2
      have st := sl (showV k n s b c).1
      generalize (showV k n s b c).1 = T at *
      generalize (showV k n s b c).2 = E at *
      generalize (⟨(keyT k n s b c).toArray⟩ : ByteArray) = KT at *
      clear er er2 e1 hz h1 h2 h3 hq sl li hk hkv
      go_enter Tryz.func4, Tryz.ntmps4
      go_wp2_with (first | (go_at_call 8; refine (HC.out _ (by repeat' (first | with_reducible exact Below.refl _ _ | with_reducible refine Below.setCell ?_ ?_ _ | with_reducible refine Below.alloc ?_ ?_ _ | with_reducible refine below_drewN ?_ _ | with_reducible refine Below.drew ?_ | with_reducible refine Below.trans ?_ (Below.mono (by assumption) ?_) | with_reducible exact Nat.le_refl _ | with_reducible refine Nat.le_trans ?_ (Below.size (by assumption)) | with_reducible refine Nat.le_trans ?_ (size_alloc _ _) | with_reducible refine Nat.le_trans ?_ (size_set _ _ _) | with_reducible refine Nat.le_trans ?_ (size_drewN _ _) | with_reducible refine Nat.le_trans ?_ (size_drew _) | (simp; done) | (simp; omega) | omega))).mono ?_; rintro e w1 ⟨rfl, hb_w1⟩; obtain ⟨c_w1, f_w1⟩ := bcell hb_w1; have z_w1 := hb_w1.size; (try simp at z_w1); have y_w1 : w.heap.size < w1.heap.size := (by omega)) | (go_at_call 13; refine (HO.out _ (by repeat' (first | with_reducible exact Below.refl _ _ | with_reducible refine Below.setCell ?_ ?_ _ | with_reducible refine Below.alloc ?_ ?_ _ | with_reducible refine below_drewN ?_ _ | with_reducible refine Below.drew ?_ | with_reducible refine Below.trans ?_ (Below.mono (by assumption) ?_) | with_reducible exact Nat.le_refl _ | with_reducible refine Nat.le_trans ?_ (Below.size (by assumption)) | with_reducible refine Nat.le_trans ?_ (size_alloc _ _) | with_reducible refine Nat.le_trans ?_ (size_set _ _ _) | with_reducible refine Nat.le_trans ?_ (size_drewN _ _) | with_reducible refine Nat.le_trans ?_ (size_drew _) | (simp; done) | (simp; omega) | omega))).mono ?_; rintro e w5 ⟨rfl, hb_w5⟩; obtain ⟨c_w5, f_w5⟩ := bcell hb_w5; have z_w5 := hb_w5.size; (try simp at z_w5); have y_w5 : w.heap.size < w5.heap.size := (by omega); have u_w5 : w1.heap.size < w5.heap.size := (by omega)) | (go_at_call 14; refine (HI.out _ (by repeat' (first | with_reducible exact Below.refl _ _ | with_reducible refine Below.setCell ?_ ?_ _ | with_reducible refine Below.alloc ?_ ?_ _ | with_reducible refine below_drewN ?_ _ | with_reducible refine Below.drew ?_ | with_reducible refine Below.trans ?_ (Below.mono (by assumption) ?_) | with_reducible exact Nat.le_refl _ | with_reducible refine Nat.le_trans ?_ (Below.size (by assumption)) | with_reducible refine Nat.le_trans ?_ (size_alloc _ _) | with_reducible refine Nat.le_trans ?_ (size_set _ _ _) | with_reducible refine Nat.le_trans ?_ (size_drewN _ _) | with_reducible refine Nat.le_trans ?_ (size_drew _) | (simp; done) | (simp; omega) | omega))).mono ?_; rintro e w6 ⟨rfl, hb_w6⟩; obtain ⟨c_w6, f_w6⟩ := bcell hb_w6; have z_w6 := hb_w6.size; (try simp at z_w6); have y_w6 : w.heap.size < w6.heap.size := (by omega); have u_w6 : w1.heap.size < w6.heap.size := (by omega)))
      refine bodyPost_ret (v := .tuple #[.string (⟨(Lib.itoa k).toArray⟩ ++ ⟨T.toArray⟩), .bool true]) (by simp [results, Tryz.results4, go_sem, *]) rfl ⟨by rw [HE.out], ?_⟩
      repeat' (first | with_reducible exact Below.refl _ _ | with_reducible refine Below.setCell ?_ ?_ _ | with_reducible refine Below.alloc ?_ ?_ _ | with_reducible refine below_drewN ?_ _ | with_reducible refine Below.drew ?_ | with_reducible refine Below.trans ?_ (Below.mono (by assumption) ?_) | with_reducible exact Nat.le_refl _ | with_reducible refine Nat.le_trans ?_ (Below.size (by assumption)) | with_reducible refine Nat.le_trans ?_ (size_alloc _ _) | with_reducible refine Nat.le_trans ?_ (size_set _ _ _) | with_reducible refine Nat.le_trans ?_ (size_drewN _ _) | with_reducible refine Nat.le_trans ?_ (size_drew _) | (simp; done) | (simp; omega) | omega)
  · have t1 : (g.toList == [61]) = false := by rw [hq]; simpa using e1
    rw [decide_eq_false e1]
    simp only [Bool.false_and, Bool.false_eq_true, if_false]
    clear er er2 e1 hz h1 h2 h3 hq
    go_enter Tryz.func4, Tryz.ntmps4
    go_wp2_with (first | (go_at_call 8; refine (HC.out _ (by repeat' (first | with_reducible exact Below.refl _ _ | with_reducible refine Below.setCell ?_ ?_ _ | with_reducible refine Below.alloc ?_ ?_ _ | with_reducible refine below_drewN ?_ _ | with_reducible refine Below.drew ?_ | with_reducible refine Below.trans ?_ (Below.mono (by assumption) ?_) | with_reducible exact Nat.le_refl _ | with_reducible refine Nat.le_trans ?_ (Below.size (by assumption)) | with_reducible refine Nat.le_trans ?_ (size_alloc _ _) | with_reducible refine Nat.le_trans ?_ (size_set _ _ _) | with_reducible refine Nat.le_trans ?_ (size_drewN _ _) | with_reducible refine Nat.le_trans ?_ (size_drew _) | (simp; done) | (simp; omega) | omega))).mono ?_; rintro e w1 ⟨rfl, hb_w1⟩; obtain ⟨c_w1, f_w1⟩ := bcell hb_w1; have z_w1 := hb_w1.size; (try simp at z_w1); have y_w1 : w.heap.size < w1.heap.size := (by omega)))
    refine bodyPost_ret (v := .tuple #[.string ⟨#[]⟩, .bool false]) (by simp [results, Tryz.results4, go_sem, *]) rfl ⟨rfl, ?_⟩
    repeat' (first | with_reducible exact Below.refl _ _ | with_reducible refine Below.setCell ?_ ?_ _ | with_reducible refine Below.alloc ?_ ?_ _ | with_reducible refine below_drewN ?_ _ | with_reducible refine Below.drew ?_ | with_reducible refine Below.trans ?_ (Below.mono (by assumption) ?_) | with_reducible exact Nat.le_refl _ | with_reducible refine Nat.le_trans ?_ (Below.size (by assumption)) | with_reducible refine Nat.le_trans ?_ (size_alloc _ _) | with_reducible refine Nat.le_trans ?_ (size_set _ _ _) | with_reducible refine Nat.le_trans ?_ (size_drewN _ _) | with_reducible refine Nat.le_trans ?_ (size_drew _) | (simp; done) | (simp; omega) | omega)
end Go.Proofs.YtpghgjibpbimeaaGreatDoor
