/-
  The walk of ValueNumbers: for every value it returns true.
-/
import Derived.Test.YtaokibkeoomfjaaDoorLives5
namespace Go.Proofs.YtaokibkeoomfjaaDoor
open Go.RowKit

/-- What a value counts for fits. -/
theorem number_fits {k n : Int} {s : ByteArray} {b : Bool} {c : Int} (h : (numberV k n s b c).2 = 0) : fitsB (numberV k n s b c).1 = true := by
  unfold numberV at *
  cases hr : rightB k n s b c
  · simp [hr] at h
  · have hq := right_cases hr
    simp only [hr, Bool.true_eq_false, if_false] at h ⊢
    rcases hq with ⟨rfl, rfl, _⟩ | ⟨rfl, hf, _⟩ | ⟨rfl, _⟩ | ⟨rfl, _⟩ | ⟨rfl, _, _, _, h1, _⟩
    · simp; decide
    · simp; exact hf
    · simp at *
      unfold countR at *
      split
      · rename_i hp; exact parse_yes hp
      · rename_i hp; rw [if_neg hp] at h; exact absurd h (by decide)
    · simp; cases b <;> decide
    · simp at h; omega
theorem number_none {k n : Int} {s : ByteArray} {b : Bool} {c : Int} (h : (numberV k n s b c).2 ≠ 0) : (numberV k n s b c).1 = 0 := by
  unfold numberV at *
  split
  · rfl
  · rename_i a1
    rw [if_neg a1] at h
    split
    · rfl
    · rename_i a2
      rw [if_neg a2] at h
      split
      · rename_i a3
        rw [if_pos a3] at h
        unfold countR at *
        split
        · rename_i hp; rw [if_pos hp] at h; exact absurd rfl h
        · rfl
      · rename_i a3
        rw [if_neg a3] at h
        split at h <;> exact absurd rfl h
/-- A truth's number is that truth. -/
theorem truth_back {n : Int} {s : ByteArray} {b : Bool} {c : Int} (h : (numberV 3 n s b c).2 = 0) : truthV 1 (numberV 3 n s b c).1 ⟨#[]⟩ false 0 = (b, 0) := by
  cases hr : rightB 3 n s b c
  · simp [numberV, hr] at h
  · have e : numberV 3 n s b c = (if b then 1000000 else 0, 0) := by simp [numberV, hr]
    rw [e]
    cases b <;> decide
theorem words_num {n : Int} (h : fitsB n = true) : wordsV 1 n ⟨#[]⟩ false 0 = (textOf n, 0) := by simp [wordsV, right_num h]
theorem text_short {n : Int} (h : fitsB n = true) : (⟨(textOf n).toArray⟩ : ByteArray).size ≤ 255 := by
  obtain ⟨n1, n2⟩ := fitsB_true h
  have x0 := absI_nn n
  have x1 := absI_le n1 n2
  have hfl := (fracT_facts (absI n)).1
  have hdl := dec_len (u := (absI n / 1000000).toNat) (by omega)
  show (textOf n).toArray.size ≤ 255
  rw [List.size_toArray]
  unfold textOf
  rw [List.length_append, List.length_append]
  split <;> split <;> simp <;> omega
theorem number_text {n : Int} (h : fitsB n = true) : numberV 2 0 ⟨(textOf n).toArray⟩ false 0 = (n, 0) := by
  have e : parseR (textOf n) = (n, 0) := parse_print h
  have : numberV 2 0 ⟨(textOf n).toArray⟩ false 0 = countR (textOf n) := by simp [numberV, right_text (text_short h)]
  rw [this, countR_yes (by rw [e]), e]

set_option maxRecDepth 100000 in
set_option maxHeartbeats 4000000 in
theorem valueNumbers_walk (k n : Int) (s : ByteArray) (b : Bool) (c : Int) (w : World) (he : Env w) (hz : s.size ≤ maxLen) :
    Calls Tryd.prog 8 #[.agg #[.int .i64 k, .int .i64 n, .string s, .bool b, .int .i64 c]] w fun e w' => e = .returned (.bool true) ∧ Below w.heap.size w w' := by
  have H1 : Hid (∀ W : World, CellOk W → Calls Tryd.prog 9 #[.agg #[.int .i64 k, .int .i64 n, .string s, .bool b, .int .i64 c]] W fun e w' => e = .returned (.tuple #[.int .i64 (numberV k n s b c).1, .int .i64 (numberV k n s b c).2]) ∧ Below W.heap.size W w') := fun W hW => numberV_any k n s b c W hW hz
  have HE := hide he
  clear he hz
  have HS := hide (BoxS.new w k n s b c 25)
  by_cases h0 : (numberV k n s b c).2 = 0
  · have hf := number_fits h0
    by_cases hk : k = 3
    · subst hk
      have HT : Hid (∀ W : World, Calls Tryd.prog 13 #[.agg #[.int .i64 1, .int .i64 (numberV 3 n s b c).1, .string ⟨#[]⟩, .bool false, .int .i64 0]] W fun e w' => e = .returned (.tuple #[.bool b, .int .i64 0]) ∧ Below W.heap.size W w') := fun W => by
        have := truthV_any 1 (numberV 3 n s b c).1 ⟨#[]⟩ false 0 W (by decide)
        rw [truth_back h0] at this; exact this
      rw [h0] at H1
      clear h0 hf
      generalize (numberV 3 n s b c).1 = x at *
      go_enter Tryd.func8, Tryd.ntmps8
      go_wp2_with fail
      refine (H1.out _ (HE.out.below (BoxS.out HS.out)).2.1).mono ?_
      rintro e w1 ⟨rfl, hb⟩
      have HS := hide (BoxS.below HS.out hb)
      clear hb
      obtain ⟨q0, q1, q2, q3, q4, q5, q6⟩ := HS.out
      go_wp2_with fail
      refine (lnumber_any _ _).mono ?_
      rintro e w2 ⟨rfl, hb⟩
      have HS := hide (BoxS.below HS.out hb)
      clear hb q0 q1 q2 q3 q4 q5 q6
      obtain ⟨q0, q1, q2, q3, q4, q5, q6⟩ := HS.out
      go_wp2_with fail
      refine (HT.out _).mono ?_
      rintro e w3 ⟨rfl, hb⟩
      have HS := hide (BoxS.below HS.out hb)
      clear hb q0 q1 q2 q3 q4 q5 q6
      obtain ⟨q0, q1, q2, q3, q4, q5, q6⟩ := HS.out
      go_wp2_with (go_at_call 17; refine (lives4_any _ (HE.out.below (BoxS.out HS.out))).mono ?_; rintro e wl ⟨rfl, hbl⟩)
      go_ret
      exact ⟨rfl, (BoxS.out HS.out).trans (hbl.mono (BoxS.out HS.out).size)⟩
    · have hk3 : (k == 3) = false := by simpa using hk
      have HW : Hid (∀ W : World, TabOk W → Calls Tryd.prog 11 #[.agg #[.int .i64 1, .int .i64 (numberV k n s b c).1, .string ⟨#[]⟩, .bool false, .int .i64 0]] W fun e w' => e = .returned (.tuple #[.string ⟨(textOf (numberV k n s b c).1).toArray⟩, .int .i64 0]) ∧ Below W.heap.size W w') := fun W hW => by
        have := wordsV_any 1 (numberV k n s b c).1 ⟨#[]⟩ false 0 W hW (by decide)
        rw [words_num hf] at this; exact this
      have HN : Hid (∀ W : World, CellOk W → Calls Tryd.prog 9 #[.agg #[.int .i64 2, .int .i64 0, .string ⟨(textOf (numberV k n s b c).1).toArray⟩, .bool false, .int .i64 0]] W fun e w' => e = .returned (.tuple #[.int .i64 (numberV k n s b c).1, .int .i64 0]) ∧ Below W.heap.size W w') := fun W hW => by
        have := numberV_any 2 0 ⟨(textOf (numberV k n s b c).1).toArray⟩ false 0 W hW (text_size hf)
        rw [number_text hf] at this; exact this
      rw [h0] at H1
      clear h0 hf hk
      generalize (⟨(textOf (numberV k n s b c).1).toArray⟩ : ByteArray) = T at *
      generalize (numberV k n s b c).1 = x at *
      go_enter Tryd.func8, Tryd.ntmps8
      go_wp2_with fail
      refine (H1.out _ (HE.out.below (BoxS.out HS.out)).2.1).mono ?_
      rintro e w1 ⟨rfl, hb⟩
      have HS := hide (BoxS.below HS.out hb)
      clear hb
      obtain ⟨q0, q1, q2, q3, q4, q5, q6⟩ := HS.out
      go_wp2_with fail
      refine (lnumber_any _ _).mono ?_
      rintro e w2 ⟨rfl, hb⟩
      have HS := hide (BoxS.below HS.out hb)
      clear hb q0 q1 q2 q3 q4 q5 q6
      obtain ⟨q0, q1, q2, q3, q4, q5, q6⟩ := HS.out
      go_wp2_with fail
      refine (HW.out _ (HE.out.below (BoxS.out HS.out)).1).mono ?_
      rintro e w3 ⟨rfl, hb⟩
      have HS := hide (BoxS.below HS.out hb)
      clear hb q0 q1 q2 q3 q4 q5 q6
      obtain ⟨q0, q1, q2, q3, q4, q5, q6⟩ := HS.out
      go_wp2_with fail
      refine (ltext_any _ _).mono ?_
      rintro e w4 ⟨rfl, hb⟩
      have HS := hide (BoxS.below HS.out hb)
      clear hb q0 q1 q2 q3 q4 q5 q6
      obtain ⟨q0, q1, q2, q3, q4, q5, q6⟩ := HS.out
      go_wp2_with fail
      refine (HN.out _ (HE.out.below (BoxS.out HS.out)).2.1).mono ?_
      rintro e w5 ⟨rfl, hb⟩
      have HS := hide (BoxS.below HS.out hb)
      clear hb q0 q1 q2 q3 q4 q5 q6
      obtain ⟨q0, q1, q2, q3, q4, q5, q6⟩ := HS.out
      go_wp2_with (go_at_call 17; refine (lives4_any _ (HE.out.below (BoxS.out HS.out))).mono ?_; rintro e wl ⟨rfl, hbl⟩)
      go_ret
      exact ⟨rfl, (BoxS.out HS.out).trans (hbl.mono (BoxS.out HS.out).size)⟩
  · rw [number_none h0] at H1
    have t0 : ((numberV k n s b c).2 != 0) = true := by simpa using h0
    clear h0
    generalize (numberV k n s b c).2 = y at *
    go_enter Tryd.func8, Tryd.ntmps8
    go_wp2_with fail
    refine (H1.out _ (HE.out.below (BoxS.out HS.out)).2.1).mono ?_
    rintro e w1 ⟨rfl, hb⟩
    have HS := hide (BoxS.below HS.out hb)
    clear hb
    obtain ⟨q0, q1, q2, q3, q4, q5, q6⟩ := HS.out
    go_wp2_with (go_at_call 17; refine (lives4_any _ (HE.out.below (BoxS.out HS.out))).mono ?_; rintro e wl ⟨rfl, hbl⟩)
    go_ret
    exact ⟨rfl, (BoxS.out HS.out).trans (hbl.mono (BoxS.out HS.out).size)⟩
end Go.Proofs.YtaokibkeoomfjaaDoor
