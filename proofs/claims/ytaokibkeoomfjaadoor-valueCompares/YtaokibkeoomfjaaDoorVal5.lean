/-
  The contracts of value's Number, Words, Truth.
-/
import Derived.Test.YtaokibkeoomfjaaDoorVal4
namespace Go.Proofs.YtaokibkeoomfjaaDoor
open Go.RowKit

set_option maxHeartbeats 1000000 in
theorem numberV_any (k n : Int) (s : ByteArray) (b : Bool) (c : Int) (w : World) (hc : CellOk w) (hz : s.size ≤ maxLen) :
    Calls Tryd.prog 9 #[.agg #[.int .i64 k, .int .i64 n, .string s, .bool b, .int .i64 c]] w fun e w' => e = .returned (.tuple #[.int .i64 (numberV k n s b c).1, .int .i64 (numberV k n s b c).2]) ∧ Below w.heap.size w w' := by
  have HT : Hid (∀ W : World, Calls Tryd.prog 31 #[.agg #[.int .i64 k, .int .i64 n, .string s, .bool b, .int .i64 c]] W fun e w' => e = .returned (.int .i64 (troubleV k n s b c)) ∧ Below W.heap.size W w') := fun W => trouble_any k n s b c W hz
  have HN : Hid (∀ W : World, CellOk W → Calls Tryd.prog 32 #[.string s] W fun e w' => e = .returned (.tuple #[.int .i64 (countR s.data.toList).1, .int .i64 (countR s.data.toList).2]) ∧ Below W.heap.size W w') := fun W hW => counted_any s W hW hz
  have HC := hide hc
  clear hc hz
  cases hr : rightB k n s b c
  · rw [troubleV_no hr] at HT
    rw [show numberV k n s b c = (0, 2) by simp [numberV, hr]]
    clear hr
    go_enter Tryd.func9, Tryd.ntmps9
    go_wp2_with (first | (go_at_call 31; refine (HT.out _).mono ?_; rintro e w1 ⟨rfl, hb1⟩; obtain ⟨q0, q1, q2, q3, q4, q5, q6⟩ := box_cells hb1))
    go_ret2
    exact ⟨rfl, q6⟩
  · rw [troubleV_yes hr] at HT
    rcases right_cases hr with ⟨rfl, rfl, rfl, rfl, rfl⟩ | ⟨rfl, hf, rfl, rfl, rfl⟩ | ⟨rfl, rfl, hl, rfl, rfl⟩ | ⟨rfl, rfl, rfl, rfl⟩ | ⟨rfl, rfl, rfl, rfl, h1, h7⟩
    · rw [show numberV 0 0 ⟨#[]⟩ false 0 = (0, 0) by simp [numberV, hr]]
      clear hr
      go_enter Tryd.func9, Tryd.ntmps9
      go_wp2_with (first | (go_at_call 31; refine (HT.out _).mono ?_; rintro e w1 ⟨rfl, hb1⟩; obtain ⟨q0, q1, q2, q3, q4, q5, q6⟩ := box_cells hb1))
      go_ret2
      exact ⟨rfl, q6⟩
    · rw [show numberV 1 n ⟨#[]⟩ false 0 = (n, 0) by simp [numberV, hr]]
      clear hr
      go_enter Tryd.func9, Tryd.ntmps9
      go_wp2_with (first | (go_at_call 31; refine (HT.out _).mono ?_; rintro e w1 ⟨rfl, hb1⟩; obtain ⟨q0, q1, q2, q3, q4, q5, q6⟩ := box_cells hb1))
      go_ret2
      exact ⟨rfl, q6⟩
    · rw [show numberV 2 0 s false 0 = countR s.data.toList by simp [numberV, hr]]
      clear hr
      generalize (countR s.data.toList).1 = x at *
      generalize (countR s.data.toList).2 = y at *
      go_enter Tryd.func9, Tryd.ntmps9
      go_wp2_with (first | (go_at_call 31; refine (HT.out _).mono ?_; rintro e w1 ⟨rfl, hb1⟩; obtain ⟨q0, q1, q2, q3, q4, q5, q6⟩ := box_cells hb1) | (go_at_call 32; refine (HN.out _ (cellOk_below HC.out q6)).mono ?_; rintro e w2 ⟨rfl, hb2⟩))
      go_ret2
      exact ⟨rfl, q6.trans (hb2.mono q6.size)⟩
    · cases b
      · rw [show numberV 3 0 ⟨#[]⟩ false 0 = (0, 0) by simp [numberV, hr]]
        clear hr
        go_enter Tryd.func9, Tryd.ntmps9
        go_wp2_with (first | (go_at_call 31; refine (HT.out _).mono ?_; rintro e w1 ⟨rfl, hb1⟩; obtain ⟨q0, q1, q2, q3, q4, q5, q6⟩ := box_cells hb1))
        go_ret2
        exact ⟨rfl, q6⟩
      · rw [show numberV 3 0 ⟨#[]⟩ true 0 = (1000000, 0) by simp [numberV, hr]]
        clear hr
        go_enter Tryd.func9, Tryd.ntmps9
        go_wp2_with (first | (go_at_call 31; refine (HT.out _).mono ?_; rintro e w1 ⟨rfl, hb1⟩; obtain ⟨q0, q1, q2, q3, q4, q5, q6⟩ := box_cells hb1))
        go_ret2
        exact ⟨rfl, q6⟩
    · have hc0 : (c != 0) = true := by simp; omega
      rw [show numberV 4 0 ⟨#[]⟩ false c = (0, c) by simp [numberV, hr]]
      clear hr
      go_enter Tryd.func9, Tryd.ntmps9
      go_wp2_with (first | (go_at_call 31; refine (HT.out _).mono ?_; rintro e w1 ⟨rfl, hb1⟩; obtain ⟨q0, q1, q2, q3, q4, q5, q6⟩ := box_cells hb1))
      go_ret2
      exact ⟨rfl, q6⟩
set_option maxHeartbeats 1000000 in
theorem wordsV_any (k n : Int) (s : ByteArray) (b : Bool) (c : Int) (w : World) (ht : TabOk w) (hz : s.size ≤ maxLen) :
    Calls Tryd.prog 11 #[.agg #[.int .i64 k, .int .i64 n, .string s, .bool b, .int .i64 c]] w fun e w' => e = .returned (.tuple #[.string ⟨(wordsV k n s b c).1.toArray⟩, .int .i64 (wordsV k n s b c).2]) ∧ Below w.heap.size w w' := by
  have HT : Hid (∀ W : World, Calls Tryd.prog 31 #[.agg #[.int .i64 k, .int .i64 n, .string s, .bool b, .int .i64 c]] W fun e w' => e = .returned (.int .i64 (troubleV k n s b c)) ∧ Below W.heap.size W w') := fun W => trouble_any k n s b c W hz
  have HP : Hid (fitsB n = true → ∀ W : World, TabOk W → Calls Tryd.prog 35 #[.int .i64 n] W fun e w' => e = .returned (.tuple #[.string ⟨(textOf n).toArray⟩, .int .i64 0]) ∧ Below W.heap.size W w') := fun h W hW => print_good n W h hW
  have HB := hide ht
  clear ht hz
  cases hr : rightB k n s b c
  · rw [troubleV_no hr] at HT
    rw [show wordsV k n s b c = ([], 2) by simp [wordsV, hr]]
    clear hr
    go_enter Tryd.func11, Tryd.ntmps11
    go_wp2_with (first | (go_at_call 31; refine (HT.out _).mono ?_; rintro e w1 ⟨rfl, hb1⟩; obtain ⟨q0, q1, q2, q3, q4, q5, q6⟩ := box_cells hb1))
    go_ret2
    exact ⟨rfl, q6⟩
  · rw [troubleV_yes hr] at HT
    rcases right_cases hr with ⟨rfl, rfl, rfl, rfl, rfl⟩ | ⟨rfl, hf, rfl, rfl, rfl⟩ | ⟨rfl, rfl, hl, rfl, rfl⟩ | ⟨rfl, rfl, rfl, rfl⟩ | ⟨rfl, rfl, rfl, rfl, h1, h7⟩
    · rw [show wordsV 0 0 ⟨#[]⟩ false 0 = ([], 0) by simp [wordsV, hr]]
      clear hr
      go_enter Tryd.func11, Tryd.ntmps11
      go_wp2_with (first | (go_at_call 31; refine (HT.out _).mono ?_; rintro e w1 ⟨rfl, hb1⟩; obtain ⟨q0, q1, q2, q3, q4, q5, q6⟩ := box_cells hb1))
      go_ret2
      exact ⟨rfl, q6⟩
    · rw [show wordsV 1 n ⟨#[]⟩ false 0 = (textOf n, 0) by simp [wordsV, hr]]
      have HP := hide (HP.out hf)
      clear hr hf
      generalize (⟨(textOf n).toArray⟩ : ByteArray) = T at *
      go_enter Tryd.func11, Tryd.ntmps11
      go_wp2_with (first | (go_at_call 31; refine (HT.out _).mono ?_; rintro e w1 ⟨rfl, hb1⟩; obtain ⟨q0, q1, q2, q3, q4, q5, q6⟩ := box_cells hb1) | (go_at_call 35; refine (HP.out _ (tab_below HB.out q6)).mono ?_; rintro e w2 ⟨rfl, hb2⟩))
      go_ret2
      exact ⟨rfl, q6.trans (hb2.mono q6.size)⟩
    · rw [show wordsV 2 0 s false 0 = (s.data.toList, 0) by simp [wordsV, hr], ba_eta]
      clear hr
      go_enter Tryd.func11, Tryd.ntmps11
      go_wp2_with (first | (go_at_call 31; refine (HT.out _).mono ?_; rintro e w1 ⟨rfl, hb1⟩; obtain ⟨q0, q1, q2, q3, q4, q5, q6⟩ := box_cells hb1))
      go_ret2
      exact ⟨rfl, q6⟩
    · cases b
      · rw [show wordsV 3 0 ⟨#[]⟩ false 0 = ([70, 65, 76, 83, 69], 0) by simp [wordsV, hr]]
        clear hr
        go_enter Tryd.func11, Tryd.ntmps11
        go_wp2_with (first | (go_at_call 31; refine (HT.out _).mono ?_; rintro e w1 ⟨rfl, hb1⟩; obtain ⟨q0, q1, q2, q3, q4, q5, q6⟩ := box_cells hb1))
        go_ret2
        exact ⟨rfl, q6⟩
      · rw [show wordsV 3 0 ⟨#[]⟩ true 0 = ([84, 82, 85, 69], 0) by simp [wordsV, hr]]
        clear hr
        go_enter Tryd.func11, Tryd.ntmps11
        go_wp2_with (first | (go_at_call 31; refine (HT.out _).mono ?_; rintro e w1 ⟨rfl, hb1⟩; obtain ⟨q0, q1, q2, q3, q4, q5, q6⟩ := box_cells hb1))
        go_ret2
        exact ⟨rfl, q6⟩
    · have hc0 : (c != 0) = true := by simp; omega
      rw [show wordsV 4 0 ⟨#[]⟩ false c = ([], c) by simp [wordsV, hr]]
      clear hr
      go_enter Tryd.func11, Tryd.ntmps11
      go_wp2_with (first | (go_at_call 31; refine (HT.out _).mono ?_; rintro e w1 ⟨rfl, hb1⟩; obtain ⟨q0, q1, q2, q3, q4, q5, q6⟩ := box_cells hb1))
      go_ret2
      exact ⟨rfl, q6⟩
set_option maxHeartbeats 1000000 in
theorem truthV_any (k n : Int) (s : ByteArray) (b : Bool) (c : Int) (w : World) (hz : s.size ≤ maxLen) :
    Calls Tryd.prog 13 #[.agg #[.int .i64 k, .int .i64 n, .string s, .bool b, .int .i64 c]] w fun e w' => e = .returned (.tuple #[.bool (truthV k n s b c).1, .int .i64 (truthV k n s b c).2]) ∧ Below w.heap.size w w' := by
  have HT : Hid (∀ W : World, Calls Tryd.prog 31 #[.agg #[.int .i64 k, .int .i64 n, .string s, .bool b, .int .i64 c]] W fun e w' => e = .returned (.int .i64 (troubleV k n s b c)) ∧ Below W.heap.size W w') := fun W => trouble_any k n s b c W hz
  have HN : Hid (∀ W : World, Calls Tryd.prog 37 #[.string s] W fun e w' => e = .returned (.tuple #[.bool (namedR s.data.toList).1, .bool (namedR s.data.toList).2]) ∧ Below W.heap.size W w') := fun W => truthNamed_any s W
  clear hz
  cases hr : rightB k n s b c
  · rw [troubleV_no hr] at HT
    rw [show truthV k n s b c = (false, 2) by simp [truthV, hr]]
    clear hr
    go_enter Tryd.func13, Tryd.ntmps13
    go_wp2_with (first | (go_at_call 31; refine (HT.out _).mono ?_; rintro e w1 ⟨rfl, hb1⟩; obtain ⟨q0, q1, q2, q3, q4, q5, q6⟩ := box_cells hb1))
    go_ret2
    exact ⟨rfl, q6⟩
  · rw [troubleV_yes hr] at HT
    rcases right_cases hr with ⟨rfl, rfl, rfl, rfl, rfl⟩ | ⟨rfl, hf, rfl, rfl, rfl⟩ | ⟨rfl, rfl, hl, rfl, rfl⟩ | ⟨rfl, rfl, rfl, rfl⟩ | ⟨rfl, rfl, rfl, rfl, h1, h7⟩
    · rw [show truthV 0 0 ⟨#[]⟩ false 0 = (false, 0) by simp [truthV, hr]]
      clear hr
      go_enter Tryd.func13, Tryd.ntmps13
      go_wp2_with (first | (go_at_call 31; refine (HT.out _).mono ?_; rintro e w1 ⟨rfl, hb1⟩; obtain ⟨q0, q1, q2, q3, q4, q5, q6⟩ := box_cells hb1))
      go_ret2
      exact ⟨rfl, q6⟩
    · rw [show truthV 1 n ⟨#[]⟩ false 0 = (n != 0, 0) by simp [truthV, hr]]
      clear hr
      go_enter Tryd.func13, Tryd.ntmps13
      go_wp2_with (first | (go_at_call 31; refine (HT.out _).mono ?_; rintro e w1 ⟨rfl, hb1⟩; obtain ⟨q0, q1, q2, q3, q4, q5, q6⟩ := box_cells hb1))
      go_ret2
      exact ⟨rfl, q6⟩
    · rw [show truthV 2 0 s false 0 = ((namedR s.data.toList).1, if (namedR s.data.toList).2 then 0 else 2) by simp [truthV, hr]]
      have HX : Hid ((namedR s.data.toList).2 = false → (namedR s.data.toList).1 = false) := by
        intro h
        unfold namedR at *
        split
        · rename_i h1; rw [if_pos h1] at h; cases h
        · rename_i h1
          rw [if_neg h1] at h
          split <;> rfl
      clear hr
      generalize (namedR s.data.toList).1 = x at *
      generalize (namedR s.data.toList).2 = y at *
      cases y
      · rw [HX.out rfl] at *
        go_enter Tryd.func13, Tryd.ntmps13
        go_wp2_with (first | (go_at_call 31; refine (HT.out _).mono ?_; rintro e w1 ⟨rfl, hb1⟩; obtain ⟨q0, q1, q2, q3, q4, q5, q6⟩ := box_cells hb1) | (go_at_call 37; refine (HN.out _).mono ?_; rintro e w2 ⟨rfl, hb2⟩))
        go_ret2
        exact ⟨rfl, q6.trans (hb2.mono q6.size)⟩
      · go_enter Tryd.func13, Tryd.ntmps13
        go_wp2_with (first | (go_at_call 31; refine (HT.out _).mono ?_; rintro e w1 ⟨rfl, hb1⟩; obtain ⟨q0, q1, q2, q3, q4, q5, q6⟩ := box_cells hb1) | (go_at_call 37; refine (HN.out _).mono ?_; rintro e w2 ⟨rfl, hb2⟩))
        go_ret2
        exact ⟨rfl, q6.trans (hb2.mono q6.size)⟩
    · cases b
      · rw [show truthV 3 0 ⟨#[]⟩ false 0 = (false, 0) by simp [truthV, hr]]
        clear hr
        go_enter Tryd.func13, Tryd.ntmps13
        go_wp2_with (first | (go_at_call 31; refine (HT.out _).mono ?_; rintro e w1 ⟨rfl, hb1⟩; obtain ⟨q0, q1, q2, q3, q4, q5, q6⟩ := box_cells hb1))
        go_ret2
        exact ⟨rfl, q6⟩
      · rw [show truthV 3 0 ⟨#[]⟩ true 0 = (true, 0) by simp [truthV, hr]]
        clear hr
        go_enter Tryd.func13, Tryd.ntmps13
        go_wp2_with (first | (go_at_call 31; refine (HT.out _).mono ?_; rintro e w1 ⟨rfl, hb1⟩; obtain ⟨q0, q1, q2, q3, q4, q5, q6⟩ := box_cells hb1))
        go_ret2
        exact ⟨rfl, q6⟩
    · have hc0 : (c != 0) = true := by simp; omega
      rw [show truthV 4 0 ⟨#[]⟩ false c = (false, c) by simp [truthV, hr]]
      clear hr
      go_enter Tryd.func13, Tryd.ntmps13
      go_wp2_with (first | (go_at_call 31; refine (HT.out _).mono ?_; rintro e w1 ⟨rfl, hb1⟩; obtain ⟨q0, q1, q2, q3, q4, q5, q6⟩ := box_cells hb1))
      go_ret2
      exact ⟨rfl, q6⟩
end Go.Proofs.YtaokibkeoomfjaaDoor
