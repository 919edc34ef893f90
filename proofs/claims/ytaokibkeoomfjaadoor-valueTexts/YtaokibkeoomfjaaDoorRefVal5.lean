/-
  The contracts of the answer's Number, Words, Truth.
-/
import Derived.Test.YtaokibkeoomfjaaDoorVal4
import Derived.Test.YtaokibkeoomfjaaDoorRefVal4
namespace Go.Proofs.YtaokibkeoomfjaaDoor
open Go.RowKit

set_option maxHeartbeats 1000000 in
theorem rnumberV_any (k n : Int) (s : ByteArray) (b : Bool) (c : Int) (w : World) (hz : s.size ≤ maxLen) :
    Calls Tryd.prog 10 #[.agg #[.int .i64 k, .int .i64 n, .string s, .bool b, .int .i64 c]] w fun e w' => e = .returned (.tuple #[.int .i64 (numberV k n s b c).1, .int .i64 (numberV k n s b c).2]) ∧ Below w.heap.size w w' := by
  have HT : Hid (∀ W : World, Calls Tryd.prog 33 #[.agg #[.int .i64 k, .int .i64 n, .string s, .bool b, .int .i64 c]] W fun e w' => e = .returned (.int .i64 (troubleV k n s b c)) ∧ Below W.heap.size W w') := fun W => rfault_any k n s b c W hz
  have HN : Hid (∀ W : World, Calls Tryd.prog 34 #[.string s] W fun e w' => e = .returned (.tuple #[.int .i64 (parseR s.data.toList).1, .int .i64 (parseR s.data.toList).2]) ∧ w' = W) := fun W => rparse_any s W hz
  clear hz
  cases hr : rightB k n s b c
  · rw [troubleV_no hr] at HT
    rw [show numberV k n s b c = (0, 2) by simp [numberV, hr]]
    clear hr
    go_enter Tryd.func10, Tryd.ntmps10
    go_wp2_with (first | (go_at_call 33; refine (HT.out _).mono ?_; rintro e w1 ⟨rfl, hb1⟩; obtain ⟨q0, q1, q2, q3, q4, q5, q6⟩ := box_cells hb1))
    go_ret2
    exact ⟨rfl, q6⟩
  · rw [troubleV_yes hr] at HT
    rcases right_cases hr with ⟨rfl, rfl, rfl, rfl, rfl⟩ | ⟨rfl, hf, rfl, rfl, rfl⟩ | ⟨rfl, rfl, hl, rfl, rfl⟩ | ⟨rfl, rfl, rfl, rfl⟩ | ⟨rfl, rfl, rfl, rfl, h1, h7⟩
    · rw [show numberV 0 0 ⟨#[]⟩ false 0 = (0, 0) by simp [numberV, hr]]
      clear hr
      go_enter Tryd.func10, Tryd.ntmps10
      go_wp2_with (first | (go_at_call 33; refine (HT.out _).mono ?_; rintro e w1 ⟨rfl, hb1⟩; obtain ⟨q0, q1, q2, q3, q4, q5, q6⟩ := box_cells hb1))
      go_ret2
      exact ⟨rfl, q6⟩
    · rw [show numberV 1 n ⟨#[]⟩ false 0 = (n, 0) by simp [numberV, hr]]
      clear hr
      go_enter Tryd.func10, Tryd.ntmps10
      go_wp2_with (first | (go_at_call 33; refine (HT.out _).mono ?_; rintro e w1 ⟨rfl, hb1⟩; obtain ⟨q0, q1, q2, q3, q4, q5, q6⟩ := box_cells hb1))
      go_ret2
      exact ⟨rfl, q6⟩
    · by_cases hp : (parseR s.data.toList).2 = 0
      · rw [show numberV 2 0 s false 0 = ((parseR s.data.toList).1, 0) by simp [numberV, hr, countR, hp]]
        rw [hp] at HN
        clear hr hp
        generalize (parseR s.data.toList).1 = x at *
        go_enter Tryd.func10, Tryd.ntmps10
        go_wp2_with (first | (go_at_call 33; refine (HT.out _).mono ?_; rintro e w1 ⟨rfl, hb1⟩; obtain ⟨q0, q1, q2, q3, q4, q5, q6⟩ := box_cells hb1) | (go_at_call 34; refine (HN.out _).mono ?_; rintro e w2 ⟨rfl, rfl⟩))
        go_ret2
        exact ⟨rfl, q6⟩
      · rw [show numberV 2 0 s false 0 = (0, 2) by simp [numberV, hr, countR, hp]]
        have h2 : ((parseR s.data.toList).2 != 0) = true := by simpa using hp
        clear hr hp
        generalize (parseR s.data.toList).1 = x at *
        generalize (parseR s.data.toList).2 = y at *
        go_enter Tryd.func10, Tryd.ntmps10
        go_wp2_with (first | (go_at_call 33; refine (HT.out _).mono ?_; rintro e w1 ⟨rfl, hb1⟩; obtain ⟨q0, q1, q2, q3, q4, q5, q6⟩ := box_cells hb1) | (go_at_call 34; refine (HN.out _).mono ?_; rintro e w2 ⟨rfl, rfl⟩))
        go_ret2
        exact ⟨rfl, q6⟩
    · cases b
      · rw [show numberV 3 0 ⟨#[]⟩ false 0 = (0, 0) by simp [numberV, hr]]
        clear hr
        go_enter Tryd.func10, Tryd.ntmps10
        go_wp2_with (first | (go_at_call 33; refine (HT.out _).mono ?_; rintro e w1 ⟨rfl, hb1⟩; obtain ⟨q0, q1, q2, q3, q4, q5, q6⟩ := box_cells hb1))
        go_ret2
        exact ⟨rfl, q6⟩
      · rw [show numberV 3 0 ⟨#[]⟩ true 0 = (1000000, 0) by simp [numberV, hr]]
        clear hr
        go_enter Tryd.func10, Tryd.ntmps10
        go_wp2_with (first | (go_at_call 33; refine (HT.out _).mono ?_; rintro e w1 ⟨rfl, hb1⟩; obtain ⟨q0, q1, q2, q3, q4, q5, q6⟩ := box_cells hb1))
        go_ret2
        exact ⟨rfl, q6⟩
    · have hc0 : (c != 0) = true := by simp; omega
      rw [show numberV 4 0 ⟨#[]⟩ false c = (0, c) by simp [numberV, hr]]
      clear hr
      go_enter Tryd.func10, Tryd.ntmps10
      go_wp2_with (first | (go_at_call 33; refine (HT.out _).mono ?_; rintro e w1 ⟨rfl, hb1⟩; obtain ⟨q0, q1, q2, q3, q4, q5, q6⟩ := box_cells hb1))
      go_ret2
      exact ⟨rfl, q6⟩
set_option maxHeartbeats 1000000 in
theorem rwordsV_any (k n : Int) (s : ByteArray) (b : Bool) (c : Int) (w : World) (hz : s.size ≤ maxLen) :
    Calls Tryd.prog 12 #[.agg #[.int .i64 k, .int .i64 n, .string s, .bool b, .int .i64 c]] w fun e w' => e = .returned (.tuple #[.string ⟨(wordsV k n s b c).1.toArray⟩, .int .i64 (wordsV k n s b c).2]) ∧ Below w.heap.size w w' := by
  have HT : Hid (∀ W : World, Calls Tryd.prog 33 #[.agg #[.int .i64 k, .int .i64 n, .string s, .bool b, .int .i64 c]] W fun e w' => e = .returned (.int .i64 (troubleV k n s b c)) ∧ Below W.heap.size W w') := fun W => rfault_any k n s b c W hz
  have HP : Hid (fitsB n = true → ∀ W : World, Calls Tryd.prog 36 #[.int .i64 n] W fun e w' => e = .returned (.tuple #[.string ⟨(textOf n).toArray⟩, .int .i64 0]) ∧ Below W.heap.size W w') := fun h W => rprint_good n W h
  clear hz
  cases hr : rightB k n s b c
  · rw [troubleV_no hr] at HT
    rw [show wordsV k n s b c = ([], 2) by simp [wordsV, hr]]
    clear hr
    go_enter Tryd.func12, Tryd.ntmps12
    go_wp2_with (first | (go_at_call 33; refine (HT.out _).mono ?_; rintro e w1 ⟨rfl, hb1⟩; obtain ⟨q0, q1, q2, q3, q4, q5, q6⟩ := box_cells hb1))
    go_ret2
    exact ⟨rfl, q6⟩
  · rw [troubleV_yes hr] at HT
    rcases right_cases hr with ⟨rfl, rfl, rfl, rfl, rfl⟩ | ⟨rfl, hf, rfl, rfl, rfl⟩ | ⟨rfl, rfl, hl, rfl, rfl⟩ | ⟨rfl, rfl, rfl, rfl⟩ | ⟨rfl, rfl, rfl, rfl, h1, h7⟩
    · rw [show wordsV 0 0 ⟨#[]⟩ false 0 = ([], 0) by simp [wordsV, hr]]
      clear hr
      go_enter Tryd.func12, Tryd.ntmps12
      go_wp2_with (first | (go_at_call 33; refine (HT.out _).mono ?_; rintro e w1 ⟨rfl, hb1⟩; obtain ⟨q0, q1, q2, q3, q4, q5, q6⟩ := box_cells hb1))
      go_ret2
      exact ⟨rfl, q6⟩
    · rw [show wordsV 1 n ⟨#[]⟩ false 0 = (textOf n, 0) by simp [wordsV, hr]]
      have HP := hide (HP.out hf)
      clear hr hf
      generalize (⟨(textOf n).toArray⟩ : ByteArray) = T at *
      go_enter Tryd.func12, Tryd.ntmps12
      go_wp2_with (first | (go_at_call 33; refine (HT.out _).mono ?_; rintro e w1 ⟨rfl, hb1⟩; obtain ⟨q0, q1, q2, q3, q4, q5, q6⟩ := box_cells hb1) | (go_at_call 36; refine (HP.out _).mono ?_; rintro e w2 ⟨rfl, hb2⟩))
      go_ret2
      exact ⟨rfl, q6.trans (hb2.mono q6.size)⟩
    · rw [show wordsV 2 0 s false 0 = (s.data.toList, 0) by simp [wordsV, hr], ba_eta]
      clear hr
      go_enter Tryd.func12, Tryd.ntmps12
      go_wp2_with (first | (go_at_call 33; refine (HT.out _).mono ?_; rintro e w1 ⟨rfl, hb1⟩; obtain ⟨q0, q1, q2, q3, q4, q5, q6⟩ := box_cells hb1))
      go_ret2
      exact ⟨rfl, q6⟩
    · cases b
      · rw [show wordsV 3 0 ⟨#[]⟩ false 0 = ([70, 65, 76, 83, 69], 0) by simp [wordsV, hr]]
        clear hr
        go_enter Tryd.func12, Tryd.ntmps12
        go_wp2_with (first | (go_at_call 33; refine (HT.out _).mono ?_; rintro e w1 ⟨rfl, hb1⟩; obtain ⟨q0, q1, q2, q3, q4, q5, q6⟩ := box_cells hb1))
        go_ret2
        exact ⟨rfl, q6⟩
      · rw [show wordsV 3 0 ⟨#[]⟩ true 0 = ([84, 82, 85, 69], 0) by simp [wordsV, hr]]
        clear hr
        go_enter Tryd.func12, Tryd.ntmps12
        go_wp2_with (first | (go_at_call 33; refine (HT.out _).mono ?_; rintro e w1 ⟨rfl, hb1⟩; obtain ⟨q0, q1, q2, q3, q4, q5, q6⟩ := box_cells hb1))
        go_ret2
        exact ⟨rfl, q6⟩
    · have hc0 : (c != 0) = true := by simp; omega
      rw [show wordsV 4 0 ⟨#[]⟩ false c = ([], c) by simp [wordsV, hr]]
      clear hr
      go_enter Tryd.func12, Tryd.ntmps12
      go_wp2_with (first | (go_at_call 33; refine (HT.out _).mono ?_; rintro e w1 ⟨rfl, hb1⟩; obtain ⟨q0, q1, q2, q3, q4, q5, q6⟩ := box_cells hb1))
      go_ret2
      exact ⟨rfl, q6⟩
set_option maxHeartbeats 1000000 in
theorem rtruthV_any (k n : Int) (s : ByteArray) (b : Bool) (c : Int) (w : World) (hz : s.size ≤ maxLen) :
    Calls Tryd.prog 14 #[.agg #[.int .i64 k, .int .i64 n, .string s, .bool b, .int .i64 c]] w fun e w' => e = .returned (.tuple #[.bool (truthV k n s b c).1, .int .i64 (truthV k n s b c).2]) ∧ Below w.heap.size w w' := by
  have HT : Hid (∀ W : World, Calls Tryd.prog 33 #[.agg #[.int .i64 k, .int .i64 n, .string s, .bool b, .int .i64 c]] W fun e w' => e = .returned (.int .i64 (troubleV k n s b c)) ∧ Below W.heap.size W w') := fun W => rfault_any k n s b c W hz
  have HN : Hid (∀ W : World, Calls Tryd.prog 27 #[.string s] W fun e w' => e = .returned (.string ⟨(foldL s.data.toList).toArray⟩) ∧ Below W.heap.size W w') := fun W => rfold_any s W hz
  clear hz
  cases hr : rightB k n s b c
  · rw [troubleV_no hr] at HT
    rw [show truthV k n s b c = (false, 2) by simp [truthV, hr]]
    clear hr
    go_enter Tryd.func14, Tryd.ntmps14
    go_wp2_with (first | (go_at_call 33; refine (HT.out _).mono ?_; rintro e w1 ⟨rfl, hb1⟩; obtain ⟨q0, q1, q2, q3, q4, q5, q6⟩ := box_cells hb1))
    go_ret2
    exact ⟨rfl, q6⟩
  · rw [troubleV_yes hr] at HT
    rcases right_cases hr with ⟨rfl, rfl, rfl, rfl, rfl⟩ | ⟨rfl, hf, rfl, rfl, rfl⟩ | ⟨rfl, rfl, hl, rfl, rfl⟩ | ⟨rfl, rfl, rfl, rfl⟩ | ⟨rfl, rfl, rfl, rfl, h1, h7⟩
    · rw [show truthV 0 0 ⟨#[]⟩ false 0 = (false, 0) by simp [truthV, hr]]
      clear hr
      go_enter Tryd.func14, Tryd.ntmps14
      go_wp2_with (first | (go_at_call 33; refine (HT.out _).mono ?_; rintro e w1 ⟨rfl, hb1⟩; obtain ⟨q0, q1, q2, q3, q4, q5, q6⟩ := box_cells hb1))
      go_ret2
      exact ⟨rfl, q6⟩
    · rw [show truthV 1 n ⟨#[]⟩ false 0 = (n != 0, 0) by simp [truthV, hr]]
      clear hr
      go_enter Tryd.func14, Tryd.ntmps14
      go_wp2_with (first | (go_at_call 33; refine (HT.out _).mono ?_; rintro e w1 ⟨rfl, hb1⟩; obtain ⟨q0, q1, q2, q3, q4, q5, q6⟩ := box_cells hb1))
      go_ret2
      exact ⟨rfl, q6⟩
    · have hT := list_ba (foldL s.data.toList)
      generalize (⟨(foldL s.data.toList).toArray⟩ : ByteArray) = T at *
      by_cases h1 : foldL s.data.toList = [84, 82, 85, 69]
      · rw [show truthV 2 0 s false 0 = (true, 0) by simp [truthV, hr, namedR_t h1]]
        rw [h1] at hT
        have t1 : (T.toList == [84, 82, 85, 69]) = true := by rw [hT]; rfl
        clear hr h1 hT
        go_enter Tryd.func14, Tryd.ntmps14
        go_wp2_with (first | (go_at_call 33; refine (HT.out _).mono ?_; rintro e w1 ⟨rfl, hb1⟩; obtain ⟨q0, q1, q2, q3, q4, q5, q6⟩ := box_cells hb1) | (go_at_call 27; refine (HN.out _).mono ?_; rintro e w2 ⟨rfl, hb2⟩))
        go_ret2
        exact ⟨rfl, q6.trans (hb2.mono q6.size)⟩
      · have t1 : (T.toList == [84, 82, 85, 69]) = false := by rw [hT]; simpa using h1
        by_cases h2 : foldL s.data.toList = [70, 65, 76, 83, 69]
        · rw [show truthV 2 0 s false 0 = (false, 0) by simp [truthV, hr, namedR_f h2]]
          rw [h2] at hT
          have t2 : (T.toList == [70, 65, 76, 83, 69]) = true := by rw [hT]; rfl
          clear hr h1 h2 hT
          go_enter Tryd.func14, Tryd.ntmps14
          go_wp2_with (first | (go_at_call 33; refine (HT.out _).mono ?_; rintro e w1 ⟨rfl, hb1⟩; obtain ⟨q0, q1, q2, q3, q4, q5, q6⟩ := box_cells hb1) | (go_at_call 27; refine (HN.out _).mono ?_; rintro e w2 ⟨rfl, hb2⟩))
          go_ret2
          exact ⟨rfl, q6.trans (hb2.mono q6.size)⟩
        · rw [show truthV 2 0 s false 0 = (false, 2) by simp [truthV, hr, namedR_no h1 h2]]
          have t2 : (T.toList == [70, 65, 76, 83, 69]) = false := by rw [hT]; simpa using h2
          clear hr h1 h2 hT
          go_enter Tryd.func14, Tryd.ntmps14
          go_wp2_with (first | (go_at_call 33; refine (HT.out _).mono ?_; rintro e w1 ⟨rfl, hb1⟩; obtain ⟨q0, q1, q2, q3, q4, q5, q6⟩ := box_cells hb1) | (go_at_call 27; refine (HN.out _).mono ?_; rintro e w2 ⟨rfl, hb2⟩))
          go_ret2
          exact ⟨rfl, q6.trans (hb2.mono q6.size)⟩
    · cases b
      · rw [show truthV 3 0 ⟨#[]⟩ false 0 = (false, 0) by simp [truthV, hr]]
        clear hr
        go_enter Tryd.func14, Tryd.ntmps14
        go_wp2_with (first | (go_at_call 33; refine (HT.out _).mono ?_; rintro e w1 ⟨rfl, hb1⟩; obtain ⟨q0, q1, q2, q3, q4, q5, q6⟩ := box_cells hb1))
        go_ret2
        exact ⟨rfl, q6⟩
      · rw [show truthV 3 0 ⟨#[]⟩ true 0 = (true, 0) by simp [truthV, hr]]
        clear hr
        go_enter Tryd.func14, Tryd.ntmps14
        go_wp2_with (first | (go_at_call 33; refine (HT.out _).mono ?_; rintro e w1 ⟨rfl, hb1⟩; obtain ⟨q0, q1, q2, q3, q4, q5, q6⟩ := box_cells hb1))
        go_ret2
        exact ⟨rfl, q6⟩
    · have hc0 : (c != 0) = true := by simp; omega
      rw [show truthV 4 0 ⟨#[]⟩ false c = (false, c) by simp [truthV, hr]]
      clear hr
      go_enter Tryd.func14, Tryd.ntmps14
      go_wp2_with (first | (go_at_call 33; refine (HT.out _).mono ?_; rintro e w1 ⟨rfl, hb1⟩; obtain ⟨q0, q1, q2, q3, q4, q5, q6⟩ := box_cells hb1))
      go_ret2
      exact ⟨rfl, q6⟩
end Go.Proofs.YtaokibkeoomfjaaDoor
