/-
  The answer's equal and Fits.
-/
import Derived.Test.YtpghgjibpbimeaaDoorRf4
import Derived.Test.YtpghgjibpbimeaaDoorKVal6
namespace Go.Proofs.YtpghgjibpbimeaaDoor
open Go.RowKit
set_option linter.unusedSimpArgs false

set_option maxHeartbeats 400000 in
theorem ras_other (k n : Int) (s : ByteArray) (b : Bool) (c kd : Int) (w : World) (hk : (k == 0) = false) :
    Calls Tryd.prog 57 #[.agg #[.int .i64 k, .int .i64 n, .string s, .bool b, .int .i64 c], .int .i64 kd] w fun e w' => e = .returned (.agg #[.int .i64 k, .int .i64 n, .string s, .bool b, .int .i64 c]) ∧ Below w.heap.size w w' := by
  go_enter Tryd.func57, Tryd.ntmps57
  go_wp2
  refine bodyPost_ret (v := .agg #[.int .i64 k, .int .i64 n, .string s, .bool b, .int .i64 c]) (by simp [results, Tryd.results57, go_sem]) rfl ⟨rfl, ?_⟩
  repeat' (first | with_reducible exact Below.refl _ _ | with_reducible refine Below.setCell ?_ ?_ _ | with_reducible refine Below.alloc ?_ ?_ _ | with_reducible refine below_drewN ?_ _ | with_reducible refine Below.drew ?_ | with_reducible refine Below.trans ?_ (Below.mono (by assumption) ?_) | with_reducible exact Nat.le_refl _ | with_reducible refine Nat.le_trans ?_ (Below.size (by assumption)) | with_reducible refine Nat.le_trans ?_ (size_alloc _ _) | with_reducible refine Nat.le_trans ?_ (size_set _ _ _) | with_reducible refine Nat.le_trans ?_ (size_drewN _ _) | with_reducible refine Nat.le_trans ?_ (size_drew _) | (simp; done) | (simp; omega) | omega)
theorem rcompV_any (k n : Int) (s : ByteArray) (b : Bool) (c n' : Int) (s' : ByteArray) (b' : Bool) (c' : Int) (w : World) (hz : s.size ≤ maxLen) (hz' : s'.size ≤ maxLen) (h0 : k ≠ 0) (h4 : k ≠ 4) (hr : rightB k n s b c = true) (hq : rightB k n' s' b' c' = true) :
    Calls Tryd.prog 34 #[.agg #[.int .i64 k, .int .i64 n, .string s, .bool b, .int .i64 c], .agg #[.int .i64 k, .int .i64 n', .string s', .bool b', .int .i64 c']] w fun e w' => e = .returned (.tuple #[.int .i64 (compareV k n s b c k n' s' b' c').1, .int .i64 (compareV k n s b c k n' s' b' c').2]) ∧ Below w.heap.size w w' := by
  have HR : Hid (∀ W : World, Calls Tryd.prog 22 #[.agg #[.int .i64 k, .int .i64 n, .string s, .bool b, .int .i64 c]] W fun e w' => e = .returned (.bool true) ∧ Below W.heap.size W w') := fun W => by have := rright_any k n s b c W hz; rwa [hr] at this
  have HQ : Hid (∀ W : World, Calls Tryd.prog 22 #[.agg #[.int .i64 k, .int .i64 n', .string s', .bool b', .int .i64 c']] W fun e w' => e = .returned (.bool true) ∧ Below W.heap.size W w') := fun W => by have := rright_any k n' s' b' c' W hz'; rwa [hq] at this
  have e4 : (k == 4) = false := by simp [h4]
  have e0 : (k == 0) = false := by simp [h0]
  have hc : c = 0 := by rcases right_code hr with ⟨h, _⟩ | ⟨_, h⟩; · exact absurd h h4
                        · exact h
  have hc' : c' = 0 := by rcases right_code hq with ⟨h, _⟩ | ⟨_, h⟩; · exact absurd h h4
                          · exact h
  have ht := trouble2_yes hr hq
  rw [hc, if_pos rfl, hc'] at ht
  have hcv : compareV k n s b c k n' s' b' c' = (ordV k n s b k n' s' b', 0) := by
    subst hc hc'
    unfold compareV
    rw [ht]
    simp [besK, h0]
  rw [hcv]
  exact rcomp_1 k n s b c k n' s' b' c' w e4 e4 hz hz' HR HQ (fun W => ras_other k n s b c k W e0) (fun W => ras_other k n' s' b' c' k W e0)
theorem right_empty {k n : Int} {s : ByteArray} {b : Bool} {c : Int} (h : rightB k n s b c = true) (h2 : k ≠ 2) : s = ⟨#[]⟩ := by
  rcases right_cases h with ⟨_, _, h, _⟩ | ⟨_, _, h, _⟩ | ⟨h, _⟩ | ⟨_, _, h, _⟩ | ⟨_, _, h, _⟩
  · exact h
  · exact h
  · exact absurd h h2
  · exact h
  · exact h
set_option maxHeartbeats 2000000 in
theorem requal_any (k n : Int) (s : ByteArray) (b : Bool) (c : Int) (k' n' : Int) (s' : ByteArray) (b' : Bool) (c' : Int) (w : World) (hr : rightB k n s b c = true) (hq : rightB k' n' s' b' c' = true) :
    Calls Tryd.prog 33 #[.agg #[.int .i64 k, .int .i64 n, .string s, .bool b, .int .i64 c], .agg #[.int .i64 k', .int .i64 n', .string s', .bool b', .int .i64 c']] w fun e w' => e = .returned (.bool (askedB k n s b c k' n' s' b' c')) ∧ Below w.heap.size w w' := by
  have z1 := right_size hr
  have z2 := right_size hq
  have HN := hide (Box2.new w k n s b c k' n' s' b' c')
  by_cases hk : k = k'
  · subst hk
    by_cases h2 : k = 2
    · subst h2
      have HK : Hid (∀ W : World, Calls Tryd.prog 18 #[.string s, .string s'] W fun e w' => e = .returned (.bool (likeR s.data.toList s'.data.toList)) ∧ Below W.heap.size W w') := fun W => rLike_any s s' W (by omega) (by omega)
      have HE : Hid (askedB 2 n s b c 2 n' s' b' c' = likeR s.data.toList s'.data.toList) := by show _ = _; unfold askedB; simp
      generalize likeR s.data.toList s'.data.toList = R at *
      clear z1 z2 hr hq
      go_enter Tryd.func33, Tryd.ntmps33
      go_wp2_with (first | (go_at_call 18; refine (HK.out _).mono ?_; rintro e w1 ⟨rfl, hb1⟩; have HN1 := hide (Box2.below HN.out hb1); clear hb1))
      go_ret
      rw [HE.out]
      exact ⟨rfl, Box2.out HN1.out⟩
    · have e2 : (k == 2) = false := by simp [h2]
      obtain rfl := right_empty hr h2
      obtain rfl := right_empty hq h2
      have HE : Hid (askedB k n ⟨#[]⟩ b c k n' ⟨#[]⟩ b' c' = ((n == n') && (b == b') && (c == c'))) := by
        show _ = _
        unfold askedB alikeV
        rw [if_neg h2, hr, hq, Bool.eq_iff_iff]
        simp
      clear z1 z2 hr hq h2
      cases g1 : (n == n')
      · rw [g1] at HE
        go_enter Tryd.func33, Tryd.ntmps33
        go_wp2
        go_ret
        rw [HE.out]
        exact ⟨rfl, Box2.out HN.out⟩
      cases g2 : (b == b')
      · rw [g1, g2] at HE
        go_enter Tryd.func33, Tryd.ntmps33
        go_wp2
        go_ret
        rw [HE.out]
        exact ⟨rfl, Box2.out HN.out⟩
      cases g3 : (c == c')
      · rw [g1, g2, g3] at HE
        go_enter Tryd.func33, Tryd.ntmps33
        go_wp2
        go_ret
        rw [HE.out]
        exact ⟨rfl, Box2.out HN.out⟩
      · rw [g1, g2, g3] at HE
        go_enter Tryd.func33, Tryd.ntmps33
        go_wp2
        go_ret
        rw [HE.out]
        exact ⟨rfl, Box2.out HN.out⟩
  · have e1 : (k == k') = false := by simp [hk]
    have e2 : (k != k') = true := by simp [hk]
    have HE : Hid (askedB k n s b c k' n' s' b' c' = false) := by
      show _ = _
      unfold askedB alikeV
      split
      · rename_i h; rw [decide_eq_false (fun q => hk (h.trans q.symm))]; rfl
      · simp [hk]
    clear z1 z2 hr hq
    go_enter Tryd.func33, Tryd.ntmps33
    go_wp2
    go_ret
    rw [HE.out]
    exact ⟨rfl, Box2.out HN.out⟩
set_option maxHeartbeats 4000000 in
theorem rFits_any (g : ByteArray) (k n : Int) (s : ByteArray) (b : Bool) (c : Int) (k' n' : Int) (s' : ByteArray) (b' : Bool) (c' : Int) (w : World) (hz : s.size ≤ maxLen) (hz' : s'.size ≤ maxLen) :
    Calls Tryd.prog 14 #[.agg #[.string g, .int .i64 k, .int .i64 n, .string s, .bool b, .int .i64 c], .agg #[.int .i64 k', .int .i64 n', .string s', .bool b', .int .i64 c']] w fun e w' => e = .returned (.bool (fitsR g.data.toList k n s b c k' n' s' b' c')) ∧ Below w.heap.size w w' := by
  have HC : Hid (∀ W : World, Calls Tryd.prog 26 #[.agg #[.string g, .int .i64 k, .int .i64 n, .string s, .bool b, .int .i64 c]] W fun e w' => e = .returned (.bool (rightC g k n s b c)) ∧ Below W.heap.size W w') := fun W => rright13_any g k n s b c W hz
  have HV : Hid (∀ W : World, Calls Tryd.prog 22 #[.agg #[.int .i64 k', .int .i64 n', .string s', .bool b', .int .i64 c']] W fun e w' => e = .returned (.bool (rightB k' n' s' b' c')) ∧ Below W.heap.size W w') := fun W => rright_any k' n' s' b' c' W hz'
  have HN := hide (BoxCV.new w (g := g) (k := k) (n := n) (s := s) (b := b) (c := c) (k' := k') (n' := n') (s' := s') (b' := b') (c' := c'))
  unfold fitsR
  unfold rightC at HC
  cases er : csignB g.data.toList && rightB k n s b c
  · rw [er] at HC
    simp only [Bool.false_and]
    clear HV er hz hz'
    go_enter Tryd.func14, Tryd.ntmps14
    go_wp2_with (first | (go_at_call 26; refine (HC.out _).mono ?_; rintro e w1 ⟨rfl, hb1⟩; have HN1 := hide (BoxCV.below HN.out hb1); obtain ⟨q0, q1, q2, q3, q4, q5, q6, q7, q8, q9, q10, q11, q12, q13⟩ := HN1.out; clear hb1))
    go_ret
    exact ⟨rfl, BoxCV.out HN1.out⟩
  cases er' : rightB k' n' s' b' c'
  · rw [er] at HC
    rw [er'] at HV
    simp only [Bool.and_false, Bool.false_and]
    clear er er' hz hz'
    go_enter Tryd.func14, Tryd.ntmps14
    go_wp2_with (first | (go_at_call 26; refine (HC.out _).mono ?_; rintro e w1 ⟨rfl, hb1⟩; have HN1 := hide (BoxCV.below HN.out hb1); obtain ⟨q0, q1, q2, q3, q4, q5, q6, q7, q8, q9, q10, q11, q12, q13⟩ := HN1.out; clear hb1) | (go_at_call 22; refine (HV.out _).mono ?_; rintro e w1 ⟨rfl, hb1⟩; have HN2 := hide (BoxCV.below HN1.out hb1); obtain ⟨q0, q1, q2, q3, q4, q5, q6, q7, q8, q9, q10, q11, q12, q13⟩ := HN2.out; clear hb1))
    go_ret
    exact ⟨rfl, BoxCV.out HN2.out⟩
  rw [er] at HC
  rw [er'] at HV
  have e0 := (Bool.and_eq_true_iff.1 er).2
  simp only [Bool.and_self, Bool.true_and]
  clear er
  unfold fitR
  have hq : g.toList = g.data.toList := by rw [ByteArray.toList_eq]
  have HA : Hid (∀ W : World, Calls Tryd.prog 33 #[.agg #[.int .i64 k, .int .i64 n, .string s, .bool b, .int .i64 c], .agg #[.int .i64 k', .int .i64 n', .string s', .bool b', .int .i64 c']] W fun e w' => e = .returned (.bool (askedB k n s b c k' n' s' b' c')) ∧ Below W.heap.size W w') := fun W => requal_any k n s b c k' n' s' b' c' W e0 er'
  by_cases e1 : g.data.toList = [61]
  · obtain rfl : g = ⟨#[61]⟩ := by rw [← ba_eta g, e1]
    rw [if_pos rfl]
    generalize askedB k n s b c k' n' s' b' c' = R at *
    clear hz hz' e0 er' e1 hq
    go_enter Tryd.func14, Tryd.ntmps14
    go_wp2_with (first | (go_at_call 26; refine (HC.out _).mono ?_; rintro e w1 ⟨rfl, hb1⟩; have HN1 := hide (BoxCV.below HN.out hb1); obtain ⟨q0, q1, q2, q3, q4, q5, q6, q7, q8, q9, q10, q11, q12, q13⟩ := HN1.out; clear hb1) | (go_at_call 22; refine (HV.out _).mono ?_; rintro e w1 ⟨rfl, hb1⟩; have HN2 := hide (BoxCV.below HN1.out hb1); obtain ⟨q0, q1, q2, q3, q4, q5, q6, q7, q8, q9, q10, q11, q12, q13⟩ := HN2.out; clear hb1) | (go_at_call 33; refine (HA.out _).mono ?_; rintro e w1 ⟨rfl, hb1⟩; have HN3 := hide (BoxCV.below HN2.out hb1); clear hb1))
    go_ret
    exact ⟨rfl, BoxCV.out HN3.out⟩
  have t1 : (g.toList == [61]) = false := by rw [hq]; simpa using e1
  rw [if_neg e1]
  by_cases e2 : g.data.toList = [60, 62]
  · obtain rfl : g = ⟨#[60, 62]⟩ := by rw [← ba_eta g, e2]
    rw [if_pos rfl]
    generalize askedB k n s b c k' n' s' b' c' = R at *
    clear hz hz' e0 er' e1 e2 hq
    go_enter Tryd.func14, Tryd.ntmps14
    go_wp2_with (first | (go_at_call 26; refine (HC.out _).mono ?_; rintro e w1 ⟨rfl, hb1⟩; have HN1 := hide (BoxCV.below HN.out hb1); obtain ⟨q0, q1, q2, q3, q4, q5, q6, q7, q8, q9, q10, q11, q12, q13⟩ := HN1.out; clear hb1) | (go_at_call 22; refine (HV.out _).mono ?_; rintro e w1 ⟨rfl, hb1⟩; have HN2 := hide (BoxCV.below HN1.out hb1); obtain ⟨q0, q1, q2, q3, q4, q5, q6, q7, q8, q9, q10, q11, q12, q13⟩ := HN2.out; clear hb1) | (go_at_call 33; refine (HA.out _).mono ?_; rintro e w1 ⟨rfl, hb1⟩; have HN3 := hide (BoxCV.below HN2.out hb1); clear hb1))
    go_ret
    exact ⟨rfl, BoxCV.out HN3.out⟩
  have t2 : (g.toList == [60, 62]) = false := by rw [hq]; simpa using e2
  rw [if_neg e2]
  clear HA e1 e2 hq
  by_cases hk : k' = k
  · subst hk
    by_cases k0 : k' = 0
    · subst k0
      rw [show (decide ((0 : Int) = 0) && hasOrdB 0) = false from rfl, Bool.false_and]
      clear hz hz' e0 er'
      go_enter Tryd.func14, Tryd.ntmps14
      go_wp2_with (first | (go_at_call 26; refine (HC.out _).mono ?_; rintro e w1 ⟨rfl, hb1⟩; have HN1 := hide (BoxCV.below HN.out hb1); obtain ⟨q0, q1, q2, q3, q4, q5, q6, q7, q8, q9, q10, q11, q12, q13⟩ := HN1.out; clear hb1) | (go_at_call 22; refine (HV.out _).mono ?_; rintro e w1 ⟨rfl, hb1⟩; have HN2 := hide (BoxCV.below HN1.out hb1); obtain ⟨q0, q1, q2, q3, q4, q5, q6, q7, q8, q9, q10, q11, q12, q13⟩ := HN2.out; clear hb1))
      go_ret
      exact ⟨rfl, BoxCV.out HN2.out⟩
    have a0 : (k' == 0) = false := by simp [k0]
    by_cases k4 : k' = 4
    · subst k4
      rw [show (decide ((4 : Int) = 4) && hasOrdB 4) = false from rfl, Bool.false_and]
      clear hz hz' e0 er'
      go_enter Tryd.func14, Tryd.ntmps14
      go_wp2_with (first | (go_at_call 26; refine (HC.out _).mono ?_; rintro e w1 ⟨rfl, hb1⟩; have HN1 := hide (BoxCV.below HN.out hb1); obtain ⟨q0, q1, q2, q3, q4, q5, q6, q7, q8, q9, q10, q11, q12, q13⟩ := HN1.out; clear hb1) | (go_at_call 22; refine (HV.out _).mono ?_; rintro e w1 ⟨rfl, hb1⟩; have HN2 := hide (BoxCV.below HN1.out hb1); obtain ⟨q0, q1, q2, q3, q4, q5, q6, q7, q8, q9, q10, q11, q12, q13⟩ := HN2.out; clear hb1))
      go_ret
      exact ⟨rfl, BoxCV.out HN2.out⟩
    have a4 : (k' == 4) = false := by simp [k4]
    have ho : hasOrdB k' = true := by
      rcases right_cases er' with ⟨h, _⟩ | ⟨h, _⟩ | ⟨h, _⟩ | ⟨h, _⟩ | ⟨h, _⟩
      · exact absurd h k0
      · subst h; rfl
      · subst h; rfl
      · subst h; rfl
      · exact absurd h k4
    rw [ho, decide_eq_true rfl, Bool.true_and, Bool.true_and]
    have HP : Hid (∀ W : World, Calls Tryd.prog 34 #[.agg #[.int .i64 k', .int .i64 n', .string s', .bool b', .int .i64 c'], .agg #[.int .i64 k', .int .i64 n, .string s, .bool b, .int .i64 c]] W fun e w' => e = .returned (.tuple #[.int .i64 (compareV k' n' s' b' c' k' n s b c).1, .int .i64 (compareV k' n' s' b' c' k' n s b c).2]) ∧ Below W.heap.size W w') := fun W => rcompV_any k' n' s' b' c' n s b c W hz' hz k0 k4 er' e0
    have HS : Hid (∀ W : World, Calls Tryd.prog 35 #[.string g, .int .i64 (compareV k' n' s' b' c' k' n s b c).1] W fun e w' => e = .returned (.bool (soB g.data.toList (compareV k' n' s' b' c' k' n s b c).1)) ∧ Below W.heap.size W w') := fun W => rso_any g _ W
    generalize soB g.data.toList (compareV k' n' s' b' c' k' n s b c).1 = R at *
    generalize (compareV k' n' s' b' c' k' n s b c).1 = O at *
    generalize (compareV k' n' s' b' c' k' n s b c).2 = E at *
    clear hz hz' e0 er' k0 k4 ho
    go_enter Tryd.func14, Tryd.ntmps14
    go_wp2_with (first | (go_at_call 26; refine (HC.out _).mono ?_; rintro e w1 ⟨rfl, hb1⟩; have HN1 := hide (BoxCV.below HN.out hb1); obtain ⟨q0, q1, q2, q3, q4, q5, q6, q7, q8, q9, q10, q11, q12, q13⟩ := HN1.out; clear hb1) | (go_at_call 22; refine (HV.out _).mono ?_; rintro e w1 ⟨rfl, hb1⟩; have HN2 := hide (BoxCV.below HN1.out hb1); obtain ⟨q0, q1, q2, q3, q4, q5, q6, q7, q8, q9, q10, q11, q12, q13⟩ := HN2.out; clear hb1) | (go_at_call 34; refine (HP.out _).mono ?_; rintro e w1 ⟨rfl, hb1⟩; have HN3 := hide (BoxCV.below HN2.out hb1); obtain ⟨q0, q1, q2, q3, q4, q5, q6, q7, q8, q9, q10, q11, q12, q13⟩ := HN3.out; clear hb1) | (go_at_call 35; refine (HS.out _).mono ?_; rintro e w1 ⟨rfl, hb1⟩; have HN4 := hide (BoxCV.below HN3.out hb1); clear hb1))
    go_ret
    exact ⟨rfl, BoxCV.out HN4.out⟩
  · have a1 : (k' == k) = false := by simp [hk]
    have a2 : (k == k') = false := by rw [beq_eq_false_iff_ne]; exact fun h => hk h.symm
    have a3 : (k != k') = true := by rw [bne, a2]; rfl
    rw [decide_eq_false hk, Bool.false_and, Bool.false_and]
    clear hz hz' e0 er'
    by_cases k0 : k = 0
    · subst k0
      go_enter Tryd.func14, Tryd.ntmps14
      go_wp2_with (first | (go_at_call 26; refine (HC.out _).mono ?_; rintro e w1 ⟨rfl, hb1⟩; have HN1 := hide (BoxCV.below HN.out hb1); obtain ⟨q0, q1, q2, q3, q4, q5, q6, q7, q8, q9, q10, q11, q12, q13⟩ := HN1.out; clear hb1) | (go_at_call 22; refine (HV.out _).mono ?_; rintro e w1 ⟨rfl, hb1⟩; have HN2 := hide (BoxCV.below HN1.out hb1); obtain ⟨q0, q1, q2, q3, q4, q5, q6, q7, q8, q9, q10, q11, q12, q13⟩ := HN2.out; clear hb1))
      go_ret
      exact ⟨rfl, BoxCV.out HN2.out⟩
    have a0 : (k == 0) = false := by simp [k0]
    by_cases k4 : k = 4
    · subst k4
      go_enter Tryd.func14, Tryd.ntmps14
      go_wp2_with (first | (go_at_call 26; refine (HC.out _).mono ?_; rintro e w1 ⟨rfl, hb1⟩; have HN1 := hide (BoxCV.below HN.out hb1); obtain ⟨q0, q1, q2, q3, q4, q5, q6, q7, q8, q9, q10, q11, q12, q13⟩ := HN1.out; clear hb1) | (go_at_call 22; refine (HV.out _).mono ?_; rintro e w1 ⟨rfl, hb1⟩; have HN2 := hide (BoxCV.below HN1.out hb1); obtain ⟨q0, q1, q2, q3, q4, q5, q6, q7, q8, q9, q10, q11, q12, q13⟩ := HN2.out; clear hb1))
      go_ret
      exact ⟨rfl, BoxCV.out HN2.out⟩
    have a4 : (k == 4) = false := by simp [k4]
    go_enter Tryd.func14, Tryd.ntmps14
    go_wp2_with (first | (go_at_call 26; refine (HC.out _).mono ?_; rintro e w1 ⟨rfl, hb1⟩; have HN1 := hide (BoxCV.below HN.out hb1); obtain ⟨q0, q1, q2, q3, q4, q5, q6, q7, q8, q9, q10, q11, q12, q13⟩ := HN1.out; clear hb1) | (go_at_call 22; refine (HV.out _).mono ?_; rintro e w1 ⟨rfl, hb1⟩; have HN2 := hide (BoxCV.below HN1.out hb1); obtain ⟨q0, q1, q2, q3, q4, q5, q6, q7, q8, q9, q10, q11, q12, q13⟩ := HN2.out; clear hb1))
    go_ret
    exact ⟨rfl, BoxCV.out HN2.out⟩
end Go.Proofs.YtpghgjibpbimeaaDoor
