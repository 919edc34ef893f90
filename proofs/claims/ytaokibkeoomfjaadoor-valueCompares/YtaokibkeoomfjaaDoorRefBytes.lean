/-
  The contract of the answer's Bytes: texts by their bytes.
-/
import Derived.Test.YtaokibkeoomfjaaDoorCmp
import Derived.LoopTactic
namespace Go.Proofs.YtaokibkeoomfjaaDoor
open Go.RowKit

theorem cut_at (l : List UInt8) (k : Nat) (h : k < l.length) : l = l.take k ++ l[k] :: l.drop (k + 1) := by
  rw [← List.drop_eq_getElem_cons h, List.take_append_drop]
theorem cmpL_diff (l m : List UInt8) (k : Nat) (hl : k < l.length) (hm : k < m.length) (e : l.take k = m.take k) (n : l[k].toNat ≠ m[k].toNat) : cmpL l m = signR (decide (l[k].toNat < m[k].toNat)) (decide (m[k].toNat < l[k].toNat)) := by
  have n' : ¬ l[k] = m[k] := fun x => n (congrArg UInt8.toNat x)
  have hb : Op.bytesLess l m = decide (l[k].toNat < m[k].toNat) := by
    have := bl_prefix (l.take k) (l[k] :: l.drop (k + 1)) (m[k] :: m.drop (k + 1))
    rw [← cut_at l k hl, e, ← cut_at m k hm] at this
    rw [this]
    simp [Op.bytesLess, n', UInt8.lt_iff_toNat_lt]
  have hn : l ≠ m := fun x => n' (by simp [x])
  unfold cmpL signR
  rw [hb]
  by_cases h : l[k].toNat < m[k].toNat
  · simp [h]
  · have h2 : m[k].toNat < l[k].toNat := by omega
    simp [h, h2, hn]
theorem cmpL_end (l m : List UInt8) (k : Nat) (hl : k ≤ l.length) (hm : k ≤ m.length) (e : l.take k = m.take k) (h : k = l.length ∨ k = m.length) : cmpL l m = signR (decide (l.length < m.length)) (decide (m.length < l.length)) := by
  rcases h with h | h
  · have el : l = m.take k := by rw [← e, h, List.take_length]
    have em : m = l ++ m.drop k := by
      conv => lhs; rw [← List.take_append_drop k m]
      rw [← el]
    have hb : Op.bytesLess l m = decide (l.length < m.length) := by
      have := bl_prefix l [] (m.drop k)
      rw [List.append_nil, ← em] at this
      rw [this]
      have hd : (m.drop k).length = m.length - k := List.length_drop
      cases hq : m.drop k with
      | nil => rw [hq] at hd; simp at hd; simp [Op.bytesLess]; omega
      | cons a r => rw [hq] at hd; simp at hd; simp [Op.bytesLess]; omega
    unfold cmpL signR
    rw [hb]
    by_cases c : l.length < m.length
    · simp [c]
    · have : l = m := by rw [el, List.take_of_length_le (by omega)]
      subst this; simp
  · have em : m = l.take k := by rw [e, h, List.take_length]
    have el : l = m ++ l.drop k := by
      conv => lhs; rw [← List.take_append_drop k l]
      rw [← em]
    have hb : Op.bytesLess l m = false := by
      have := bl_prefix m (l.drop k) []
      rw [List.append_nil, ← el] at this
      rw [this]
      cases l.drop k <;> rfl
    unfold cmpL signR
    rw [hb]
    by_cases c : m.length < l.length
    · have n : l ≠ m := fun x => by rw [x] at c; omega
      simp [n, c]; omega
    · have : l = m := by rw [em, List.take_of_length_le (by omega)]
      subst this; simp
theorem take_same (l m : List UInt8) (k : Nat) (hl : k < l.length) (hm : k < m.length) (e : l.take k = m.take k) (n : l[k].toNat = m[k].toNat) : l.take (k + 1) = m.take (k + 1) := by
  rw [List.take_succ_eq_append_getElem hl, List.take_succ_eq_append_getElem hm, e, UInt8.toNat_inj.1 n]
theorem at_list (s : ByteArray) (k : Nat) (h : k < s.size) (h' : k < s.toList.length) : s[k] = s.toList[k] := by
  have e := ByteArray.toList_eq (bs := s)
  rw [ByteArray.getElem_eq_getElem_data, ← Array.getElem_toList]
  simp [e]

set_option maxHeartbeats 1000000 in
theorem bytes_any (a b : ByteArray) (w : World) (ha : a.size ≤ maxLen) :
    Calls Tryd.prog 45 #[.string a, .string b] w fun e w' => e = .returned (.int .i64 (cmpL a.toList b.toList)) ∧ Below w.heap.size w w' := by
  unfold maxLen at ha
  have LA : Hid (a.toList.length = a.size) := by show _ = _; rw [ByteArray.toList_eq]; simp
  have LB : Hid (b.toList.length = b.size) := by show _ = _; rw [ByteArray.toList_eq]; simp
  go_enter Tryd.func45, Tryd.ntmps45
  go_wp2
  go_loopw [5] (fun i wr => ∃ (k q : Nat), k ≤ a.size ∧ k ≤ b.size ∧ i = .int .i64 k ∧ wr = w.drewN q ∧ a.toList.take k = b.toList.take k) (fun i _ => a.size - (intOf i).toNat)
  case atStart => exact ⟨0, 0, Nat.zero_le _, Nat.zero_le _, rfl, rfl, rfl⟩
  case round =>
    obtain ⟨k, q, h1, h2, rfl, rfl, he⟩ := hrel
    have HE := hide he
    clear he
    by_cases c1 : k < a.size
    · by_cases c2 : k < b.size
      · have l1 : k < a.toList.length := by rw [LA.out]; exact c1
        have l2 : k < b.toList.length := by rw [LB.out]; exact c2
        have HD := hide (cmpL_diff a.toList b.toList k l1 l2 HE.out)
        have HS := hide (take_same a.toList b.toList k l1 l2 HE.out)
        rw [← at_list a k c1 l1, ← at_list b k c2 l2] at HD HS
        clear l1 l2
        by_cases t : a[k].toNat = b[k].toNat
        · have t1 : ((a[k].toNat : Int) != (b[k].toNat : Int)) = false := by simp [t]
          go_wp2
          go_quiet (fail)
          go_wp2
          go_roundw
          case rel => exact ⟨k + 1, _, c1, c2, by go_num, rfl, HS.out t⟩
          case measure => simp [intOf]; omega
        · have t1 : ((a[k].toNat : Int) != (b[k].toNat : Int)) = true := by simp; omega
          have HD' := hide (HD.out t)
          clear HD HS
          go_wp2
          go_quiet (fail)
          go_wp2
          have BX := hide (below_drewN (below_drewN (Below.refl w.heap.size w) q) nq)
          generalize (w.drewN q).drewN nq = wx at *
          go_quiet ((go_at_call 44; exact Calls.quiet_of_same (sign_any _ _ _)))
          go_wp2
          go_ret
          exact ⟨by rw [HD'.out]; rfl, below_drewN BX.out _⟩
      · have HX := hide (cmpL_end a.toList b.toList k (by rw [LA.out]; exact h1) (by rw [LB.out]; exact h2) HE.out (.inr (by rw [LB.out]; omega)))
        rw [LA.out, LB.out] at HX
        go_wp2_with (go_at_call 44; refine (sign_any _ _ _).mono ?_; rintro e w1 ⟨rfl, rfl⟩)
        go_ret
        exact ⟨by rw [HX.out]; rfl, below_drewN (Below.refl _ _) _⟩
    · have HX := hide (cmpL_end a.toList b.toList k (by rw [LA.out]; exact h1) (by rw [LB.out]; exact h2) HE.out (.inl (by rw [LA.out]; omega)))
      rw [LA.out, LB.out] at HX
      go_wp2_with (go_at_call 44; refine (sign_any _ _ _).mono ?_; rintro e w1 ⟨rfl, rfl⟩)
      go_ret
      exact ⟨by rw [HX.out]; rfl, below_drewN (Below.refl _ _) _⟩
end Go.Proofs.YtaokibkeoomfjaaDoor
