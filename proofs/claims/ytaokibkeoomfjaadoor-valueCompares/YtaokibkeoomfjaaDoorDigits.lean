/-
  The contracts of num.isDigits, num.isFraction and num.gather.
-/
import Derived.Test.YtaokibkeoomfjaaDoorMul
namespace Go.Proofs.YtaokibkeoomfjaaDoor
open Go.RowKit

/-- A byte that is a digit. -/
def isDig (c : UInt8) : Bool := decide (48 ≤ c.toNat) && decide (c.toNat ≤ 57)
/-- One or more digits. -/
def digB (l : List UInt8) : Bool := l.all isDig && !l.isEmpty
theorem isDig_iff {c : UInt8} : isDig c = true ↔ 48 ≤ c.toNat ∧ c.toNat ≤ 57 := by unfold isDig; simp
theorem isDig_not {c : UInt8} : isDig c = false ↔ c.toNat < 48 ∨ 57 < c.toNat := by
  unfold isDig; simp; omega
theorem take_snoc (s : ByteArray) (k : Nat) (h : k < s.size) : s.data.toList.take (k + 1) = s.data.toList.take k ++ [s[k]] := by
  rw [List.take_succ_eq_append_getElem (by simpa using h)]; rfl

theorem digB_no {s : ByteArray} {k : Nat} (h : k < s.size) (hd : isDig s[k] = false) : digB s.data.toList = false := by
  unfold digB
  have : s.data.toList.all isDig = false := by
    rw [List.all_eq_false]
    exact ⟨s[k], by rw [ByteArray.getElem_eq_getElem_data]; exact Array.getElem_mem_toList _, by simp [hd]⟩
  rw [this]; rfl

set_option maxHeartbeats 400000 in
theorem isDigits_any (s : ByteArray) (w : World) (hs : s.size ≤ 1000) :
    Calls Tryd.prog 68 #[.string s] w fun e w' => e = .returned (.bool (digB s.data.toList)) ∧ w' = w := by
  go_enter Tryd.func68, Tryd.ntmps68
  go_wp2
  go_loop [6] (fun i => ∃ k : Nat, k ≤ s.size ∧ i = .int .i64 k ∧ (s.data.toList.take k).all isDig = true) (fun i => s.size - (intOf i).toNat)
  case atStart => exact ⟨0, Nat.zero_le _, rfl, rfl⟩
  case round =>
    obtain ⟨k, hk, rfl, hall⟩ := hrel
    by_cases hlt : k < s.size
    · have HS := hide (take_snoc s k hlt)
      have HA := hide hall
      clear hall
      by_cases hd : isDig s[k] = true
      · have hd1 := isDig_iff.1 hd
        have HD := hide hd
        obtain ⟨d1, d2⟩ := hd1
        have d1' : (48 : Int) ≤ (s[k].toNat : Int) := by omega
        have d2' : (s[k].toNat : Int) ≤ 57 := by omega
        clear hd d1 d2
        go_wp2
        go_round
        case rel => exact ⟨k + 1, by omega, by go_num, by rw [HS.out, List.all_append, HA.out]; simp [HD.out]⟩
        case measure => simp [intOf]; omega
      · have HF : Hid (digB s.data.toList = false) := digB_no hlt (by simpa using hd)
        have hd2 : isDig s[k] = false := by simpa using hd
        rcases isDig_not.1 hd2 with d1 | d1
        · have d1' : (s[k].toNat : Int) < 48 := by omega
          clear hd hd2 d1 HS HA
          go_wp2
          go_ret
          exact ⟨by rw [HF.out]; rfl, rfl⟩
        · have d1' : (57 : Int) < (s[k].toNat : Int) := by omega
          have d2' : ¬ (s[k].toNat : Int) < 48 := by omega
          clear hd hd2 d1 HS HA
          go_wp2
          go_ret
          exact ⟨by rw [HF.out]; rfl, rfl⟩
    · have hk2 : k = s.size := by omega
      rw [hk2, List.take_of_length_le (by simp)] at hall
      clear hk2
      have HE : Hid (digB s.data.toList = !s.data.toList.isEmpty) := by show digB _ = _; unfold digB; rw [hall]; rfl
      clear hall
      go_wp2
      go_ret
      exact ⟨by rw [HE.out, ← ByteArray.toList_eq]; rfl, rfl⟩

set_option maxHeartbeats 400000 in
theorem isFraction_any (s : ByteArray) (w : World) (hs : s.size ≤ 1000) :
    Calls Tryd.prog 69 #[.string s] w fun e w' => e = .returned (.bool (digB s.data.toList && decide (s.size ≤ 6))) ∧ w' = w := by
  cases hd : digB s.data.toList
  · go_enter Tryd.func69, Tryd.ntmps69
    go_wp2_with (go_at_call 68; refine (isDigits_any _ _ hs).mono ?_; rintro e w' ⟨rfl, rfl⟩)
    go_ret
    exact ⟨rfl, rfl⟩
  · by_cases h6 : s.size ≤ 6
    · go_enter Tryd.func69, Tryd.ntmps69
      go_wp2_with (go_at_call 68; refine (isDigits_any _ _ hs).mono ?_; rintro e w' ⟨rfl, rfl⟩)
      go_ret
      exact ⟨by simp [h6]; omega, rfl⟩
    · go_enter Tryd.func69, Tryd.ntmps69
      go_wp2_with (go_at_call 68; refine (isDigits_any _ _ hs).mono ?_; rintro e w' ⟨rfl, rfl⟩)
      go_ret
      exact ⟨by simp; omega, rfl⟩

/-- One digit more, up to MaxNum + 1. -/
def gath (n : Int) (c : UInt8) : Int := min (n * 10 + ((c.toNat : Int) - 48)) 1000000000000000001
/-- The number that digits make, or MaxNum + 1. -/
def gatherN (l : List UInt8) : Int := l.foldl gath 0
theorem gath_bd {n : Int} {c : UInt8} (hn : 0 ≤ n) (hc : 48 ≤ c.toNat) : 0 ≤ gath n c ∧ gath n c ≤ 1000000000000000001 := by
  unfold gath; omega
theorem gatherN_snoc (l : List UInt8) (c : UInt8) : gatherN (l ++ [c]) = gath (gatherN l) c := by unfold gatherN; rw [List.foldl_append]; rfl
theorem fold_bd : ∀ (l : List UInt8) (n : Int), 0 ≤ n → n ≤ 1000000000000000001 → l.all isDig = true → 0 ≤ l.foldl gath n ∧ l.foldl gath n ≤ 1000000000000000001
  | [], n, h0, h1, _ => ⟨h0, h1⟩
  | c :: l, n, h0, _, h => by
    rw [List.all_cons, Bool.and_eq_true] at h
    have hb := gath_bd h0 (isDig_iff.1 h.1).1
    exact fold_bd l _ hb.1 hb.2 h.2
theorem gatherN_bd {l : List UInt8} (h : l.all isDig = true) : 0 ≤ gatherN l ∧ gatherN l ≤ 1000000000000000001 := fold_bd l 0 (by decide) (by decide) h
theorem all_take {l : List UInt8} (h : l.all isDig = true) (k : Nat) : (l.take k).all isDig = true := by
  rw [List.all_eq_true] at *
  exact fun x hx => h x (List.mem_of_mem_take hx)
theorem dig_at {s : ByteArray} (h : s.data.toList.all isDig = true) (k : Nat) (hk : k < s.size) : 48 ≤ s[k].toNat ∧ s[k].toNat ≤ 57 := by
  rw [List.all_eq_true] at h
  exact isDig_iff.1 (h _ (by rw [ByteArray.getElem_eq_getElem_data]; exact Array.getElem_mem_toList _))

set_option maxHeartbeats 400000 in
theorem gather_any (s : ByteArray) (w : World) (hs : s.size ≤ 1000) (hd : s.data.toList.all isDig = true) :
    Calls Tryd.prog 72 #[.string s] w fun e w' => e = .returned (.int .u64 (gatherN s.data.toList)) ∧ w' = w := by
  have HD := hide hd
  clear hd
  go_enter Tryd.func72, Tryd.ntmps72
  go_wp2
  go_loop [3, 7] (fun n i => ∃ k : Nat, k ≤ s.size ∧ i = .int .i64 k ∧ n = .int .u64 (gatherN (s.data.toList.take k))) (fun _ i => s.size - (intOf i).toNat)
  case atStart => exact ⟨0, Nat.zero_le _, rfl, rfl⟩
  case round =>
    obtain ⟨k, hk, rfl, rfl⟩ := hrel
    by_cases hlt : k < s.size
    · obtain ⟨d1, d2⟩ := dig_at HD.out k hlt
      obtain ⟨g1, g2⟩ := gatherN_bd (all_take HD.out k)
      have HS : Hid (gatherN (s.data.toList.take (k + 1)) = min (gatherN (s.data.toList.take k) * 10 + ((s[k].toNat : Int) - 48)) 1000000000000000001) := by
        show gatherN _ = _
        rw [take_snoc s k hlt, gatherN_snoc]; rfl
      have d1' : (48 : Int) ≤ (s[k].toNat : Int) := by omega
      have d2' : (s[k].toNat : Int) ≤ 57 := by omega
      clear d1 d2
      generalize gatherN (s.data.toList.take k) = n at *
      go_wp2
      go_round
      case rel => exact ⟨k + 1, by omega, by go_num, by rw [HS.out]⟩
      case measure => simp [intOf]; omega
    · have hk2 : k = s.size := by omega
      rw [hk2, List.take_of_length_le (by simp)]
      go_wp2
      go_ret
      exact ⟨rfl, rfl⟩
end Go.Proofs.YtaokibkeoomfjaaDoor
