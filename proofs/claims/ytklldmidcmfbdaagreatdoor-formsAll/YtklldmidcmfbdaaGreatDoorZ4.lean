/-
  Out of TrG, TrH, what is asked for (laid by pack9.py).
-/
import Derived.Test.YtklldmidcmfbdaaGreatDoorVNum
import Derived.Test.YtklldmidcmfbdaaGreatDoorVPla
import Derived.Test.YtklldmidcmfbdaaGreatDoorVVal
import Derived.Test.YtklldmidcmfbdaaGreatDoorVVal3
import Derived.Test.YtklldmidcmfbdaaGreatDoorVVal4
import Derived.Test.YtklldmidcmfbdaaGreatDoorZ1
import Derived.Test.YtklldmidcmfbdaaGreatDoorZ3
import Derived.BigCall
import Derived.BigGuard
import Derived.BigQuiet
import Derived.ChangeArms
import Derived.Deep.MidRow
import Derived.Deep.QuietTactic
import Derived.Deep.RegionHeld3
import Derived.Deep.RegionWith
import Derived.Deep.WholeRow
import Derived.Defers
import Derived.Great.BuildSlice
import Derived.Laws.Cover1
import Derived.Laws.EntriesVeiled
import Derived.Laws.IdiomStrings
import Derived.Lib.AppendIntMem
import Derived.Lib.AtoiErrMem
import Derived.Lib.IndexMore
import Derived.Lib.ItoaMem
import Derived.Lib.LaidTab
import Derived.Lib.MinMax
import Derived.Lib.OthersKept
import Derived.Lib.Replace
import Derived.Lib.ReplaceLaws
import Derived.Lib.SmallJoins
import Derived.Lib.Walk
import Derived.LoopIn
import Derived.LoopNIn
import Derived.LoopTactic
import Derived.Maps.AppendAt
import Derived.OwnWalkIn
import Derived.RangeFuncBound
import Derived.RangeFuncBox
import Derived.RangeFuncCalls
import Derived.RangeFuncLeaves
import Derived.RangeFuncNested
import Derived.Recover
import Derived.Shelf.Abstract
import Derived.Shelf.RegionOpen
import Derived.TacticsInMore
import Derived.WalkKit
import Derived.WalkLawsBesides
import Derived.WalkSmall
import Derived.WalkSpells
import Derived.WideShapes
namespace Go.Proofs.YtklldmidcmfbdaaGreatDoor
section
open Go.RowKit
theorem great_yes {c : UInt8} (h : 65 ≤ c.toNat ∧ c.toNat ≤ 90) : greatB c = true := by unfold greatB; simp; omega
theorem great_no {c : UInt8} (h : ¬ (65 ≤ c.toNat ∧ c.toNat ≤ 90)) : greatB c = false := by unfold greatB; simp; omega
theorem digit_yes {c : UInt8} (h : 48 ≤ c.toNat ∧ c.toNat ≤ 57) : digitB c = true := by unfold digitB; simp; omega
theorem digit_no {c : UInt8} (h : ¬ (48 ≤ c.toNat ∧ c.toNat ≤ 57)) : digitB c = false := by unfold digitB; simp; omega
set_option maxHeartbeats 1000000 in
theorem tgreat_any (c : UInt8) (w : World) : Calls Tryz.prog 101 #[.int .u8 (c.toNat : Int)] w fun e w' => e = .returned (.bool (greatB c)) ∧ w' = w := by
  have hu : c.toNat < 256 := UInt8.toNat_lt _
  by_cases a1 : (65 : Int) ≤ c.toNat <;> by_cases a2 : (c.toNat : Int) ≤ 90
  all_goals first | (exfalso; omega) | skip
  all_goals first | rw [great_yes (by omega)] | rw [great_no (by omega)]
  all_goals (go_enter Tryz.func101, Tryz.ntmps101; go_wp2; go_ret; exact ⟨rfl, rfl⟩)
set_option maxHeartbeats 1000000 in
theorem tdigit_any (c : UInt8) (w : World) : Calls Tryz.prog 102 #[.int .u8 (c.toNat : Int)] w fun e w' => e = .returned (.bool (digitB c)) ∧ w' = w := by
  have hu : c.toNat < 256 := UInt8.toNat_lt _
  by_cases a1 : (48 : Int) ≤ c.toNat <;> by_cases a2 : (c.toNat : Int) ≤ 57
  all_goals first | (exfalso; omega) | skip
  all_goals first | rw [digit_yes (by omega)] | rw [digit_no (by omega)]
  all_goals (go_enter Tryz.func102, Tryz.ntmps102; go_wp2; go_ret; exact ⟨rfl, rfl⟩)
theorem name_long {l : List UInt8} (h : 20 < l.length) : nameOk l = false := by
  unfold nameOk
  rw [show decide (l.length ≤ 20) = false by simp; omega]
  simp
theorem name_all {l : List UInt8} (h0 : l ≠ []) (h1 : l.length ≤ 20) (h2 : greatB (l.headD 0) = true) : nameOk l = l.all nameC := by
  unfold nameOk
  rw [h2, show decide (l.length ≤ 20) = true by simp; omega, show l.isEmpty = false by simpa using h0]
  simp
theorem all_take2 {l : List UInt8} {p : UInt8 → Bool} {i : Nat} (hi : i < l.length) (h : (l.take i).all p = true) (hc : p l[i] = true) : (l.take (i + 1)).all p = true := by
  rw [List.take_succ_eq_append_getElem hi, List.all_append, h]; simp [hc]
theorem all_no {l : List UInt8} {p : UInt8 → Bool} {i : Nat} (hi : i < l.length) (hc : p l[i] = false) : l.all p = false := by
  rw [List.all_eq_false]; exact ⟨l[i], List.getElem_mem hi, by simp [hc]⟩
set_option maxRecDepth 100000 in
set_option maxHeartbeats 2000000 in
theorem isName_any (s : ByteArray) (w : World) (hs : s.size ≤ maxLen) :
    Calls Tryz.prog 83 #[.string s] w fun e w' => e = .returned (.bool (nameOk s.data.toList)) ∧ Below w.heap.size w w' := by
  have hl : s.data.toList.length = s.size := by simp
  unfold maxLen at hs
  by_cases h0 : s.data.toList = []
  · have hs0 := str_of h0
    subst hs0
    rw [show nameOk ((⟨([] : List UInt8).toArray⟩ : ByteArray).data.toList) = false from rfl]
    have e0 : ((⟨#[]⟩ : ByteArray).toList == []) = true := by kernel_rfl
    go_enter Tryz.func83, Tryz.ntmps83
    go_wp2
    go_ret
    exact ⟨rfl, Below.refl _ _⟩
  have e0 : (s.toList == []) = false := by rw [toList_data]; simpa using h0
  by_cases h1 : 20 < s.size
  · have h1' : (20 : Int) < (s.size : Int) := by omega
    rw [name_long (by omega)]
    clear h0
    go_enter Tryz.func83, Tryz.ntmps83
    go_wp2
    go_ret
    exact ⟨rfl, Below.refl _ _⟩
  have h1' : ¬ (20 : Int) < (s.size : Int) := by omega
  have hp : 0 < s.size := by have := List.length_pos_iff.2 h0; omega
  have HG : Hid (∀ (c : UInt8) (W : World), Calls Tryz.prog 101 #[.int .u8 (c.toNat : Int)] W fun e w' => e = .returned (.bool (greatB c)) ∧ w' = W) := tgreat_any
  have hh : s.data.toList.headD 0 = s[0]'hp := by
    rw [List.headD_eq_head?_getD, List.head?_eq_getElem?, List.getElem?_eq_getElem (by omega)]
    rfl
  have HH := hide hh
  clear hh
  cases hg : greatB (s[0]'hp) with
  | false =>
    have HG0 : Hid (∀ (W : World), Calls Tryz.prog 101 #[.int .u8 ((s[0]'hp).toNat : Int)] W fun e w' => e = .returned (.bool false) ∧ w' = W) := fun W => by have := HG.out (s[0]'hp) W; rw [hg] at this; exact this
    have HN : Hid (nameOk s.data.toList = false) := by
      show nameOk s.data.toList = false
      unfold nameOk
      rw [HH.out, hg]
      simp
    clear hg h0
    go_enter Tryz.func83, Tryz.ntmps83
    go_wp2_with (first | (go_at_call 101; refine (HG0.out _).mono ?_; rintro e wz ⟨rfl, hz⟩; subst wz))
    go_ret
    exact ⟨by rw [HN.out]; rfl, Below.refl _ _⟩
  | true =>
    have HG0 : Hid (∀ (W : World), Calls Tryz.prog 101 #[.int .u8 ((s[0]'hp).toNat : Int)] W fun e w' => e = .returned (.bool true) ∧ w' = W) := fun W => by have := HG.out (s[0]'hp) W; rw [hg] at this; exact this
    have HN : Hid (nameOk s.data.toList = s.data.toList.all nameC) := name_all h0 (by omega) (by rw [HH.out]; exact hg)
    obtain ⟨cap, w1, hconv, hb1, hr1, hz1⟩ := bytes_conv s w
    have HB1 := hide hb1
    have HR1 := hide hr1
    have HLL := hide hl
    clear hg h0 hb1 hr1 hl
    go_enter Tryz.func83, Tryz.ntmps83
    go_wp2_with (first | (go_at_call 101; refine (HG0.out _).mono ?_; rintro e wz ⟨rfl, hz⟩; subst wz))
    go_loopw [21, 4] (fun u _ wr => ∃ i : Nat, u = .int .i64 (i : Int) ∧ i ≤ s.size ∧ wr = w1 ∧ (s.data.toList.take i).all nameC = true) (fun u _ _ => s.size - (intOf u).toNat)
    case atStart => exact ⟨0, rfl, by omega, rfl, rfl⟩
    case round =>
      obtain ⟨i, rfl, hi, rfl, hal⟩ := hrel
      by_cases hlt : i < s.size
      · have hlt' : (i : Int) < (s.size : Int) := by omega
        have hil : i < s.data.toList.length := by rw [HLL.out]; exact hlt
        have hcell := (HR1.out.2 i hil).1
        have HAl := hide hal
        have HC := hide (all_take2 (p := nameC) hil hal)
        have HNo := hide (all_no (p := nameC) hil)
        have HD : Hid (∀ (c : UInt8) (W : World), Calls Tryz.prog 102 #[.int .u8 (c.toNat : Int)] W fun e w' => e = .returned (.bool (digitB c)) ∧ w' = W) := tdigit_any
        have hcu : (s.data.toList[i]).toNat < 256 := UInt8.toNat_lt _
        have hnc : nameC (s.data.toList[i]) = (greatB s.data.toList[i] || digitB s.data.toList[i] || decide (s.data.toList[i].toNat = 46) || decide (s.data.toList[i].toNat = 95)) := rfl
        clear hal hconv
        generalize s.data.toList[i] = c at *
        have HG1 := HG.out c
        have HD1 := HD.out c
        generalize greatB c = bg at *
        generalize digitB c = bd at *
        have HG2 := hide HG1
        have HD2 := hide HD1
        have HNC := hide hnc
        clear HG1 HD1 hnc HG HD
        by_cases hok : bg = true ∨ bd = true ∨ c.toNat = 46 ∨ c.toNat = 95
        · have HOk : Hid ((s.data.toList.take (i + 1)).all nameC = true) := HC.out (by rw [HNC.out]; rcases hok with h | h | h | h <;> simp [h])
          rcases hok with rfl | hok
          · go_wp2_with (first | (go_at_call 101; refine (HG2.out _).mono ?_; rintro e wz ⟨rfl, hz⟩; subst wz) | (go_at_call 102; refine (HD2.out _).mono ?_; rintro e wz ⟨rfl, hz⟩; subst wz))
            go_roundw
            case rel => exact ⟨i + 1, by go_num, by omega, trivial, HOk.out⟩
            case measure => simp [intOf]; omega
          cases bg with
          | true =>
            go_wp2_with (first | (go_at_call 101; refine (HG2.out _).mono ?_; rintro e wz ⟨rfl, hz⟩; subst wz) | (go_at_call 102; refine (HD2.out _).mono ?_; rintro e wz ⟨rfl, hz⟩; subst wz))
            go_roundw
            case rel => exact ⟨i + 1, by go_num, by omega, trivial, HOk.out⟩
            case measure => simp [intOf]; omega
          | false =>
          cases bd with
          | true =>
            go_wp2_with (first | (go_at_call 101; refine (HG2.out _).mono ?_; rintro e wz ⟨rfl, hz⟩; subst wz) | (go_at_call 102; refine (HD2.out _).mono ?_; rintro e wz ⟨rfl, hz⟩; subst wz))
            go_roundw
            case rel => exact ⟨i + 1, by go_num, by omega, trivial, HOk.out⟩
            case measure => simp [intOf]; omega
          | false =>
          by_cases h46 : c.toNat = 46
          · have q1 : ((c.toNat : Int) != 46) = false := by simp [h46]
            clear hok h46
            go_wp2_with (first | (go_at_call 101; refine (HG2.out _).mono ?_; rintro e wz ⟨rfl, hz⟩; subst wz) | (go_at_call 102; refine (HD2.out _).mono ?_; rintro e wz ⟨rfl, hz⟩; subst wz))
            go_roundw
            case rel => exact ⟨i + 1, by go_num, by omega, trivial, HOk.out⟩
            case measure => simp [intOf]; omega
          · have q1 : ((c.toNat : Int) != 46) = true := by simp; omega
            have q2 : ((c.toNat : Int) != 95) = false := by
              rcases hok with h | h | h
              · cases h
              · exact absurd h h46
              · simp [h]
            clear hok h46
            go_wp2_with (first | (go_at_call 101; refine (HG2.out _).mono ?_; rintro e wz ⟨rfl, hz⟩; subst wz) | (go_at_call 102; refine (HD2.out _).mono ?_; rintro e wz ⟨rfl, hz⟩; subst wz))
            go_roundw
            case rel => exact ⟨i + 1, by go_num, by omega, trivial, HOk.out⟩
            case measure => simp [intOf]; omega
        · have hb1 : bg = false := by cases bg with
            | true => exact absurd (Or.inl rfl) hok
            | false => rfl
          have hb2 : bd = false := by cases bd with
            | true => exact absurd (Or.inr (Or.inl rfl)) hok
            | false => rfl
          have h46 : c.toNat ≠ 46 := fun e => hok (Or.inr (Or.inr (Or.inl e)))
          have h95 : c.toNat ≠ 95 := fun e => hok (Or.inr (Or.inr (Or.inr e)))
          subst hb1 hb2
          have HF : Hid (s.data.toList.all nameC = false) := HNo.out (by rw [HNC.out]; simp [h46, h95])
          have q1 : ((c.toNat : Int) != 46) = true := by simp; omega
          have q2 : ((c.toNat : Int) != 95) = true := by simp; omega
          clear hok h46 h95
          go_wp2_with (first | (go_at_call 101; refine (HG2.out _).mono ?_; rintro e wz ⟨rfl, hz⟩; subst wz) | (go_at_call 102; refine (HD2.out _).mono ?_; rintro e wz ⟨rfl, hz⟩; subst wz))
          go_ret
          exact ⟨by rw [HN.out, HF.out]; rfl, HB1.out⟩
      · have hlt' : ¬ (i : Int) < (s.size : Int) := by omega
        have HF : Hid (s.data.toList.all nameC = true) := by
          show s.data.toList.all nameC = true
          rw [List.take_of_length_le (by rw [HLL.out]; omega)] at hal
          exact hal
        clear hal
        go_wp2
        go_ret
        exact ⟨by rw [HN.out, HF.out]; rfl, HB1.out⟩
end
section
open Go.RowKit
set_option maxHeartbeats 1000000 in
theorem isCell_any (r c : Int) (x y : Bool) (w : World) :
    Calls Tryz.prog 81 #[.agg #[.int .i64 r, .int .i64 c, .bool x, .bool y]] w fun e w' => e = .returned (.bool (Pla.placeB r c)) ∧ Below w.heap.size w w' := by
  have HO : Hid (∀ W : World, Calls Tryz.prog 44 #[.agg #[.int .i64 r, .int .i64 c], .agg #[.int .i64 r, .int .i64 c]] W fun e w' => e = .returned (.tuple #[.agg #[.int .i64 (Pla.ofR r c r c).1, .int .i64 (Pla.ofR r c r c).2.1, .int .i64 (Pla.ofR r c r c).2.2.1, .int .i64 (Pla.ofR r c r c).2.2.2.1], .int .i64 (Pla.ofR r c r c).2.2.2.2]) ∧ Below W.heap.size W w') := fun W => Pla.of_any r c r c W
  have hE : ((Pla.ofR r c r c).2.2.2.2 == 0) = Pla.placeB r c := by
    unfold Pla.ofR
    cases Pla.placeB r c <;> rfl
  have HE := hide hE
  clear hE
  generalize Pla.ofR r c r c = q at *
  obtain ⟨q1, q2, q3, q4, q5⟩ := q
  simp only at *
  go_enter Tryz.func81, Tryz.ntmps81
  go_wp2_with (first | (go_at_call 44; refine (HO.out _).mono ?_; rintro e w1 ⟨rfl, hb1⟩; obtain ⟨c1, f1⟩ := bcell hb1))
  go_ret
  refine ⟨?_, ?_⟩
  · rw [← HE.out]; rfl
  · repeat' (first | with_reducible exact Below.refl _ _ | with_reducible refine Below.setCell ?_ ?_ _ | with_reducible refine Below.alloc ?_ ?_ _ | with_reducible refine below_drewN ?_ _ | with_reducible refine Below.drew ?_ | with_reducible refine Below.trans ?_ (Below.mono (by assumption) ?_) | with_reducible exact Nat.le_refl _ | with_reducible refine Nat.le_trans ?_ (Below.size (by assumption)) | with_reducible refine Nat.le_trans ?_ (size_alloc _ _) | with_reducible refine Nat.le_trans ?_ (size_set _ _ _) | with_reducible refine Nat.le_trans ?_ (size_drewN _ _) | with_reducible refine Nat.le_trans ?_ (size_drew _) | (simp; done) | (simp; omega) | omega)
set_option maxHeartbeats 1000000 in
theorem isConstant_any (h : Hd) (w : World) (hs : h.vs.length ≤ maxLen) :
    Calls Tryz.prog 80 #[.agg #[.int .i64 h.vk, .int .i64 h.vn, .string ⟨h.vs.toArray⟩, .bool h.vb, .int .i64 h.vc]] w fun e w' => e = .returned (.bool (constB h)) ∧ Below w.heap.size w w' := by
  obtain ⟨hk, vk, vn, vs, vb, vc, row, col, fr, fc, row2, col2, fr2, fc2, txt⟩ := h
  simp only at *
  have HC : Hid (∀ W : World, Calls Tryz.prog 100 #[.agg #[.int .i64 vk, .int .i64 vn, .string ⟨vs.toArray⟩, .bool vb, .int .i64 vc]] W fun e w' => e = .returned (.int .i64 (checkV vk vn ⟨vs.toArray⟩ vb vc)) ∧ Below W.heap.size W w') := fun W => checkV_any vk vn ⟨vs.toArray⟩ vb vc W (by show vs.toArray.size ≤ _; simpa using hs)
  have hB : constB ⟨hk, vk, vn, vs, vb, vc, row, col, fr, fc, row2, col2, fr2, fc2, txt⟩ = (rightB vk vn ⟨vs.toArray⟩ vb vc && decide (vk ≠ 0) && decide (0 ≤ vn)) := rfl
  rw [hB]
  unfold checkV at HC
  clear hB hs
  generalize (⟨vs.toArray⟩ : ByteArray) = S at *
  cases hr : rightB vk vn S vb vc with
  | false =>
    rw [hr] at HC
    have HC2 : Hid (∀ W : World, Calls Tryz.prog 100 #[.agg #[.int .i64 vk, .int .i64 vn, .string S, .bool vb, .int .i64 vc]] W fun e w' => e = .returned (.int .i64 2) ∧ Below W.heap.size W w') := HC
    clear HC hr
    go_enter Tryz.func80, Tryz.ntmps80
    go_wp2_with (first | (go_at_call 100; refine (HC2.out _).mono ?_; rintro e w1 ⟨rfl, hb1⟩; obtain ⟨c1, f1⟩ := bcell hb1))
    go_ret
    exact ⟨by simp, by repeat' (first | with_reducible exact Below.refl _ _ | with_reducible refine Below.setCell ?_ ?_ _ | with_reducible refine Below.alloc ?_ ?_ _ | with_reducible refine below_drewN ?_ _ | with_reducible refine Below.drew ?_ | with_reducible refine Below.trans ?_ (Below.mono (by assumption) ?_) | with_reducible exact Nat.le_refl _ | with_reducible refine Nat.le_trans ?_ (Below.size (by assumption)) | with_reducible refine Nat.le_trans ?_ (size_alloc _ _) | with_reducible refine Nat.le_trans ?_ (size_set _ _ _) | with_reducible refine Nat.le_trans ?_ (size_drewN _ _) | with_reducible refine Nat.le_trans ?_ (size_drew _) | (simp; done) | (simp; omega) | omega)⟩
  | true =>
    rw [hr] at HC
    have HC2 : Hid (∀ W : World, Calls Tryz.prog 100 #[.agg #[.int .i64 vk, .int .i64 vn, .string S, .bool vb, .int .i64 vc]] W fun e w' => e = .returned (.int .i64 0) ∧ Below W.heap.size W w') := HC
    clear HC hr
    by_cases hk0 : vk = 0
    · have q : (vk != 0) = false := by simp [hk0]
      rw [show decide (vk ≠ 0) = false by simp [hk0]]
      clear hk0
      go_enter Tryz.func80, Tryz.ntmps80
      go_wp2_with (first | (go_at_call 100; refine (HC2.out _).mono ?_; rintro e w1 ⟨rfl, hb1⟩; obtain ⟨c1, f1⟩ := bcell hb1))
      go_ret
      exact ⟨by simp, by repeat' (first | with_reducible exact Below.refl _ _ | with_reducible refine Below.setCell ?_ ?_ _ | with_reducible refine Below.alloc ?_ ?_ _ | with_reducible refine below_drewN ?_ _ | with_reducible refine Below.drew ?_ | with_reducible refine Below.trans ?_ (Below.mono (by assumption) ?_) | with_reducible exact Nat.le_refl _ | with_reducible refine Nat.le_trans ?_ (Below.size (by assumption)) | with_reducible refine Nat.le_trans ?_ (size_alloc _ _) | with_reducible refine Nat.le_trans ?_ (size_set _ _ _) | with_reducible refine Nat.le_trans ?_ (size_drewN _ _) | with_reducible refine Nat.le_trans ?_ (size_drew _) | (simp; done) | (simp; omega) | omega)⟩
    · have q : (vk != 0) = true := by simp [hk0]
      rw [show decide (vk ≠ 0) = true by simp [hk0]]
      clear hk0
      go_enter Tryz.func80, Tryz.ntmps80
      go_wp2_with (first | (go_at_call 100; refine (HC2.out _).mono ?_; rintro e w1 ⟨rfl, hb1⟩; obtain ⟨c1, f1⟩ := bcell hb1))
      go_ret
      exact ⟨by simp, by repeat' (first | with_reducible exact Below.refl _ _ | with_reducible refine Below.setCell ?_ ?_ _ | with_reducible refine Below.alloc ?_ ?_ _ | with_reducible refine below_drewN ?_ _ | with_reducible refine Below.drew ?_ | with_reducible refine Below.trans ?_ (Below.mono (by assumption) ?_) | with_reducible exact Nat.le_refl _ | with_reducible refine Nat.le_trans ?_ (Below.size (by assumption)) | with_reducible refine Nat.le_trans ?_ (size_alloc _ _) | with_reducible refine Nat.le_trans ?_ (size_set _ _ _) | with_reducible refine Nat.le_trans ?_ (size_drewN _ _) | with_reducible refine Nat.le_trans ?_ (size_drew _) | (simp; done) | (simp; omega) | omega)⟩
/-- Has a node nothing but a kind? -/
def emptyB (h : Hd) (n : Nat) : Bool := noVal h && noCell h && noTo h && h.txt.isEmpty && decide (n = 0)
theorem Box.cell {w : World} {b : Nat} {h : Hd} {v : Value} (k : Box w b (hdC h v)) (j : Nat) (u : Value) (hu : (hdC h v)[j]? = some u) : w.cell? ⟨b, j, none⟩ = some u := by
  rw [cell_of_row w b j _ _ _ k]; simpa using hu
set_option maxHeartbeats 2000000 in
theorem empty_vk (kind : Int) (vk : Int) (vn : Int) (vs : List UInt8) (vb : Bool) (vc : Int) (row : Int) (col : Int) (fr : Bool) (fc : Bool) (row2 : Int) (col2 : Int) (fr2 : Bool) (fc2 : Bool) (txt : List UInt8) (q : (vk == 0) = false) (a : Option Addr) (n cap : Nat) (w : World) :
    Calls Tryz.prog 84 #[.agg (hdC ⟨kind, vk, vn, vs, vb, vc, row, col, fr, fc, row2, col2, fr2, fc2, txt⟩ (.slice a n cap)).toArray] w fun e w' => e = .returned (.bool false) ∧ Below w.heap.size w w' := by
  have d1 := (Box.new w (hdC ⟨kind, vk, vn, vs, vb, vc, row, col, fr, fc, row2, col2, fr2, fc2, txt⟩ (.slice a n cap))).cell 1 (.int .i64 vk) rfl
  have d2 := (Box.new w (hdC ⟨kind, vk, vn, vs, vb, vc, row, col, fr, fc, row2, col2, fr2, fc2, txt⟩ (.slice a n cap))).cell 2 (.int .i64 vn) rfl
  have d3 := (Box.new w (hdC ⟨kind, vk, vn, vs, vb, vc, row, col, fr, fc, row2, col2, fr2, fc2, txt⟩ (.slice a n cap))).cell 3 (.string ⟨(vs : List UInt8).toArray⟩) rfl
  have d4 := (Box.new w (hdC ⟨kind, vk, vn, vs, vb, vc, row, col, fr, fc, row2, col2, fr2, fc2, txt⟩ (.slice a n cap))).cell 4 (.bool vb) rfl
  have d5 := (Box.new w (hdC ⟨kind, vk, vn, vs, vb, vc, row, col, fr, fc, row2, col2, fr2, fc2, txt⟩ (.slice a n cap))).cell 5 (.int .i64 vc) rfl
  have d6 := (Box.new w (hdC ⟨kind, vk, vn, vs, vb, vc, row, col, fr, fc, row2, col2, fr2, fc2, txt⟩ (.slice a n cap))).cell 6 (.int .i64 row) rfl
  have d7 := (Box.new w (hdC ⟨kind, vk, vn, vs, vb, vc, row, col, fr, fc, row2, col2, fr2, fc2, txt⟩ (.slice a n cap))).cell 7 (.int .i64 col) rfl
  have d8 := (Box.new w (hdC ⟨kind, vk, vn, vs, vb, vc, row, col, fr, fc, row2, col2, fr2, fc2, txt⟩ (.slice a n cap))).cell 8 (.bool fr) rfl
  have d9 := (Box.new w (hdC ⟨kind, vk, vn, vs, vb, vc, row, col, fr, fc, row2, col2, fr2, fc2, txt⟩ (.slice a n cap))).cell 9 (.bool fc) rfl
  have d10 := (Box.new w (hdC ⟨kind, vk, vn, vs, vb, vc, row, col, fr, fc, row2, col2, fr2, fc2, txt⟩ (.slice a n cap))).cell 10 (.int .i64 row2) rfl
  have d11 := (Box.new w (hdC ⟨kind, vk, vn, vs, vb, vc, row, col, fr, fc, row2, col2, fr2, fc2, txt⟩ (.slice a n cap))).cell 11 (.int .i64 col2) rfl
  have d12 := (Box.new w (hdC ⟨kind, vk, vn, vs, vb, vc, row, col, fr, fc, row2, col2, fr2, fc2, txt⟩ (.slice a n cap))).cell 12 (.bool fr2) rfl
  have d13 := (Box.new w (hdC ⟨kind, vk, vn, vs, vb, vc, row, col, fr, fc, row2, col2, fr2, fc2, txt⟩ (.slice a n cap))).cell 13 (.bool fc2) rfl
  have d14 := (Box.new w (hdC ⟨kind, vk, vn, vs, vb, vc, row, col, fr, fc, row2, col2, fr2, fc2, txt⟩ (.slice a n cap))).cell 14 (.string ⟨(txt : List UInt8).toArray⟩) rfl
  have d15 := (Box.new w (hdC ⟨kind, vk, vn, vs, vb, vc, row, col, fr, fc, row2, col2, fr2, fc2, txt⟩ (.slice a n cap))).cell 15 (.slice a n cap) rfl
  go_enter Tryz.func84, Tryz.ntmps84
  go_wp2
  go_ret
  exact ⟨rfl, (Below.refl _ _).alloc (Nat.le_refl _) _⟩
set_option maxHeartbeats 2000000 in
theorem empty_vn (kind : Int) (vn : Int) (vs : List UInt8) (vb : Bool) (vc : Int) (row : Int) (col : Int) (fr : Bool) (fc : Bool) (row2 : Int) (col2 : Int) (fr2 : Bool) (fc2 : Bool) (txt : List UInt8) (q : (vn == 0) = false) (a : Option Addr) (n cap : Nat) (w : World) :
    Calls Tryz.prog 84 #[.agg (hdC ⟨kind, 0, vn, vs, vb, vc, row, col, fr, fc, row2, col2, fr2, fc2, txt⟩ (.slice a n cap)).toArray] w fun e w' => e = .returned (.bool false) ∧ Below w.heap.size w w' := by
  have d1 := (Box.new w (hdC ⟨kind, 0, vn, vs, vb, vc, row, col, fr, fc, row2, col2, fr2, fc2, txt⟩ (.slice a n cap))).cell 1 (.int .i64 0) rfl
  have d2 := (Box.new w (hdC ⟨kind, 0, vn, vs, vb, vc, row, col, fr, fc, row2, col2, fr2, fc2, txt⟩ (.slice a n cap))).cell 2 (.int .i64 vn) rfl
  have d3 := (Box.new w (hdC ⟨kind, 0, vn, vs, vb, vc, row, col, fr, fc, row2, col2, fr2, fc2, txt⟩ (.slice a n cap))).cell 3 (.string ⟨(vs : List UInt8).toArray⟩) rfl
  have d4 := (Box.new w (hdC ⟨kind, 0, vn, vs, vb, vc, row, col, fr, fc, row2, col2, fr2, fc2, txt⟩ (.slice a n cap))).cell 4 (.bool vb) rfl
  have d5 := (Box.new w (hdC ⟨kind, 0, vn, vs, vb, vc, row, col, fr, fc, row2, col2, fr2, fc2, txt⟩ (.slice a n cap))).cell 5 (.int .i64 vc) rfl
  have d6 := (Box.new w (hdC ⟨kind, 0, vn, vs, vb, vc, row, col, fr, fc, row2, col2, fr2, fc2, txt⟩ (.slice a n cap))).cell 6 (.int .i64 row) rfl
  have d7 := (Box.new w (hdC ⟨kind, 0, vn, vs, vb, vc, row, col, fr, fc, row2, col2, fr2, fc2, txt⟩ (.slice a n cap))).cell 7 (.int .i64 col) rfl
  have d8 := (Box.new w (hdC ⟨kind, 0, vn, vs, vb, vc, row, col, fr, fc, row2, col2, fr2, fc2, txt⟩ (.slice a n cap))).cell 8 (.bool fr) rfl
  have d9 := (Box.new w (hdC ⟨kind, 0, vn, vs, vb, vc, row, col, fr, fc, row2, col2, fr2, fc2, txt⟩ (.slice a n cap))).cell 9 (.bool fc) rfl
  have d10 := (Box.new w (hdC ⟨kind, 0, vn, vs, vb, vc, row, col, fr, fc, row2, col2, fr2, fc2, txt⟩ (.slice a n cap))).cell 10 (.int .i64 row2) rfl
  have d11 := (Box.new w (hdC ⟨kind, 0, vn, vs, vb, vc, row, col, fr, fc, row2, col2, fr2, fc2, txt⟩ (.slice a n cap))).cell 11 (.int .i64 col2) rfl
  have d12 := (Box.new w (hdC ⟨kind, 0, vn, vs, vb, vc, row, col, fr, fc, row2, col2, fr2, fc2, txt⟩ (.slice a n cap))).cell 12 (.bool fr2) rfl
  have d13 := (Box.new w (hdC ⟨kind, 0, vn, vs, vb, vc, row, col, fr, fc, row2, col2, fr2, fc2, txt⟩ (.slice a n cap))).cell 13 (.bool fc2) rfl
  have d14 := (Box.new w (hdC ⟨kind, 0, vn, vs, vb, vc, row, col, fr, fc, row2, col2, fr2, fc2, txt⟩ (.slice a n cap))).cell 14 (.string ⟨(txt : List UInt8).toArray⟩) rfl
  have d15 := (Box.new w (hdC ⟨kind, 0, vn, vs, vb, vc, row, col, fr, fc, row2, col2, fr2, fc2, txt⟩ (.slice a n cap))).cell 15 (.slice a n cap) rfl
  go_enter Tryz.func84, Tryz.ntmps84
  go_wp2
  go_ret
  exact ⟨rfl, (Below.refl _ _).alloc (Nat.le_refl _) _⟩
set_option maxHeartbeats 2000000 in
theorem empty_vs (kind : Int) (vs : List UInt8) (vb : Bool) (vc : Int) (row : Int) (col : Int) (fr : Bool) (fc : Bool) (row2 : Int) (col2 : Int) (fr2 : Bool) (fc2 : Bool) (txt : List UInt8) (q : (vs == []) = false) (a : Option Addr) (n cap : Nat) (w : World) :
    Calls Tryz.prog 84 #[.agg (hdC ⟨kind, 0, 0, vs, vb, vc, row, col, fr, fc, row2, col2, fr2, fc2, txt⟩ (.slice a n cap)).toArray] w fun e w' => e = .returned (.bool false) ∧ Below w.heap.size w w' := by
  have d1 := (Box.new w (hdC ⟨kind, 0, 0, vs, vb, vc, row, col, fr, fc, row2, col2, fr2, fc2, txt⟩ (.slice a n cap))).cell 1 (.int .i64 0) rfl
  have d2 := (Box.new w (hdC ⟨kind, 0, 0, vs, vb, vc, row, col, fr, fc, row2, col2, fr2, fc2, txt⟩ (.slice a n cap))).cell 2 (.int .i64 0) rfl
  have d3 := (Box.new w (hdC ⟨kind, 0, 0, vs, vb, vc, row, col, fr, fc, row2, col2, fr2, fc2, txt⟩ (.slice a n cap))).cell 3 (.string ⟨(vs : List UInt8).toArray⟩) rfl
  have d4 := (Box.new w (hdC ⟨kind, 0, 0, vs, vb, vc, row, col, fr, fc, row2, col2, fr2, fc2, txt⟩ (.slice a n cap))).cell 4 (.bool vb) rfl
  have d5 := (Box.new w (hdC ⟨kind, 0, 0, vs, vb, vc, row, col, fr, fc, row2, col2, fr2, fc2, txt⟩ (.slice a n cap))).cell 5 (.int .i64 vc) rfl
  have d6 := (Box.new w (hdC ⟨kind, 0, 0, vs, vb, vc, row, col, fr, fc, row2, col2, fr2, fc2, txt⟩ (.slice a n cap))).cell 6 (.int .i64 row) rfl
  have d7 := (Box.new w (hdC ⟨kind, 0, 0, vs, vb, vc, row, col, fr, fc, row2, col2, fr2, fc2, txt⟩ (.slice a n cap))).cell 7 (.int .i64 col) rfl
  have d8 := (Box.new w (hdC ⟨kind, 0, 0, vs, vb, vc, row, col, fr, fc, row2, col2, fr2, fc2, txt⟩ (.slice a n cap))).cell 8 (.bool fr) rfl
  have d9 := (Box.new w (hdC ⟨kind, 0, 0, vs, vb, vc, row, col, fr, fc, row2, col2, fr2, fc2, txt⟩ (.slice a n cap))).cell 9 (.bool fc) rfl
  have d10 := (Box.new w (hdC ⟨kind, 0, 0, vs, vb, vc, row, col, fr, fc, row2, col2, fr2, fc2, txt⟩ (.slice a n cap))).cell 10 (.int .i64 row2) rfl
  have d11 := (Box.new w (hdC ⟨kind, 0, 0, vs, vb, vc, row, col, fr, fc, row2, col2, fr2, fc2, txt⟩ (.slice a n cap))).cell 11 (.int .i64 col2) rfl
  have d12 := (Box.new w (hdC ⟨kind, 0, 0, vs, vb, vc, row, col, fr, fc, row2, col2, fr2, fc2, txt⟩ (.slice a n cap))).cell 12 (.bool fr2) rfl
  have d13 := (Box.new w (hdC ⟨kind, 0, 0, vs, vb, vc, row, col, fr, fc, row2, col2, fr2, fc2, txt⟩ (.slice a n cap))).cell 13 (.bool fc2) rfl
  have d14 := (Box.new w (hdC ⟨kind, 0, 0, vs, vb, vc, row, col, fr, fc, row2, col2, fr2, fc2, txt⟩ (.slice a n cap))).cell 14 (.string ⟨(txt : List UInt8).toArray⟩) rfl
  have d15 := (Box.new w (hdC ⟨kind, 0, 0, vs, vb, vc, row, col, fr, fc, row2, col2, fr2, fc2, txt⟩ (.slice a n cap))).cell 15 (.slice a n cap) rfl
  go_enter Tryz.func84, Tryz.ntmps84
  go_wp2
  go_ret
  exact ⟨rfl, (Below.refl _ _).alloc (Nat.le_refl _) _⟩
set_option maxHeartbeats 2000000 in
theorem empty_vb (kind : Int) (vc : Int) (row : Int) (col : Int) (fr : Bool) (fc : Bool) (row2 : Int) (col2 : Int) (fr2 : Bool) (fc2 : Bool) (txt : List UInt8) (a : Option Addr) (n cap : Nat) (w : World) :
    Calls Tryz.prog 84 #[.agg (hdC ⟨kind, 0, 0, [], true, vc, row, col, fr, fc, row2, col2, fr2, fc2, txt⟩ (.slice a n cap)).toArray] w fun e w' => e = .returned (.bool false) ∧ Below w.heap.size w w' := by
  have d1 := (Box.new w (hdC ⟨kind, 0, 0, [], true, vc, row, col, fr, fc, row2, col2, fr2, fc2, txt⟩ (.slice a n cap))).cell 1 (.int .i64 0) rfl
  have d2 := (Box.new w (hdC ⟨kind, 0, 0, [], true, vc, row, col, fr, fc, row2, col2, fr2, fc2, txt⟩ (.slice a n cap))).cell 2 (.int .i64 0) rfl
  have d3 := (Box.new w (hdC ⟨kind, 0, 0, [], true, vc, row, col, fr, fc, row2, col2, fr2, fc2, txt⟩ (.slice a n cap))).cell 3 (.string ⟨([] : List UInt8).toArray⟩) rfl
  have d4 := (Box.new w (hdC ⟨kind, 0, 0, [], true, vc, row, col, fr, fc, row2, col2, fr2, fc2, txt⟩ (.slice a n cap))).cell 4 (.bool true) rfl
  have d5 := (Box.new w (hdC ⟨kind, 0, 0, [], true, vc, row, col, fr, fc, row2, col2, fr2, fc2, txt⟩ (.slice a n cap))).cell 5 (.int .i64 vc) rfl
  have d6 := (Box.new w (hdC ⟨kind, 0, 0, [], true, vc, row, col, fr, fc, row2, col2, fr2, fc2, txt⟩ (.slice a n cap))).cell 6 (.int .i64 row) rfl
  have d7 := (Box.new w (hdC ⟨kind, 0, 0, [], true, vc, row, col, fr, fc, row2, col2, fr2, fc2, txt⟩ (.slice a n cap))).cell 7 (.int .i64 col) rfl
  have d8 := (Box.new w (hdC ⟨kind, 0, 0, [], true, vc, row, col, fr, fc, row2, col2, fr2, fc2, txt⟩ (.slice a n cap))).cell 8 (.bool fr) rfl
  have d9 := (Box.new w (hdC ⟨kind, 0, 0, [], true, vc, row, col, fr, fc, row2, col2, fr2, fc2, txt⟩ (.slice a n cap))).cell 9 (.bool fc) rfl
  have d10 := (Box.new w (hdC ⟨kind, 0, 0, [], true, vc, row, col, fr, fc, row2, col2, fr2, fc2, txt⟩ (.slice a n cap))).cell 10 (.int .i64 row2) rfl
  have d11 := (Box.new w (hdC ⟨kind, 0, 0, [], true, vc, row, col, fr, fc, row2, col2, fr2, fc2, txt⟩ (.slice a n cap))).cell 11 (.int .i64 col2) rfl
  have d12 := (Box.new w (hdC ⟨kind, 0, 0, [], true, vc, row, col, fr, fc, row2, col2, fr2, fc2, txt⟩ (.slice a n cap))).cell 12 (.bool fr2) rfl
  have d13 := (Box.new w (hdC ⟨kind, 0, 0, [], true, vc, row, col, fr, fc, row2, col2, fr2, fc2, txt⟩ (.slice a n cap))).cell 13 (.bool fc2) rfl
  have d14 := (Box.new w (hdC ⟨kind, 0, 0, [], true, vc, row, col, fr, fc, row2, col2, fr2, fc2, txt⟩ (.slice a n cap))).cell 14 (.string ⟨(txt : List UInt8).toArray⟩) rfl
  have d15 := (Box.new w (hdC ⟨kind, 0, 0, [], true, vc, row, col, fr, fc, row2, col2, fr2, fc2, txt⟩ (.slice a n cap))).cell 15 (.slice a n cap) rfl
  go_enter Tryz.func84, Tryz.ntmps84
  go_wp2
  go_ret
  exact ⟨rfl, (Below.refl _ _).alloc (Nat.le_refl _) _⟩
set_option maxHeartbeats 2000000 in
theorem empty_vc (kind : Int) (vc : Int) (row : Int) (col : Int) (fr : Bool) (fc : Bool) (row2 : Int) (col2 : Int) (fr2 : Bool) (fc2 : Bool) (txt : List UInt8) (q : (vc == 0) = false) (a : Option Addr) (n cap : Nat) (w : World) :
    Calls Tryz.prog 84 #[.agg (hdC ⟨kind, 0, 0, [], false, vc, row, col, fr, fc, row2, col2, fr2, fc2, txt⟩ (.slice a n cap)).toArray] w fun e w' => e = .returned (.bool false) ∧ Below w.heap.size w w' := by
  have d1 := (Box.new w (hdC ⟨kind, 0, 0, [], false, vc, row, col, fr, fc, row2, col2, fr2, fc2, txt⟩ (.slice a n cap))).cell 1 (.int .i64 0) rfl
  have d2 := (Box.new w (hdC ⟨kind, 0, 0, [], false, vc, row, col, fr, fc, row2, col2, fr2, fc2, txt⟩ (.slice a n cap))).cell 2 (.int .i64 0) rfl
  have d3 := (Box.new w (hdC ⟨kind, 0, 0, [], false, vc, row, col, fr, fc, row2, col2, fr2, fc2, txt⟩ (.slice a n cap))).cell 3 (.string ⟨([] : List UInt8).toArray⟩) rfl
  have d4 := (Box.new w (hdC ⟨kind, 0, 0, [], false, vc, row, col, fr, fc, row2, col2, fr2, fc2, txt⟩ (.slice a n cap))).cell 4 (.bool false) rfl
  have d5 := (Box.new w (hdC ⟨kind, 0, 0, [], false, vc, row, col, fr, fc, row2, col2, fr2, fc2, txt⟩ (.slice a n cap))).cell 5 (.int .i64 vc) rfl
  have d6 := (Box.new w (hdC ⟨kind, 0, 0, [], false, vc, row, col, fr, fc, row2, col2, fr2, fc2, txt⟩ (.slice a n cap))).cell 6 (.int .i64 row) rfl
  have d7 := (Box.new w (hdC ⟨kind, 0, 0, [], false, vc, row, col, fr, fc, row2, col2, fr2, fc2, txt⟩ (.slice a n cap))).cell 7 (.int .i64 col) rfl
  have d8 := (Box.new w (hdC ⟨kind, 0, 0, [], false, vc, row, col, fr, fc, row2, col2, fr2, fc2, txt⟩ (.slice a n cap))).cell 8 (.bool fr) rfl
  have d9 := (Box.new w (hdC ⟨kind, 0, 0, [], false, vc, row, col, fr, fc, row2, col2, fr2, fc2, txt⟩ (.slice a n cap))).cell 9 (.bool fc) rfl
  have d10 := (Box.new w (hdC ⟨kind, 0, 0, [], false, vc, row, col, fr, fc, row2, col2, fr2, fc2, txt⟩ (.slice a n cap))).cell 10 (.int .i64 row2) rfl
  have d11 := (Box.new w (hdC ⟨kind, 0, 0, [], false, vc, row, col, fr, fc, row2, col2, fr2, fc2, txt⟩ (.slice a n cap))).cell 11 (.int .i64 col2) rfl
  have d12 := (Box.new w (hdC ⟨kind, 0, 0, [], false, vc, row, col, fr, fc, row2, col2, fr2, fc2, txt⟩ (.slice a n cap))).cell 12 (.bool fr2) rfl
  have d13 := (Box.new w (hdC ⟨kind, 0, 0, [], false, vc, row, col, fr, fc, row2, col2, fr2, fc2, txt⟩ (.slice a n cap))).cell 13 (.bool fc2) rfl
  have d14 := (Box.new w (hdC ⟨kind, 0, 0, [], false, vc, row, col, fr, fc, row2, col2, fr2, fc2, txt⟩ (.slice a n cap))).cell 14 (.string ⟨(txt : List UInt8).toArray⟩) rfl
  have d15 := (Box.new w (hdC ⟨kind, 0, 0, [], false, vc, row, col, fr, fc, row2, col2, fr2, fc2, txt⟩ (.slice a n cap))).cell 15 (.slice a n cap) rfl
  go_enter Tryz.func84, Tryz.ntmps84
  go_wp2
  go_ret
  exact ⟨rfl, (Below.refl _ _).alloc (Nat.le_refl _) _⟩
set_option maxHeartbeats 2000000 in
theorem empty_row (kind : Int) (row : Int) (col : Int) (fr : Bool) (fc : Bool) (row2 : Int) (col2 : Int) (fr2 : Bool) (fc2 : Bool) (txt : List UInt8) (q : (row == 0) = false) (a : Option Addr) (n cap : Nat) (w : World) :
    Calls Tryz.prog 84 #[.agg (hdC ⟨kind, 0, 0, [], false, 0, row, col, fr, fc, row2, col2, fr2, fc2, txt⟩ (.slice a n cap)).toArray] w fun e w' => e = .returned (.bool false) ∧ Below w.heap.size w w' := by
  have d1 := (Box.new w (hdC ⟨kind, 0, 0, [], false, 0, row, col, fr, fc, row2, col2, fr2, fc2, txt⟩ (.slice a n cap))).cell 1 (.int .i64 0) rfl
  have d2 := (Box.new w (hdC ⟨kind, 0, 0, [], false, 0, row, col, fr, fc, row2, col2, fr2, fc2, txt⟩ (.slice a n cap))).cell 2 (.int .i64 0) rfl
  have d3 := (Box.new w (hdC ⟨kind, 0, 0, [], false, 0, row, col, fr, fc, row2, col2, fr2, fc2, txt⟩ (.slice a n cap))).cell 3 (.string ⟨([] : List UInt8).toArray⟩) rfl
  have d4 := (Box.new w (hdC ⟨kind, 0, 0, [], false, 0, row, col, fr, fc, row2, col2, fr2, fc2, txt⟩ (.slice a n cap))).cell 4 (.bool false) rfl
  have d5 := (Box.new w (hdC ⟨kind, 0, 0, [], false, 0, row, col, fr, fc, row2, col2, fr2, fc2, txt⟩ (.slice a n cap))).cell 5 (.int .i64 0) rfl
  have d6 := (Box.new w (hdC ⟨kind, 0, 0, [], false, 0, row, col, fr, fc, row2, col2, fr2, fc2, txt⟩ (.slice a n cap))).cell 6 (.int .i64 row) rfl
  have d7 := (Box.new w (hdC ⟨kind, 0, 0, [], false, 0, row, col, fr, fc, row2, col2, fr2, fc2, txt⟩ (.slice a n cap))).cell 7 (.int .i64 col) rfl
  have d8 := (Box.new w (hdC ⟨kind, 0, 0, [], false, 0, row, col, fr, fc, row2, col2, fr2, fc2, txt⟩ (.slice a n cap))).cell 8 (.bool fr) rfl
  have d9 := (Box.new w (hdC ⟨kind, 0, 0, [], false, 0, row, col, fr, fc, row2, col2, fr2, fc2, txt⟩ (.slice a n cap))).cell 9 (.bool fc) rfl
  have d10 := (Box.new w (hdC ⟨kind, 0, 0, [], false, 0, row, col, fr, fc, row2, col2, fr2, fc2, txt⟩ (.slice a n cap))).cell 10 (.int .i64 row2) rfl
  have d11 := (Box.new w (hdC ⟨kind, 0, 0, [], false, 0, row, col, fr, fc, row2, col2, fr2, fc2, txt⟩ (.slice a n cap))).cell 11 (.int .i64 col2) rfl
  have d12 := (Box.new w (hdC ⟨kind, 0, 0, [], false, 0, row, col, fr, fc, row2, col2, fr2, fc2, txt⟩ (.slice a n cap))).cell 12 (.bool fr2) rfl
  have d13 := (Box.new w (hdC ⟨kind, 0, 0, [], false, 0, row, col, fr, fc, row2, col2, fr2, fc2, txt⟩ (.slice a n cap))).cell 13 (.bool fc2) rfl
  have d14 := (Box.new w (hdC ⟨kind, 0, 0, [], false, 0, row, col, fr, fc, row2, col2, fr2, fc2, txt⟩ (.slice a n cap))).cell 14 (.string ⟨(txt : List UInt8).toArray⟩) rfl
  have d15 := (Box.new w (hdC ⟨kind, 0, 0, [], false, 0, row, col, fr, fc, row2, col2, fr2, fc2, txt⟩ (.slice a n cap))).cell 15 (.slice a n cap) rfl
  go_enter Tryz.func84, Tryz.ntmps84
  go_wp2
  go_ret
  exact ⟨rfl, (Below.refl _ _).alloc (Nat.le_refl _) _⟩
set_option maxHeartbeats 2000000 in
theorem empty_col (kind : Int) (col : Int) (fr : Bool) (fc : Bool) (row2 : Int) (col2 : Int) (fr2 : Bool) (fc2 : Bool) (txt : List UInt8) (q : (col == 0) = false) (a : Option Addr) (n cap : Nat) (w : World) :
    Calls Tryz.prog 84 #[.agg (hdC ⟨kind, 0, 0, [], false, 0, 0, col, fr, fc, row2, col2, fr2, fc2, txt⟩ (.slice a n cap)).toArray] w fun e w' => e = .returned (.bool false) ∧ Below w.heap.size w w' := by
  have d1 := (Box.new w (hdC ⟨kind, 0, 0, [], false, 0, 0, col, fr, fc, row2, col2, fr2, fc2, txt⟩ (.slice a n cap))).cell 1 (.int .i64 0) rfl
  have d2 := (Box.new w (hdC ⟨kind, 0, 0, [], false, 0, 0, col, fr, fc, row2, col2, fr2, fc2, txt⟩ (.slice a n cap))).cell 2 (.int .i64 0) rfl
  have d3 := (Box.new w (hdC ⟨kind, 0, 0, [], false, 0, 0, col, fr, fc, row2, col2, fr2, fc2, txt⟩ (.slice a n cap))).cell 3 (.string ⟨([] : List UInt8).toArray⟩) rfl
  have d4 := (Box.new w (hdC ⟨kind, 0, 0, [], false, 0, 0, col, fr, fc, row2, col2, fr2, fc2, txt⟩ (.slice a n cap))).cell 4 (.bool false) rfl
  have d5 := (Box.new w (hdC ⟨kind, 0, 0, [], false, 0, 0, col, fr, fc, row2, col2, fr2, fc2, txt⟩ (.slice a n cap))).cell 5 (.int .i64 0) rfl
  have d6 := (Box.new w (hdC ⟨kind, 0, 0, [], false, 0, 0, col, fr, fc, row2, col2, fr2, fc2, txt⟩ (.slice a n cap))).cell 6 (.int .i64 0) rfl
  have d7 := (Box.new w (hdC ⟨kind, 0, 0, [], false, 0, 0, col, fr, fc, row2, col2, fr2, fc2, txt⟩ (.slice a n cap))).cell 7 (.int .i64 col) rfl
  have d8 := (Box.new w (hdC ⟨kind, 0, 0, [], false, 0, 0, col, fr, fc, row2, col2, fr2, fc2, txt⟩ (.slice a n cap))).cell 8 (.bool fr) rfl
  have d9 := (Box.new w (hdC ⟨kind, 0, 0, [], false, 0, 0, col, fr, fc, row2, col2, fr2, fc2, txt⟩ (.slice a n cap))).cell 9 (.bool fc) rfl
  have d10 := (Box.new w (hdC ⟨kind, 0, 0, [], false, 0, 0, col, fr, fc, row2, col2, fr2, fc2, txt⟩ (.slice a n cap))).cell 10 (.int .i64 row2) rfl
  have d11 := (Box.new w (hdC ⟨kind, 0, 0, [], false, 0, 0, col, fr, fc, row2, col2, fr2, fc2, txt⟩ (.slice a n cap))).cell 11 (.int .i64 col2) rfl
  have d12 := (Box.new w (hdC ⟨kind, 0, 0, [], false, 0, 0, col, fr, fc, row2, col2, fr2, fc2, txt⟩ (.slice a n cap))).cell 12 (.bool fr2) rfl
  have d13 := (Box.new w (hdC ⟨kind, 0, 0, [], false, 0, 0, col, fr, fc, row2, col2, fr2, fc2, txt⟩ (.slice a n cap))).cell 13 (.bool fc2) rfl
  have d14 := (Box.new w (hdC ⟨kind, 0, 0, [], false, 0, 0, col, fr, fc, row2, col2, fr2, fc2, txt⟩ (.slice a n cap))).cell 14 (.string ⟨(txt : List UInt8).toArray⟩) rfl
  have d15 := (Box.new w (hdC ⟨kind, 0, 0, [], false, 0, 0, col, fr, fc, row2, col2, fr2, fc2, txt⟩ (.slice a n cap))).cell 15 (.slice a n cap) rfl
  go_enter Tryz.func84, Tryz.ntmps84
  go_wp2
  go_ret
  exact ⟨rfl, (Below.refl _ _).alloc (Nat.le_refl _) _⟩
set_option maxHeartbeats 2000000 in
theorem empty_fr (kind : Int) (fc : Bool) (row2 : Int) (col2 : Int) (fr2 : Bool) (fc2 : Bool) (txt : List UInt8) (a : Option Addr) (n cap : Nat) (w : World) :
    Calls Tryz.prog 84 #[.agg (hdC ⟨kind, 0, 0, [], false, 0, 0, 0, true, fc, row2, col2, fr2, fc2, txt⟩ (.slice a n cap)).toArray] w fun e w' => e = .returned (.bool false) ∧ Below w.heap.size w w' := by
  have d1 := (Box.new w (hdC ⟨kind, 0, 0, [], false, 0, 0, 0, true, fc, row2, col2, fr2, fc2, txt⟩ (.slice a n cap))).cell 1 (.int .i64 0) rfl
  have d2 := (Box.new w (hdC ⟨kind, 0, 0, [], false, 0, 0, 0, true, fc, row2, col2, fr2, fc2, txt⟩ (.slice a n cap))).cell 2 (.int .i64 0) rfl
  have d3 := (Box.new w (hdC ⟨kind, 0, 0, [], false, 0, 0, 0, true, fc, row2, col2, fr2, fc2, txt⟩ (.slice a n cap))).cell 3 (.string ⟨([] : List UInt8).toArray⟩) rfl
  have d4 := (Box.new w (hdC ⟨kind, 0, 0, [], false, 0, 0, 0, true, fc, row2, col2, fr2, fc2, txt⟩ (.slice a n cap))).cell 4 (.bool false) rfl
  have d5 := (Box.new w (hdC ⟨kind, 0, 0, [], false, 0, 0, 0, true, fc, row2, col2, fr2, fc2, txt⟩ (.slice a n cap))).cell 5 (.int .i64 0) rfl
  have d6 := (Box.new w (hdC ⟨kind, 0, 0, [], false, 0, 0, 0, true, fc, row2, col2, fr2, fc2, txt⟩ (.slice a n cap))).cell 6 (.int .i64 0) rfl
  have d7 := (Box.new w (hdC ⟨kind, 0, 0, [], false, 0, 0, 0, true, fc, row2, col2, fr2, fc2, txt⟩ (.slice a n cap))).cell 7 (.int .i64 0) rfl
  have d8 := (Box.new w (hdC ⟨kind, 0, 0, [], false, 0, 0, 0, true, fc, row2, col2, fr2, fc2, txt⟩ (.slice a n cap))).cell 8 (.bool true) rfl
  have d9 := (Box.new w (hdC ⟨kind, 0, 0, [], false, 0, 0, 0, true, fc, row2, col2, fr2, fc2, txt⟩ (.slice a n cap))).cell 9 (.bool fc) rfl
  have d10 := (Box.new w (hdC ⟨kind, 0, 0, [], false, 0, 0, 0, true, fc, row2, col2, fr2, fc2, txt⟩ (.slice a n cap))).cell 10 (.int .i64 row2) rfl
  have d11 := (Box.new w (hdC ⟨kind, 0, 0, [], false, 0, 0, 0, true, fc, row2, col2, fr2, fc2, txt⟩ (.slice a n cap))).cell 11 (.int .i64 col2) rfl
  have d12 := (Box.new w (hdC ⟨kind, 0, 0, [], false, 0, 0, 0, true, fc, row2, col2, fr2, fc2, txt⟩ (.slice a n cap))).cell 12 (.bool fr2) rfl
  have d13 := (Box.new w (hdC ⟨kind, 0, 0, [], false, 0, 0, 0, true, fc, row2, col2, fr2, fc2, txt⟩ (.slice a n cap))).cell 13 (.bool fc2) rfl
  have d14 := (Box.new w (hdC ⟨kind, 0, 0, [], false, 0, 0, 0, true, fc, row2, col2, fr2, fc2, txt⟩ (.slice a n cap))).cell 14 (.string ⟨(txt : List UInt8).toArray⟩) rfl
  have d15 := (Box.new w (hdC ⟨kind, 0, 0, [], false, 0, 0, 0, true, fc, row2, col2, fr2, fc2, txt⟩ (.slice a n cap))).cell 15 (.slice a n cap) rfl
  go_enter Tryz.func84, Tryz.ntmps84
  go_wp2
  go_ret
  exact ⟨rfl, (Below.refl _ _).alloc (Nat.le_refl _) _⟩
set_option maxHeartbeats 2000000 in
theorem empty_fc (kind : Int) (row2 : Int) (col2 : Int) (fr2 : Bool) (fc2 : Bool) (txt : List UInt8) (a : Option Addr) (n cap : Nat) (w : World) :
    Calls Tryz.prog 84 #[.agg (hdC ⟨kind, 0, 0, [], false, 0, 0, 0, false, true, row2, col2, fr2, fc2, txt⟩ (.slice a n cap)).toArray] w fun e w' => e = .returned (.bool false) ∧ Below w.heap.size w w' := by
  have d1 := (Box.new w (hdC ⟨kind, 0, 0, [], false, 0, 0, 0, false, true, row2, col2, fr2, fc2, txt⟩ (.slice a n cap))).cell 1 (.int .i64 0) rfl
  have d2 := (Box.new w (hdC ⟨kind, 0, 0, [], false, 0, 0, 0, false, true, row2, col2, fr2, fc2, txt⟩ (.slice a n cap))).cell 2 (.int .i64 0) rfl
  have d3 := (Box.new w (hdC ⟨kind, 0, 0, [], false, 0, 0, 0, false, true, row2, col2, fr2, fc2, txt⟩ (.slice a n cap))).cell 3 (.string ⟨([] : List UInt8).toArray⟩) rfl
  have d4 := (Box.new w (hdC ⟨kind, 0, 0, [], false, 0, 0, 0, false, true, row2, col2, fr2, fc2, txt⟩ (.slice a n cap))).cell 4 (.bool false) rfl
  have d5 := (Box.new w (hdC ⟨kind, 0, 0, [], false, 0, 0, 0, false, true, row2, col2, fr2, fc2, txt⟩ (.slice a n cap))).cell 5 (.int .i64 0) rfl
  have d6 := (Box.new w (hdC ⟨kind, 0, 0, [], false, 0, 0, 0, false, true, row2, col2, fr2, fc2, txt⟩ (.slice a n cap))).cell 6 (.int .i64 0) rfl
  have d7 := (Box.new w (hdC ⟨kind, 0, 0, [], false, 0, 0, 0, false, true, row2, col2, fr2, fc2, txt⟩ (.slice a n cap))).cell 7 (.int .i64 0) rfl
  have d8 := (Box.new w (hdC ⟨kind, 0, 0, [], false, 0, 0, 0, false, true, row2, col2, fr2, fc2, txt⟩ (.slice a n cap))).cell 8 (.bool false) rfl
  have d9 := (Box.new w (hdC ⟨kind, 0, 0, [], false, 0, 0, 0, false, true, row2, col2, fr2, fc2, txt⟩ (.slice a n cap))).cell 9 (.bool true) rfl
  have d10 := (Box.new w (hdC ⟨kind, 0, 0, [], false, 0, 0, 0, false, true, row2, col2, fr2, fc2, txt⟩ (.slice a n cap))).cell 10 (.int .i64 row2) rfl
  have d11 := (Box.new w (hdC ⟨kind, 0, 0, [], false, 0, 0, 0, false, true, row2, col2, fr2, fc2, txt⟩ (.slice a n cap))).cell 11 (.int .i64 col2) rfl
  have d12 := (Box.new w (hdC ⟨kind, 0, 0, [], false, 0, 0, 0, false, true, row2, col2, fr2, fc2, txt⟩ (.slice a n cap))).cell 12 (.bool fr2) rfl
  have d13 := (Box.new w (hdC ⟨kind, 0, 0, [], false, 0, 0, 0, false, true, row2, col2, fr2, fc2, txt⟩ (.slice a n cap))).cell 13 (.bool fc2) rfl
  have d14 := (Box.new w (hdC ⟨kind, 0, 0, [], false, 0, 0, 0, false, true, row2, col2, fr2, fc2, txt⟩ (.slice a n cap))).cell 14 (.string ⟨(txt : List UInt8).toArray⟩) rfl
  have d15 := (Box.new w (hdC ⟨kind, 0, 0, [], false, 0, 0, 0, false, true, row2, col2, fr2, fc2, txt⟩ (.slice a n cap))).cell 15 (.slice a n cap) rfl
  go_enter Tryz.func84, Tryz.ntmps84
  go_wp2
  go_ret
  exact ⟨rfl, (Below.refl _ _).alloc (Nat.le_refl _) _⟩
set_option maxHeartbeats 2000000 in
theorem empty_row2 (kind : Int) (row2 : Int) (col2 : Int) (fr2 : Bool) (fc2 : Bool) (txt : List UInt8) (q : (row2 == 0) = false) (a : Option Addr) (n cap : Nat) (w : World) :
    Calls Tryz.prog 84 #[.agg (hdC ⟨kind, 0, 0, [], false, 0, 0, 0, false, false, row2, col2, fr2, fc2, txt⟩ (.slice a n cap)).toArray] w fun e w' => e = .returned (.bool false) ∧ Below w.heap.size w w' := by
  have d1 := (Box.new w (hdC ⟨kind, 0, 0, [], false, 0, 0, 0, false, false, row2, col2, fr2, fc2, txt⟩ (.slice a n cap))).cell 1 (.int .i64 0) rfl
  have d2 := (Box.new w (hdC ⟨kind, 0, 0, [], false, 0, 0, 0, false, false, row2, col2, fr2, fc2, txt⟩ (.slice a n cap))).cell 2 (.int .i64 0) rfl
  have d3 := (Box.new w (hdC ⟨kind, 0, 0, [], false, 0, 0, 0, false, false, row2, col2, fr2, fc2, txt⟩ (.slice a n cap))).cell 3 (.string ⟨([] : List UInt8).toArray⟩) rfl
  have d4 := (Box.new w (hdC ⟨kind, 0, 0, [], false, 0, 0, 0, false, false, row2, col2, fr2, fc2, txt⟩ (.slice a n cap))).cell 4 (.bool false) rfl
  have d5 := (Box.new w (hdC ⟨kind, 0, 0, [], false, 0, 0, 0, false, false, row2, col2, fr2, fc2, txt⟩ (.slice a n cap))).cell 5 (.int .i64 0) rfl
  have d6 := (Box.new w (hdC ⟨kind, 0, 0, [], false, 0, 0, 0, false, false, row2, col2, fr2, fc2, txt⟩ (.slice a n cap))).cell 6 (.int .i64 0) rfl
  have d7 := (Box.new w (hdC ⟨kind, 0, 0, [], false, 0, 0, 0, false, false, row2, col2, fr2, fc2, txt⟩ (.slice a n cap))).cell 7 (.int .i64 0) rfl
  have d8 := (Box.new w (hdC ⟨kind, 0, 0, [], false, 0, 0, 0, false, false, row2, col2, fr2, fc2, txt⟩ (.slice a n cap))).cell 8 (.bool false) rfl
  have d9 := (Box.new w (hdC ⟨kind, 0, 0, [], false, 0, 0, 0, false, false, row2, col2, fr2, fc2, txt⟩ (.slice a n cap))).cell 9 (.bool false) rfl
  have d10 := (Box.new w (hdC ⟨kind, 0, 0, [], false, 0, 0, 0, false, false, row2, col2, fr2, fc2, txt⟩ (.slice a n cap))).cell 10 (.int .i64 row2) rfl
  have d11 := (Box.new w (hdC ⟨kind, 0, 0, [], false, 0, 0, 0, false, false, row2, col2, fr2, fc2, txt⟩ (.slice a n cap))).cell 11 (.int .i64 col2) rfl
  have d12 := (Box.new w (hdC ⟨kind, 0, 0, [], false, 0, 0, 0, false, false, row2, col2, fr2, fc2, txt⟩ (.slice a n cap))).cell 12 (.bool fr2) rfl
  have d13 := (Box.new w (hdC ⟨kind, 0, 0, [], false, 0, 0, 0, false, false, row2, col2, fr2, fc2, txt⟩ (.slice a n cap))).cell 13 (.bool fc2) rfl
  have d14 := (Box.new w (hdC ⟨kind, 0, 0, [], false, 0, 0, 0, false, false, row2, col2, fr2, fc2, txt⟩ (.slice a n cap))).cell 14 (.string ⟨(txt : List UInt8).toArray⟩) rfl
  have d15 := (Box.new w (hdC ⟨kind, 0, 0, [], false, 0, 0, 0, false, false, row2, col2, fr2, fc2, txt⟩ (.slice a n cap))).cell 15 (.slice a n cap) rfl
  go_enter Tryz.func84, Tryz.ntmps84
  go_wp2
  go_ret
  exact ⟨rfl, (Below.refl _ _).alloc (Nat.le_refl _) _⟩
set_option maxHeartbeats 2000000 in
theorem empty_col2 (kind : Int) (col2 : Int) (fr2 : Bool) (fc2 : Bool) (txt : List UInt8) (q : (col2 == 0) = false) (a : Option Addr) (n cap : Nat) (w : World) :
    Calls Tryz.prog 84 #[.agg (hdC ⟨kind, 0, 0, [], false, 0, 0, 0, false, false, 0, col2, fr2, fc2, txt⟩ (.slice a n cap)).toArray] w fun e w' => e = .returned (.bool false) ∧ Below w.heap.size w w' := by
  have d1 := (Box.new w (hdC ⟨kind, 0, 0, [], false, 0, 0, 0, false, false, 0, col2, fr2, fc2, txt⟩ (.slice a n cap))).cell 1 (.int .i64 0) rfl
  have d2 := (Box.new w (hdC ⟨kind, 0, 0, [], false, 0, 0, 0, false, false, 0, col2, fr2, fc2, txt⟩ (.slice a n cap))).cell 2 (.int .i64 0) rfl
  have d3 := (Box.new w (hdC ⟨kind, 0, 0, [], false, 0, 0, 0, false, false, 0, col2, fr2, fc2, txt⟩ (.slice a n cap))).cell 3 (.string ⟨([] : List UInt8).toArray⟩) rfl
  have d4 := (Box.new w (hdC ⟨kind, 0, 0, [], false, 0, 0, 0, false, false, 0, col2, fr2, fc2, txt⟩ (.slice a n cap))).cell 4 (.bool false) rfl
  have d5 := (Box.new w (hdC ⟨kind, 0, 0, [], false, 0, 0, 0, false, false, 0, col2, fr2, fc2, txt⟩ (.slice a n cap))).cell 5 (.int .i64 0) rfl
  have d6 := (Box.new w (hdC ⟨kind, 0, 0, [], false, 0, 0, 0, false, false, 0, col2, fr2, fc2, txt⟩ (.slice a n cap))).cell 6 (.int .i64 0) rfl
  have d7 := (Box.new w (hdC ⟨kind, 0, 0, [], false, 0, 0, 0, false, false, 0, col2, fr2, fc2, txt⟩ (.slice a n cap))).cell 7 (.int .i64 0) rfl
  have d8 := (Box.new w (hdC ⟨kind, 0, 0, [], false, 0, 0, 0, false, false, 0, col2, fr2, fc2, txt⟩ (.slice a n cap))).cell 8 (.bool false) rfl
  have d9 := (Box.new w (hdC ⟨kind, 0, 0, [], false, 0, 0, 0, false, false, 0, col2, fr2, fc2, txt⟩ (.slice a n cap))).cell 9 (.bool false) rfl
  have d10 := (Box.new w (hdC ⟨kind, 0, 0, [], false, 0, 0, 0, false, false, 0, col2, fr2, fc2, txt⟩ (.slice a n cap))).cell 10 (.int .i64 0) rfl
  have d11 := (Box.new w (hdC ⟨kind, 0, 0, [], false, 0, 0, 0, false, false, 0, col2, fr2, fc2, txt⟩ (.slice a n cap))).cell 11 (.int .i64 col2) rfl
  have d12 := (Box.new w (hdC ⟨kind, 0, 0, [], false, 0, 0, 0, false, false, 0, col2, fr2, fc2, txt⟩ (.slice a n cap))).cell 12 (.bool fr2) rfl
  have d13 := (Box.new w (hdC ⟨kind, 0, 0, [], false, 0, 0, 0, false, false, 0, col2, fr2, fc2, txt⟩ (.slice a n cap))).cell 13 (.bool fc2) rfl
  have d14 := (Box.new w (hdC ⟨kind, 0, 0, [], false, 0, 0, 0, false, false, 0, col2, fr2, fc2, txt⟩ (.slice a n cap))).cell 14 (.string ⟨(txt : List UInt8).toArray⟩) rfl
  have d15 := (Box.new w (hdC ⟨kind, 0, 0, [], false, 0, 0, 0, false, false, 0, col2, fr2, fc2, txt⟩ (.slice a n cap))).cell 15 (.slice a n cap) rfl
  go_enter Tryz.func84, Tryz.ntmps84
  go_wp2
  go_ret
  exact ⟨rfl, (Below.refl _ _).alloc (Nat.le_refl _) _⟩
set_option maxHeartbeats 2000000 in
theorem empty_fr2 (kind : Int) (fc2 : Bool) (txt : List UInt8) (a : Option Addr) (n cap : Nat) (w : World) :
    Calls Tryz.prog 84 #[.agg (hdC ⟨kind, 0, 0, [], false, 0, 0, 0, false, false, 0, 0, true, fc2, txt⟩ (.slice a n cap)).toArray] w fun e w' => e = .returned (.bool false) ∧ Below w.heap.size w w' := by
  have d1 := (Box.new w (hdC ⟨kind, 0, 0, [], false, 0, 0, 0, false, false, 0, 0, true, fc2, txt⟩ (.slice a n cap))).cell 1 (.int .i64 0) rfl
  have d2 := (Box.new w (hdC ⟨kind, 0, 0, [], false, 0, 0, 0, false, false, 0, 0, true, fc2, txt⟩ (.slice a n cap))).cell 2 (.int .i64 0) rfl
  have d3 := (Box.new w (hdC ⟨kind, 0, 0, [], false, 0, 0, 0, false, false, 0, 0, true, fc2, txt⟩ (.slice a n cap))).cell 3 (.string ⟨([] : List UInt8).toArray⟩) rfl
  have d4 := (Box.new w (hdC ⟨kind, 0, 0, [], false, 0, 0, 0, false, false, 0, 0, true, fc2, txt⟩ (.slice a n cap))).cell 4 (.bool false) rfl
  have d5 := (Box.new w (hdC ⟨kind, 0, 0, [], false, 0, 0, 0, false, false, 0, 0, true, fc2, txt⟩ (.slice a n cap))).cell 5 (.int .i64 0) rfl
  have d6 := (Box.new w (hdC ⟨kind, 0, 0, [], false, 0, 0, 0, false, false, 0, 0, true, fc2, txt⟩ (.slice a n cap))).cell 6 (.int .i64 0) rfl
  have d7 := (Box.new w (hdC ⟨kind, 0, 0, [], false, 0, 0, 0, false, false, 0, 0, true, fc2, txt⟩ (.slice a n cap))).cell 7 (.int .i64 0) rfl
  have d8 := (Box.new w (hdC ⟨kind, 0, 0, [], false, 0, 0, 0, false, false, 0, 0, true, fc2, txt⟩ (.slice a n cap))).cell 8 (.bool false) rfl
  have d9 := (Box.new w (hdC ⟨kind, 0, 0, [], false, 0, 0, 0, false, false, 0, 0, true, fc2, txt⟩ (.slice a n cap))).cell 9 (.bool false) rfl
  have d10 := (Box.new w (hdC ⟨kind, 0, 0, [], false, 0, 0, 0, false, false, 0, 0, true, fc2, txt⟩ (.slice a n cap))).cell 10 (.int .i64 0) rfl
  have d11 := (Box.new w (hdC ⟨kind, 0, 0, [], false, 0, 0, 0, false, false, 0, 0, true, fc2, txt⟩ (.slice a n cap))).cell 11 (.int .i64 0) rfl
  have d12 := (Box.new w (hdC ⟨kind, 0, 0, [], false, 0, 0, 0, false, false, 0, 0, true, fc2, txt⟩ (.slice a n cap))).cell 12 (.bool true) rfl
  have d13 := (Box.new w (hdC ⟨kind, 0, 0, [], false, 0, 0, 0, false, false, 0, 0, true, fc2, txt⟩ (.slice a n cap))).cell 13 (.bool fc2) rfl
  have d14 := (Box.new w (hdC ⟨kind, 0, 0, [], false, 0, 0, 0, false, false, 0, 0, true, fc2, txt⟩ (.slice a n cap))).cell 14 (.string ⟨(txt : List UInt8).toArray⟩) rfl
  have d15 := (Box.new w (hdC ⟨kind, 0, 0, [], false, 0, 0, 0, false, false, 0, 0, true, fc2, txt⟩ (.slice a n cap))).cell 15 (.slice a n cap) rfl
  go_enter Tryz.func84, Tryz.ntmps84
  go_wp2
  go_ret
  exact ⟨rfl, (Below.refl _ _).alloc (Nat.le_refl _) _⟩
set_option maxHeartbeats 2000000 in
theorem empty_fc2 (kind : Int) (txt : List UInt8) (a : Option Addr) (n cap : Nat) (w : World) :
    Calls Tryz.prog 84 #[.agg (hdC ⟨kind, 0, 0, [], false, 0, 0, 0, false, false, 0, 0, false, true, txt⟩ (.slice a n cap)).toArray] w fun e w' => e = .returned (.bool false) ∧ Below w.heap.size w w' := by
  have d1 := (Box.new w (hdC ⟨kind, 0, 0, [], false, 0, 0, 0, false, false, 0, 0, false, true, txt⟩ (.slice a n cap))).cell 1 (.int .i64 0) rfl
  have d2 := (Box.new w (hdC ⟨kind, 0, 0, [], false, 0, 0, 0, false, false, 0, 0, false, true, txt⟩ (.slice a n cap))).cell 2 (.int .i64 0) rfl
  have d3 := (Box.new w (hdC ⟨kind, 0, 0, [], false, 0, 0, 0, false, false, 0, 0, false, true, txt⟩ (.slice a n cap))).cell 3 (.string ⟨([] : List UInt8).toArray⟩) rfl
  have d4 := (Box.new w (hdC ⟨kind, 0, 0, [], false, 0, 0, 0, false, false, 0, 0, false, true, txt⟩ (.slice a n cap))).cell 4 (.bool false) rfl
  have d5 := (Box.new w (hdC ⟨kind, 0, 0, [], false, 0, 0, 0, false, false, 0, 0, false, true, txt⟩ (.slice a n cap))).cell 5 (.int .i64 0) rfl
  have d6 := (Box.new w (hdC ⟨kind, 0, 0, [], false, 0, 0, 0, false, false, 0, 0, false, true, txt⟩ (.slice a n cap))).cell 6 (.int .i64 0) rfl
  have d7 := (Box.new w (hdC ⟨kind, 0, 0, [], false, 0, 0, 0, false, false, 0, 0, false, true, txt⟩ (.slice a n cap))).cell 7 (.int .i64 0) rfl
  have d8 := (Box.new w (hdC ⟨kind, 0, 0, [], false, 0, 0, 0, false, false, 0, 0, false, true, txt⟩ (.slice a n cap))).cell 8 (.bool false) rfl
  have d9 := (Box.new w (hdC ⟨kind, 0, 0, [], false, 0, 0, 0, false, false, 0, 0, false, true, txt⟩ (.slice a n cap))).cell 9 (.bool false) rfl
  have d10 := (Box.new w (hdC ⟨kind, 0, 0, [], false, 0, 0, 0, false, false, 0, 0, false, true, txt⟩ (.slice a n cap))).cell 10 (.int .i64 0) rfl
  have d11 := (Box.new w (hdC ⟨kind, 0, 0, [], false, 0, 0, 0, false, false, 0, 0, false, true, txt⟩ (.slice a n cap))).cell 11 (.int .i64 0) rfl
  have d12 := (Box.new w (hdC ⟨kind, 0, 0, [], false, 0, 0, 0, false, false, 0, 0, false, true, txt⟩ (.slice a n cap))).cell 12 (.bool false) rfl
  have d13 := (Box.new w (hdC ⟨kind, 0, 0, [], false, 0, 0, 0, false, false, 0, 0, false, true, txt⟩ (.slice a n cap))).cell 13 (.bool true) rfl
  have d14 := (Box.new w (hdC ⟨kind, 0, 0, [], false, 0, 0, 0, false, false, 0, 0, false, true, txt⟩ (.slice a n cap))).cell 14 (.string ⟨(txt : List UInt8).toArray⟩) rfl
  have d15 := (Box.new w (hdC ⟨kind, 0, 0, [], false, 0, 0, 0, false, false, 0, 0, false, true, txt⟩ (.slice a n cap))).cell 15 (.slice a n cap) rfl
  go_enter Tryz.func84, Tryz.ntmps84
  go_wp2
  go_ret
  exact ⟨rfl, (Below.refl _ _).alloc (Nat.le_refl _) _⟩
set_option maxHeartbeats 2000000 in
theorem empty_txt (kind : Int) (txt : List UInt8) (q : (txt == []) = false) (a : Option Addr) (n cap : Nat) (w : World) :
    Calls Tryz.prog 84 #[.agg (hdC ⟨kind, 0, 0, [], false, 0, 0, 0, false, false, 0, 0, false, false, txt⟩ (.slice a n cap)).toArray] w fun e w' => e = .returned (.bool false) ∧ Below w.heap.size w w' := by
  have d1 := (Box.new w (hdC ⟨kind, 0, 0, [], false, 0, 0, 0, false, false, 0, 0, false, false, txt⟩ (.slice a n cap))).cell 1 (.int .i64 0) rfl
  have d2 := (Box.new w (hdC ⟨kind, 0, 0, [], false, 0, 0, 0, false, false, 0, 0, false, false, txt⟩ (.slice a n cap))).cell 2 (.int .i64 0) rfl
  have d3 := (Box.new w (hdC ⟨kind, 0, 0, [], false, 0, 0, 0, false, false, 0, 0, false, false, txt⟩ (.slice a n cap))).cell 3 (.string ⟨([] : List UInt8).toArray⟩) rfl
  have d4 := (Box.new w (hdC ⟨kind, 0, 0, [], false, 0, 0, 0, false, false, 0, 0, false, false, txt⟩ (.slice a n cap))).cell 4 (.bool false) rfl
  have d5 := (Box.new w (hdC ⟨kind, 0, 0, [], false, 0, 0, 0, false, false, 0, 0, false, false, txt⟩ (.slice a n cap))).cell 5 (.int .i64 0) rfl
  have d6 := (Box.new w (hdC ⟨kind, 0, 0, [], false, 0, 0, 0, false, false, 0, 0, false, false, txt⟩ (.slice a n cap))).cell 6 (.int .i64 0) rfl
  have d7 := (Box.new w (hdC ⟨kind, 0, 0, [], false, 0, 0, 0, false, false, 0, 0, false, false, txt⟩ (.slice a n cap))).cell 7 (.int .i64 0) rfl
  have d8 := (Box.new w (hdC ⟨kind, 0, 0, [], false, 0, 0, 0, false, false, 0, 0, false, false, txt⟩ (.slice a n cap))).cell 8 (.bool false) rfl
  have d9 := (Box.new w (hdC ⟨kind, 0, 0, [], false, 0, 0, 0, false, false, 0, 0, false, false, txt⟩ (.slice a n cap))).cell 9 (.bool false) rfl
  have d10 := (Box.new w (hdC ⟨kind, 0, 0, [], false, 0, 0, 0, false, false, 0, 0, false, false, txt⟩ (.slice a n cap))).cell 10 (.int .i64 0) rfl
  have d11 := (Box.new w (hdC ⟨kind, 0, 0, [], false, 0, 0, 0, false, false, 0, 0, false, false, txt⟩ (.slice a n cap))).cell 11 (.int .i64 0) rfl
  have d12 := (Box.new w (hdC ⟨kind, 0, 0, [], false, 0, 0, 0, false, false, 0, 0, false, false, txt⟩ (.slice a n cap))).cell 12 (.bool false) rfl
  have d13 := (Box.new w (hdC ⟨kind, 0, 0, [], false, 0, 0, 0, false, false, 0, 0, false, false, txt⟩ (.slice a n cap))).cell 13 (.bool false) rfl
  have d14 := (Box.new w (hdC ⟨kind, 0, 0, [], false, 0, 0, 0, false, false, 0, 0, false, false, txt⟩ (.slice a n cap))).cell 14 (.string ⟨(txt : List UInt8).toArray⟩) rfl
  have d15 := (Box.new w (hdC ⟨kind, 0, 0, [], false, 0, 0, 0, false, false, 0, 0, false, false, txt⟩ (.slice a n cap))).cell 15 (.slice a n cap) rfl
  go_enter Tryz.func84, Tryz.ntmps84
  go_wp2
  go_ret
  exact ⟨rfl, (Below.refl _ _).alloc (Nat.le_refl _) _⟩
set_option maxHeartbeats 2000000 in
theorem empty_kids (kind : Int) (a : Option Addr) (n cap : Nat) (w : World) (q : ((n : Int) == 0) = false) :
    Calls Tryz.prog 84 #[.agg (hdC ⟨kind, 0, 0, [], false, 0, 0, 0, false, false, 0, 0, false, false, []⟩ (.slice a n cap)).toArray] w fun e w' => e = .returned (.bool false) ∧ Below w.heap.size w w' := by
  have d1 := (Box.new w (hdC ⟨kind, 0, 0, [], false, 0, 0, 0, false, false, 0, 0, false, false, []⟩ (.slice a n cap))).cell 1 (.int .i64 0) rfl
  have d2 := (Box.new w (hdC ⟨kind, 0, 0, [], false, 0, 0, 0, false, false, 0, 0, false, false, []⟩ (.slice a n cap))).cell 2 (.int .i64 0) rfl
  have d3 := (Box.new w (hdC ⟨kind, 0, 0, [], false, 0, 0, 0, false, false, 0, 0, false, false, []⟩ (.slice a n cap))).cell 3 (.string ⟨([] : List UInt8).toArray⟩) rfl
  have d4 := (Box.new w (hdC ⟨kind, 0, 0, [], false, 0, 0, 0, false, false, 0, 0, false, false, []⟩ (.slice a n cap))).cell 4 (.bool false) rfl
  have d5 := (Box.new w (hdC ⟨kind, 0, 0, [], false, 0, 0, 0, false, false, 0, 0, false, false, []⟩ (.slice a n cap))).cell 5 (.int .i64 0) rfl
  have d6 := (Box.new w (hdC ⟨kind, 0, 0, [], false, 0, 0, 0, false, false, 0, 0, false, false, []⟩ (.slice a n cap))).cell 6 (.int .i64 0) rfl
  have d7 := (Box.new w (hdC ⟨kind, 0, 0, [], false, 0, 0, 0, false, false, 0, 0, false, false, []⟩ (.slice a n cap))).cell 7 (.int .i64 0) rfl
  have d8 := (Box.new w (hdC ⟨kind, 0, 0, [], false, 0, 0, 0, false, false, 0, 0, false, false, []⟩ (.slice a n cap))).cell 8 (.bool false) rfl
  have d9 := (Box.new w (hdC ⟨kind, 0, 0, [], false, 0, 0, 0, false, false, 0, 0, false, false, []⟩ (.slice a n cap))).cell 9 (.bool false) rfl
  have d10 := (Box.new w (hdC ⟨kind, 0, 0, [], false, 0, 0, 0, false, false, 0, 0, false, false, []⟩ (.slice a n cap))).cell 10 (.int .i64 0) rfl
  have d11 := (Box.new w (hdC ⟨kind, 0, 0, [], false, 0, 0, 0, false, false, 0, 0, false, false, []⟩ (.slice a n cap))).cell 11 (.int .i64 0) rfl
  have d12 := (Box.new w (hdC ⟨kind, 0, 0, [], false, 0, 0, 0, false, false, 0, 0, false, false, []⟩ (.slice a n cap))).cell 12 (.bool false) rfl
  have d13 := (Box.new w (hdC ⟨kind, 0, 0, [], false, 0, 0, 0, false, false, 0, 0, false, false, []⟩ (.slice a n cap))).cell 13 (.bool false) rfl
  have d14 := (Box.new w (hdC ⟨kind, 0, 0, [], false, 0, 0, 0, false, false, 0, 0, false, false, []⟩ (.slice a n cap))).cell 14 (.string ⟨([] : List UInt8).toArray⟩) rfl
  have d15 := (Box.new w (hdC ⟨kind, 0, 0, [], false, 0, 0, 0, false, false, 0, 0, false, false, []⟩ (.slice a n cap))).cell 15 (.slice a n cap) rfl
  go_enter Tryz.func84, Tryz.ntmps84
  go_wp2
  go_ret
  exact ⟨rfl, (Below.refl _ _).alloc (Nat.le_refl _) _⟩
set_option maxHeartbeats 2000000 in
theorem empty_yes (kind : Int) (a : Option Addr) (cap : Nat) (w : World) :
    Calls Tryz.prog 84 #[.agg (hdC ⟨kind, 0, 0, [], false, 0, 0, 0, false, false, 0, 0, false, false, []⟩ (.slice a 0 cap)).toArray] w fun e w' => e = .returned (.bool true) ∧ Below w.heap.size w w' := by
  have d1 := (Box.new w (hdC ⟨kind, 0, 0, [], false, 0, 0, 0, false, false, 0, 0, false, false, []⟩ (.slice a 0 cap))).cell 1 (.int .i64 0) rfl
  have d2 := (Box.new w (hdC ⟨kind, 0, 0, [], false, 0, 0, 0, false, false, 0, 0, false, false, []⟩ (.slice a 0 cap))).cell 2 (.int .i64 0) rfl
  have d3 := (Box.new w (hdC ⟨kind, 0, 0, [], false, 0, 0, 0, false, false, 0, 0, false, false, []⟩ (.slice a 0 cap))).cell 3 (.string ⟨([] : List UInt8).toArray⟩) rfl
  have d4 := (Box.new w (hdC ⟨kind, 0, 0, [], false, 0, 0, 0, false, false, 0, 0, false, false, []⟩ (.slice a 0 cap))).cell 4 (.bool false) rfl
  have d5 := (Box.new w (hdC ⟨kind, 0, 0, [], false, 0, 0, 0, false, false, 0, 0, false, false, []⟩ (.slice a 0 cap))).cell 5 (.int .i64 0) rfl
  have d6 := (Box.new w (hdC ⟨kind, 0, 0, [], false, 0, 0, 0, false, false, 0, 0, false, false, []⟩ (.slice a 0 cap))).cell 6 (.int .i64 0) rfl
  have d7 := (Box.new w (hdC ⟨kind, 0, 0, [], false, 0, 0, 0, false, false, 0, 0, false, false, []⟩ (.slice a 0 cap))).cell 7 (.int .i64 0) rfl
  have d8 := (Box.new w (hdC ⟨kind, 0, 0, [], false, 0, 0, 0, false, false, 0, 0, false, false, []⟩ (.slice a 0 cap))).cell 8 (.bool false) rfl
  have d9 := (Box.new w (hdC ⟨kind, 0, 0, [], false, 0, 0, 0, false, false, 0, 0, false, false, []⟩ (.slice a 0 cap))).cell 9 (.bool false) rfl
  have d10 := (Box.new w (hdC ⟨kind, 0, 0, [], false, 0, 0, 0, false, false, 0, 0, false, false, []⟩ (.slice a 0 cap))).cell 10 (.int .i64 0) rfl
  have d11 := (Box.new w (hdC ⟨kind, 0, 0, [], false, 0, 0, 0, false, false, 0, 0, false, false, []⟩ (.slice a 0 cap))).cell 11 (.int .i64 0) rfl
  have d12 := (Box.new w (hdC ⟨kind, 0, 0, [], false, 0, 0, 0, false, false, 0, 0, false, false, []⟩ (.slice a 0 cap))).cell 12 (.bool false) rfl
  have d13 := (Box.new w (hdC ⟨kind, 0, 0, [], false, 0, 0, 0, false, false, 0, 0, false, false, []⟩ (.slice a 0 cap))).cell 13 (.bool false) rfl
  have d14 := (Box.new w (hdC ⟨kind, 0, 0, [], false, 0, 0, 0, false, false, 0, 0, false, false, []⟩ (.slice a 0 cap))).cell 14 (.string ⟨([] : List UInt8).toArray⟩) rfl
  have d15 := (Box.new w (hdC ⟨kind, 0, 0, [], false, 0, 0, 0, false, false, 0, 0, false, false, []⟩ (.slice a 0 cap))).cell 15 (.slice a 0 cap) rfl
  go_enter Tryz.func84, Tryz.ntmps84
  go_wp2
  go_ret
  exact ⟨rfl, (Below.refl _ _).alloc (Nat.le_refl _) _⟩
theorem isEmpty_any (h : Hd) (a : Option Addr) (n cap : Nat) (w : World) :
    Calls Tryz.prog 84 #[.agg (hdC h (.slice a n cap)).toArray] w fun e w' => e = .returned (.bool (emptyB h n)) ∧ Below w.heap.size w w' := by
  obtain ⟨kind, vk, vn, vs, vb, vc, row, col, fr, fc, row2, col2, fr2, fc2, txt⟩ := h
  by_cases h_vk : vk = 0
  case neg =>
    rw [show emptyB _ n = false by simp [emptyB, noVal, noCell, noTo, h_vk]]
    exact empty_vk kind vk vn vs vb vc row col fr fc row2 col2 fr2 fc2 txt (by simpa using h_vk) a n cap w
  subst h_vk
  by_cases h_vn : vn = 0
  case neg =>
    rw [show emptyB _ n = false by simp [emptyB, noVal, noCell, noTo, h_vn]]
    exact empty_vn kind vn vs vb vc row col fr fc row2 col2 fr2 fc2 txt (by simpa using h_vn) a n cap w
  subst h_vn
  by_cases h_vs : vs = []
  case neg =>
    rw [show emptyB _ n = false by simp [emptyB, noVal, noCell, noTo, h_vs]]
    exact empty_vs kind vs vb vc row col fr fc row2 col2 fr2 fc2 txt (by simpa using h_vs) a n cap w
  subst h_vs
  cases vb with
  | true =>
    rw [show emptyB _ n = false by simp [emptyB, noVal, noCell, noTo]]
    exact empty_vb kind vc row col fr fc row2 col2 fr2 fc2 txt a n cap w
  | false =>
  by_cases h_vc : vc = 0
  case neg =>
    rw [show emptyB _ n = false by simp [emptyB, noVal, noCell, noTo, h_vc]]
    exact empty_vc kind vc row col fr fc row2 col2 fr2 fc2 txt (by simpa using h_vc) a n cap w
  subst h_vc
  by_cases h_row : row = 0
  case neg =>
    rw [show emptyB _ n = false by simp [emptyB, noVal, noCell, noTo, h_row]]
    exact empty_row kind row col fr fc row2 col2 fr2 fc2 txt (by simpa using h_row) a n cap w
  subst h_row
  by_cases h_col : col = 0
  case neg =>
    rw [show emptyB _ n = false by simp [emptyB, noVal, noCell, noTo, h_col]]
    exact empty_col kind col fr fc row2 col2 fr2 fc2 txt (by simpa using h_col) a n cap w
  subst h_col
  cases fr with
  | true =>
    rw [show emptyB _ n = false by simp [emptyB, noVal, noCell, noTo]]
    exact empty_fr kind fc row2 col2 fr2 fc2 txt a n cap w
  | false =>
  cases fc with
  | true =>
    rw [show emptyB _ n = false by simp [emptyB, noVal, noCell, noTo]]
    exact empty_fc kind row2 col2 fr2 fc2 txt a n cap w
  | false =>
  by_cases h_row2 : row2 = 0
  case neg =>
    rw [show emptyB _ n = false by simp [emptyB, noVal, noCell, noTo, h_row2]]
    exact empty_row2 kind row2 col2 fr2 fc2 txt (by simpa using h_row2) a n cap w
  subst h_row2
  by_cases h_col2 : col2 = 0
  case neg =>
    rw [show emptyB _ n = false by simp [emptyB, noVal, noCell, noTo, h_col2]]
    exact empty_col2 kind col2 fr2 fc2 txt (by simpa using h_col2) a n cap w
  subst h_col2
  cases fr2 with
  | true =>
    rw [show emptyB _ n = false by simp [emptyB, noVal, noCell, noTo]]
    exact empty_fr2 kind fc2 txt a n cap w
  | false =>
  cases fc2 with
  | true =>
    rw [show emptyB _ n = false by simp [emptyB, noVal, noCell, noTo]]
    exact empty_fc2 kind txt a n cap w
  | false =>
  by_cases h_txt : txt = []
  case neg =>
    rw [show emptyB _ n = false by simp [emptyB, noVal, noCell, noTo, h_txt]]
    exact empty_txt kind txt (by simpa using h_txt) a n cap w
  subst h_txt
  by_cases hn : n = 0
  · subst hn
    exact empty_yes kind a cap w
  · rw [show emptyB _ n = false by simp [emptyB, noVal, noCell, noTo, hn]]
    exact empty_kids kind a n cap w (by simpa using hn)
end
end Go.Proofs.YtklldmidcmfbdaaGreatDoor
