/-
  strs' repeated and lowered.
-/
import Derived.Test.YthooimaadgabiabDoorSt1
import Derived.LoopTactic
namespace Go.Proofs.YthooimaadgabiabDoor
open Go.RowKit
set_option linter.unusedSimpArgs false

theorem rpL_le (s : By) {k n : Nat} (h : k ≤ n) : (rpL s k).length ≤ (rpL s n).length := by
  rw [rpL_len, rpL_len]; exact Nat.mul_le_mul_left _ h
set_option maxRecDepth 100000 in
set_option maxHeartbeats 2000000 in
theorem repeated_any (s : By) (n : Int) (w : World) (hs : s.length ≤ 255) (h0 : 0 ≤ n) (hn : n ≤ 9223372036854775807) :
    Calls Tryd.prog 31 #[.string ⟨s.toArray⟩, .int .i64 n] w fun e w' => e = endT (if s = [] then some [] else capS (rpL s n.toNat)) ∧ Below w.heap.size w w' := by
  obtain ⟨N, rfl⟩ : ∃ N : Nat, n = N := ⟨n.toNat, by omega⟩
  rw [Int.toNat_natCast]
  have sz := mk_size s
  by_cases he : s = []
  · rw [if_pos he]
    subst he
    have hne : (⟨([] : By).toArray⟩ : ByteArray).toList.isEmpty = true := by rw [Lib.toList_data]; rfl
    go_enter Tryd.func31, Tryd.ntmps31
    go_wp2
    go_ret
    exact ⟨rfl, Below.refl _ _⟩
  rw [if_neg he]
  have hpos : 0 < s.length := List.length_pos_iff.2 he
  have hne : List.isEmpty s = false := by simpa using he
  obtain ⟨Z, hZ⟩ : ∃ Z, capS (rpL s N) = Z := ⟨_, rfl⟩
  rw [hZ]
  have HZ := hide hZ
  have HN := hide (row_new w)
  have HB0 : Hid (Below w.heap.size w (w.alloc (.cells #[.slice none 0 0] 58))) := hide ((Below.refl _ w).alloc (Nat.le_refl _) _)
  clear hZ he
  go_enter Tryd.func31, Tryd.ntmps31
  go_wp2
  go_loopw [9] (fun iv wr => ∃ k : Nat, k ≤ N ∧ iv = .int .i64 k ∧ RowIs (w.heap.size + 1) w.heap.size wr (rpL s k) ∧ Kp (w.heap.size + 1) w.heap.size (w.alloc (.cells #[.slice none 0 0] 58)) wr ∧ (rpL s k).length ≤ 255) (fun iv _ => N - (intOf iv).toNat)
  case atStart => exact ⟨0, Nat.zero_le _, rfl, HN.out, Kp.refl _ _ _, Nat.zero_le _⟩
  case round =>
    obtain ⟨k, hk, rfl, hr, hkp, hle⟩ := hrel
    have HR := hide hr
    have HK := hide hkp
    have hsz : w.heap.size + 1 ≤ wr.heap.size := by have := hkp.size; simpa using this
    have HB : Hid (Below w.heap.size w wr) := HB0.out.trans (hkp.below (Nat.le_succ _) (Nat.le_refl _))
    have hk2 : (rpL s (k + 1)).length = (rpL s k).length + s.length := by rw [rpL, List.length_append]
    clear hr hkp
    by_cases hlt : k < N
    · have g1 : (k : Int) < (N : Int) := by omega
      by_cases hs2 : (rpL s k).length + s.length ≤ 255
      · have HP : Hid (∀ W : World, Below wr.heap.size wr W → Calls Tryd.prog 45 #[.pointer (some ⟨w.heap.size, 0, none⟩), .string ⟨s.toArray⟩] W fun e w' => e = .returned (.tuple #[]) ∧ RowIs (w.heap.size + 1) w.heap.size w' (rpL s k ++ s) ∧ Kp (w.heap.size + 1) w.heap.size W w') := fun W hW => put_ok _ _ _ _ W (HR.out.below hW) (Nat.le_trans hsz hW.size) hs2
        have HL : Hid ((rpL s (k + 1)).length ≤ 255) := by show _ ≤ _; rw [hk2]; exact hs2
        clear hk2 hs2 hle
        generalize (⟨s.toArray⟩ : ByteArray) = X at *
        go_wp2_with (go_at_call 45; refine (HP.out _ (by repeat' (first | with_reducible exact Below.refl _ _ | with_reducible refine Below.setCell ?_ ?_ _ | with_reducible refine Below.alloc ?_ ?_ _ | with_reducible refine below_drewN ?_ _ | with_reducible refine Below.drew ?_ | with_reducible refine Below.trans ?_ (Below.mono (by assumption) ?_) | with_reducible exact Nat.le_refl _ | with_reducible refine Nat.le_trans ?_ (Below.size (by assumption)) | with_reducible refine Nat.le_trans ?_ (size_alloc _ _) | with_reducible refine Nat.le_trans ?_ (size_set _ _ _) | with_reducible refine Nat.le_trans ?_ (size_drewN _ _) | with_reducible refine Nat.le_trans ?_ (size_drew _) | (simp; done) | (simp; omega) | omega))).mono ?_; rintro e w1 ⟨rfl, h1, h2⟩; have H1 := hide h1; have H2 := hide h2; clear h1 h2)
        go_roundw
        case rel => exact ⟨k + 1, by omega, by go_num, H1.out, HK.out.trans H2.out, HL.out⟩
        case measure => simp [intOf]; omega
      · have HP : Hid (∀ W : World, Below wr.heap.size wr W → Calls Tryd.prog 45 #[.pointer (some ⟨w.heap.size, 0, none⟩), .string ⟨s.toArray⟩] W fun e w' => e = .panicked RF ∧ w' = W) := fun W hW => put_no _ _ _ _ W (HR.out.below hW) hle (by omega)
        have HZ2 : Hid (Z = none) := HZ.out.symm.trans (cap_no (by have := rpL_le s (show k + 1 ≤ N by omega); omega))
        clear hk2 hs2 hle
        generalize (⟨s.toArray⟩ : ByteArray) = X at *
        go_wp2_with (go_at_call 45; refine (HP.out _ (by repeat' (first | with_reducible exact Below.refl _ _ | with_reducible refine Below.setCell ?_ ?_ _ | with_reducible refine Below.alloc ?_ ?_ _ | with_reducible refine below_drewN ?_ _ | with_reducible refine Below.drew ?_ | with_reducible refine Below.trans ?_ (Below.mono (by assumption) ?_) | with_reducible exact Nat.le_refl _ | with_reducible refine Nat.le_trans ?_ (Below.size (by assumption)) | with_reducible refine Nat.le_trans ?_ (size_alloc _ _) | with_reducible refine Nat.le_trans ?_ (size_set _ _ _) | with_reducible refine Nat.le_trans ?_ (size_drewN _ _) | with_reducible refine Nat.le_trans ?_ (size_drew _) | (simp; done) | (simp; omega) | omega))).mono ?_; rintro e w1 ⟨rfl, rfl⟩)
        rw [HZ2.out]
        exact ⟨rfl, rfl, by first | exact HB.out | exact HB.out.trans (by repeat' (first | with_reducible exact Below.refl _ _ | with_reducible refine Below.setCell ?_ ?_ _ | with_reducible refine Below.alloc ?_ ?_ _ | with_reducible refine below_drewN ?_ _ | with_reducible refine Below.drew ?_ | with_reducible refine Below.trans ?_ (Below.mono (by assumption) ?_) | with_reducible exact Nat.le_refl _ | with_reducible refine Nat.le_trans ?_ (Below.size (by assumption)) | with_reducible refine Nat.le_trans ?_ (size_alloc _ _) | with_reducible refine Nat.le_trans ?_ (size_set _ _ _) | with_reducible refine Nat.le_trans ?_ (size_drewN _ _) | with_reducible refine Nat.le_trans ?_ (size_drew _) | (simp; done) | (simp; omega) | omega))⟩
    · have hkl : k = N := by omega
      subst hkl
      have HZ2 : Hid (Z = some (rpL s k)) := HZ.out.symm.trans (cap_yes hle)
      have hr := HR.out
      obtain ⟨v, hr⟩ := hr
      obtain ⟨pv, cv, rfl⟩ := hr.slice
      have hb := row_back hr
      have c0 := hr.cell
      have g1 : ¬ (k : Int) < (k : Int) := by omega
      clear hr hle hk2 hlt
      generalize rpL s k = T at *
      go_wp2
      go_ret
      rw [HZ2.out]
      exact ⟨rfl, HB.out⟩
/-- The first k bytes of a text in small letters. -/
def loTo (s : By) (k : Nat) : By := (s.take k).map loB ++ s.drop k
theorem loTo_zero (s : By) : loTo s 0 = s := by simp [loTo]
theorem loTo_len (s : By) (k : Nat) : (loTo s k).length = s.length := by simp [loTo]; omega
theorem loTo_at (s : By) (k : Nat) (h : k < s.length) : (loTo s k)[k]'(by rw [loTo_len]; exact h) = s[k] := by
  unfold loTo
  have : ((s.take k).map loB).length = k := by simp; omega
  rw [List.getElem_append_right (by omega)]
  simp only [this, Nat.sub_self]
  rw [List.getElem_drop]; simp
theorem loTo_step (s : By) (k : Nat) (h : k < s.length) : (loTo s k).set k (loB s[k]) = loTo s (k + 1) := by
  unfold loTo
  have hl : ((s.take k).map loB).length = k := by simp; omega
  rw [List.drop_eq_getElem_cons h, List.set_append_right _ _ (by omega), hl, Nat.sub_self, List.set_cons_zero, ← List.take_append_getElem h, List.map_append]
  simp only [List.map_cons, List.map_nil, List.append_assoc, List.cons_append, List.nil_append]
theorem loTo_keep (s : By) (k : Nat) (h : k < s.length) (hb : loB s[k] = s[k]) : loTo s (k + 1) = loTo s k := by
  unfold loTo
  rw [List.drop_eq_getElem_cons h, ← List.take_append_getElem h, List.map_append]
  simp only [List.map_cons, List.map_nil, List.append_assoc, List.cons_append, List.nil_append, hb]
theorem loTo_all (s : By) {k : Nat} (h : s.length ≤ k) : loTo s k = loL s := by
  unfold loTo loL
  rw [List.take_of_length_le h, List.drop_eq_nil_of_le h, List.append_nil]
theorem lo_in {c : UInt8} (h1 : 65 ≤ c.toNat) (h2 : c.toNat ≤ 90) : ((c.toNat : Int) - 65 + 97) = ((loB c).toNat : Int) := by
  unfold loB
  rw [if_pos ⟨h1, h2⟩]
  have : (c - 65 + 97).toNat = c.toNat + 32 := by
    rw [UInt8.toNat_add, UInt8.toNat_sub_of_le _ _ (by show (65 : UInt8).toNat ≤ c.toNat; exact h1)]
    have e1 : (65 : UInt8).toNat = 65 := rfl
    have e2 : (97 : UInt8).toNat = 97 := rfl
    omega
  omega
theorem lo_out {c : UInt8} (h : ¬ (65 ≤ c.toNat ∧ c.toNat ≤ 90)) : loB c = c := by unfold loB; rw [if_neg h]
set_option maxRecDepth 100000 in
set_option maxHeartbeats 2000000 in
theorem lowered_any (s : By) (w : World) (hs : s.length ≤ 255) :
    Calls Tryd.prog 29 #[.string ⟨s.toArray⟩] w fun e w' => e = .returned (.string ⟨(loL s).toArray⟩) ∧ Below w.heap.size w w' := by
  have sz := mk_size s
  obtain ⟨cap, w1, hconv, hb1, hr1, hz1⟩ := bytes_conv ⟨s.toArray⟩ w
  rw [mk_list] at hr1
  have HB1 := hide hb1
  have HR1 := hide hr1
  clear hb1 hr1
  generalize hS : (⟨s.toArray⟩ : ByteArray) = S at *
  clear hS
  go_enter Tryd.func29, Tryd.ntmps29
  go_wp2
  go_loopw [10] (fun i wr => ∃ k : Nat, k ≤ s.length ∧ i = .int .i64 k ∧ Below w.heap.size w wr ∧ RowB wr w.heap.size (loTo s k)) (fun i _ => s.length - (intOf i).toNat)
  case atStart => exact ⟨0, Nat.zero_le _, rfl, HB1.out, by rw [loTo_zero]; exact HR1.out⟩
  case round =>
    obtain ⟨k, hk, rfl, hb, hr⟩ := hrel
    have HB := hide hb
    have HR := hide hr
    clear hb hr hconv
    by_cases hlt : k < s.length
    · have g0 : (k : Int) < (s.length : Int) := by omega
      have hkf : k < (loTo s k).length := by rw [loTo_len]; exact hlt
      have HS := hide (loTo_step s k hlt)
      have HK := hide (loTo_keep s k hlt)
      have hcell := (HR.out.2 k hkf).1
      have hfz := (HR.out.2 k hkf).2
      rw [loTo_at _ k hlt] at hcell
      have hu : s[k].toNat < 256 := UInt8.toNat_lt _
      generalize s[k] = c at *
      have HF := hide hkf
      clear hkf
      by_cases h1 : (65 : Int) ≤ c.toNat
      · by_cases h2 : (c.toNat : Int) ≤ 90
        · go_wp2
          go_roundw
          case rel =>
            have e : ((c.toNat : Int) - 65 + 97) = ((loB c).toNat : Int) := lo_in (by omega) (by omega)
            exact ⟨k + 1, by omega, by go_num, HB.out.setCell (Nat.le_refl _) _, by rw [← HS.out, e]; exact HR.out.set HF.out _⟩
          case measure => simp [intOf]; omega
        · go_wp2
          go_roundw
          case rel => exact ⟨k + 1, by omega, by go_num, HB.out, by rw [HK.out (lo_out (by omega))]; exact HR.out⟩
          case measure => simp [intOf]; omega
      · go_wp2
        go_roundw
        case rel => exact ⟨k + 1, by omega, by go_num, HB.out, by rw [HK.out (lo_out (by omega))]; exact HR.out⟩
        case measure => simp [intOf]; omega
    · have hbk := fun cap => bytes_back wr w.heap.size cap s.length _ HR.out (by rw [loTo_len])
      have HA := hide (loTo_all s (k := k) (by omega))
      have g0 : ¬ (k : Int) < (s.length : Int) := by omega
      go_wp2
      go_ret
      exact ⟨by rw [← HA.out]; rfl, HB.out⟩
end Go.Proofs.YthooimaadgabiabDoor
