/-
  The answer's Replace, Join, Substitute and Trim.
-/
import Derived.Test.YthooimaadgabiaaDoorSt11
import Derived.Test.YthooimaadgabiaaDoorSt9
import Derived.Test.YthooimaadgabiaaDoorKVal3
import Derived.BigQuiet
import Derived.Deep.QuietTactic
namespace Go.Proofs.YthooimaadgabiaaDoor
open Go.RowKit
set_option linter.unusedSimpArgs false
set_option linter.unusedVariables false

set_option maxRecDepth 100000 in
set_option maxHeartbeats 2000000 in
theorem rJoin_any (l : List By) (v : Value) (w : World) (h : SlIs w v l) (hn : l.length ≤ maxLen) :
    Calls Tryd.prog 29 #[v] w fun e w' => e = .returned (tupT (jnS l)) ∧ Below w.heap.size w w' := by
  obtain ⟨p, c, rfl⟩ := h.form
  have H := hide h
  obtain ⟨Z, hZ⟩ : ∃ Z, jnS l = Z := ⟨_, rfl⟩
  rw [hZ]
  have HZ := hide hZ
  unfold maxLen at hn
  clear h hZ
  go_enter Tryd.func29, Tryd.ntmps29
  go_wp2
  go_loopw [4, 5] (fun ov iv wr => ∃ k : Nat, k ≤ l.length ∧ ov = .string ⟨((l.take k).flatten).toArray⟩ ∧ iv = .int .i64 k ∧ Hid ((l.take k).flatten.length ≤ 255) ∧ wr = w) (fun _ iv _ => l.length - (intOf iv).toNat)
  case atStart => exact ⟨0, Nat.zero_le _, rfl, rfl, hide (Nat.zero_le _), rfl⟩
  case round =>
    obtain ⟨k, hk, rfl, rfl, HLE, rfl⟩ := hrel
    have hle := HLE.out
    obtain ⟨T, hT⟩ : ∃ T, (l.take k).flatten = T := ⟨_, rfl⟩
    rw [hT] at hle ⊢
    have HT := hide hT
    have szk := mk_size T
    by_cases hlt : k < l.length
    · obtain ⟨g, o, cap, e1, e2, e3⟩ := H.out.cell hlt
      cases e1
      have g1 : (k : Int) < (l.length : Int) := by omega
      have hwk : IntKind.i64.wrap ((k : Int) + 1) = (k : Int) + 1 := by rw [IntKind.wrap_i64]; omega
      have hw2 : IntKind.i64.wrap (255 - (T.length : Int)) = 255 - (T.length : Int) := by rw [IntKind.wrap_i64]; omega
      have hst := flat_step l hlt
      rw [hT] at hst
      obtain ⟨X, hX⟩ : ∃ X, l[k] = X := ⟨_, rfl⟩
      rw [hX] at e3 hst
      have szX := mk_size X
      by_cases hs : T.length + X.length ≤ 255
      · have g3 : (255 - (T.length : Int) < (X.length : Int)) = False := eq_false (by omega)
        have g9 : (9223372036854775807 < T.length + X.length) = False := eq_false (by omega)
        have HST := hide hst
        have HL : Hid ((l.take (k + 1)).flatten.length ≤ 255) := by show _ ≤ _; rw [← hst, List.length_append]; exact hs
        clear hst hs hle HLE hX hT
        go_wp2
        go_roundw
        case rel => exact ⟨k + 1, by omega, by rw [← HST.out, mk_app], by go_num, HL, (by first | rfl | trivial)⟩
        case measure => simp [intOf]; omega
      · have g3 : (255 - (T.length : Int) < (X.length : Int)) = True := eq_true (by omega)
        have HZ2 : Hid (Z = none) := HZ.out.symm.trans (cap_no (by have h3 := flat_le l (k + 1); rw [← hst, List.length_append] at h3; omega))
        clear hst hs hle HLE hX hT
        go_wp2
        go_ret2
        rw [HZ2.out]
        exact ⟨rfl, Below.refl _ _⟩
    · have hkl : k = l.length := by omega
      have HZ2 : Hid (Z = some T) := HZ.out.symm.trans (by unfold jnS; rw [show l.flatten = T by rw [← HT.out, hkl, List.take_length]]; exact cap_yes hle)
      have g1 : ¬ (k : Int) < (l.length : Int) := by omega
      clear hT
      go_wp2
      go_ret2
      rw [HZ2.out]
      exact ⟨rfl, Below.refl _ _⟩
set_option maxRecDepth 100000 in
set_option maxHeartbeats 4000000 in
theorem rReplace_any (s : By) (at_ n : Int) (t : By) (w : World) (ms : s.length ≤ maxLen) (na : at_ ≤ 9223372036854775807) (mt : t.length ≤ maxLen) :
    Calls Tryd.prog 21 #[.string ⟨s.toArray⟩, .int .i64 at_, .int .i64 n, .string ⟨t.toArray⟩] w fun e w' => e = .returned (tupT (rpS s at_ n t)) ∧ Below w.heap.size w w' := by
  have hmix : Tryd.prog.follows .mixedOrders = true := by kernel_rfl
  have sz := mk_size s
  by_cases kp : 255 < s.length ∨ 255 < t.length
  · have HL := hide (long_is (a := s) (b := t) (c := []) (r := true) (decide_eq_true (by rcases kp with h | h; exact .inl h; exact .inr (.inl h))) w)
    rw [show rpS s at_ n t = none from if_pos (by omega)]
    clear kp
    generalize (⟨s.toArray⟩ : ByteArray) = S at *
    generalize (⟨t.toArray⟩ : ByteArray) = T at *
    go_enter Tryd.func21, Tryd.ntmps21
    go_wp2_with (go_at_call 42; refine HL.out.mono ?_; rintro e w9 ⟨rfl, rfl⟩)
    go_ret2
    exact ⟨rfl, Below.refl _ _⟩
  have HL := hide (long_is (a := s) (b := t) (c := []) (r := false) (decide_eq_false (by simp; omega)) w)
  by_cases ka : at_ < 1
  · rw [show rpS s at_ n t = none from if_pos (by omega)]
    clear kp
    generalize (⟨s.toArray⟩ : ByteArray) = S at *
    generalize (⟨t.toArray⟩ : ByteArray) = T at *
    go_enter Tryd.func21, Tryd.ntmps21
    go_wp2_with (go_at_call 42; refine HL.out.mono ?_; rintro e w9 ⟨rfl, rfl⟩)
    go_ret2
    exact ⟨rfl, Below.refl _ _⟩
  have ka2 : (at_ < 1) = False := eq_false ka
  by_cases kn : n < 0
  · rw [show rpS s at_ n t = none from if_pos (by omega)]
    clear kp
    generalize (⟨s.toArray⟩ : ByteArray) = S at *
    generalize (⟨t.toArray⟩ : ByteArray) = T at *
    go_enter Tryd.func21, Tryd.ntmps21
    go_wp2_with (go_at_call 42; refine HL.out.mono ?_; rintro e w9 ⟨rfl, rfl⟩)
    go_ret2
    exact ⟨rfl, Below.refl _ _⟩
  have kn2 : (n < 0) = False := eq_false kn
  rw [show rpS s at_ n t = capS (s.take (at_ - 1).toNat ++ (t ++ (s.drop (at_ - 1).toNat).drop n.toNat)) from if_neg (by omega)]
  have hw : IntKind.i64.wrap (at_ - 1) = at_ - 1 := by rw [IntKind.wrap_i64]; omega
  have hsl : s.length ≤ 255 := by omega
  have htl : t.length ≤ 255 := by omega
  obtain ⟨j, hj⟩ : ∃ j : Nat, min (at_ - 1) (s.length : Int) = (j : Int) := ⟨min (at_ - 1).toNat s.length, by omega⟩
  have hjl : (j : Int) ≤ (s.length : Int) := by omega
  have hw2 : IntKind.i64.wrap ((s.length : Int) - (j : Int)) = (s.length : Int) - (j : Int) := by rw [IntKind.wrap_i64]; omega
  obtain ⟨m, hm⟩ : ∃ m : Nat, min n ((s.length : Int) - (j : Int)) = (m : Int) := ⟨min n.toNat (s.length - j), by omega⟩
  have hw3 : IntKind.i64.wrap ((j : Int) + (m : Int)) = (j : Int) + (m : Int) := by rw [IntKind.wrap_i64]; omega
  have e1 : s.take (at_ - 1).toNat = s.take j := by
    by_cases h : (at_ - 1).toNat ≤ s.length
    · rw [show j = (at_ - 1).toNat by omega]
    · rw [List.take_of_length_le (by omega), show j = s.length by omega, List.take_length]
  have e2 : (s.drop (at_ - 1).toNat).drop n.toNat = s.drop (j + m) := by
    rw [List.drop_drop]
    by_cases h : (at_ - 1).toNat + n.toNat ≤ s.length
    · rw [show j + m = (at_ - 1).toNat + n.toNat by omega]
    · rw [List.drop_eq_nil_of_le (by omega), List.drop_eq_nil_of_le (by omega)]
  rw [e1, e2]
  have x1 := mk_take s j
  have x2 := mk_drop s (j + m)
  have hX : ((j : Int) + (m : Int)).toNat = j + m := by omega
  have g5 : (j : Int) + (m : Int) ≤ (s.length : Int) := by omega
  have g6 : (0 : Int) ≤ (j : Int) + (m : Int) := by omega
  have hFl : (s.take j).length ≤ 255 := by rw [List.length_take]; omega
  have hEl : (s.drop (j + m)).length ≤ 255 := by rw [List.length_drop]; omega
  clear e1 e2 kp
  generalize s.take j = F at *
  generalize s.drop (j + m) = E at *
  have HT := hide (fun W => rtold_any (F ++ (t ++ E)) W)
  have szF := mk_size F
  have szE := mk_size E
  have szt := mk_size t
  have szFt := mk_size (F ++ t)
  have y1 := mk_app F t
  have y2 := mk_app (F ++ t) E
  rw [List.append_assoc] at y2
  rw [List.length_append] at szFt
  have g8 : (9223372036854775807 < F.length + t.length) = False := eq_false (by omega)
  have g9 : (9223372036854775807 < F.length + t.length + E.length) = False := eq_false (by omega)
  have g10 : (9223372036854775807 < F.length + (t.length + E.length)) = False := eq_false (by omega)
  generalize capS (F ++ (t ++ E)) = Z at *
  generalize (⟨(F ++ (t ++ E)).toArray⟩ : ByteArray) = FTE at *
  generalize (⟨(F ++ t).toArray⟩ : ByteArray) = FT at *
  generalize (⟨F.toArray⟩ : ByteArray) = FB at *
  generalize (⟨E.toArray⟩ : ByteArray) = EB at *
  generalize (⟨t.toArray⟩ : ByteArray) = TB at *
  generalize (⟨s.toArray⟩ : ByteArray) = S at *
  cases Z with
  | none =>
    simp only [tupT] at HT ⊢
    go_enter Tryd.func21, Tryd.ntmps21
    go_wp2_with (go_at_call 42; refine HL.out.mono ?_; rintro e w9 ⟨rfl, rfl⟩)
    go_quiet ((go_at_call 58; exact Calls.quiet_of_same (HT.out _)))
    go_wp2
    go_ret2
    exact ⟨rfl, by repeat' (first | with_reducible exact Below.refl _ _ | with_reducible refine Below.setCell ?_ ?_ _ | with_reducible refine Below.alloc ?_ ?_ _ | with_reducible refine below_drewN ?_ _ | with_reducible refine Below.drew ?_ | with_reducible refine Below.trans ?_ (Below.mono (by assumption) ?_) | with_reducible exact Nat.le_refl _ | with_reducible refine Nat.le_trans ?_ (Below.size (by assumption)) | with_reducible refine Nat.le_trans ?_ (size_alloc _ _) | with_reducible refine Nat.le_trans ?_ (size_set _ _ _) | with_reducible refine Nat.le_trans ?_ (size_drewN _ _) | with_reducible refine Nat.le_trans ?_ (size_drew _) | (simp; done) | (simp; omega) | omega)⟩
  | some z =>
    simp only [tupT] at HT ⊢
    go_enter Tryd.func21, Tryd.ntmps21
    go_wp2_with (go_at_call 42; refine HL.out.mono ?_; rintro e w9 ⟨rfl, rfl⟩)
    go_quiet ((go_at_call 58; exact Calls.quiet_of_same (HT.out _)))
    go_wp2
    go_ret2
    exact ⟨rfl, by repeat' (first | with_reducible exact Below.refl _ _ | with_reducible refine Below.setCell ?_ ?_ _ | with_reducible refine Below.alloc ?_ ?_ _ | with_reducible refine below_drewN ?_ _ | with_reducible refine Below.drew ?_ | with_reducible refine Below.trans ?_ (Below.mono (by assumption) ?_) | with_reducible exact Nat.le_refl _ | with_reducible refine Nat.le_trans ?_ (Below.size (by assumption)) | with_reducible refine Nat.le_trans ?_ (size_alloc _ _) | with_reducible refine Nat.le_trans ?_ (size_set _ _ _) | with_reducible refine Nat.le_trans ?_ (size_drewN _ _) | with_reducible refine Nat.le_trans ?_ (size_drew _) | (simp; done) | (simp; omega) | omega)⟩
end Go.Proofs.YthooimaadgabiaaDoor
