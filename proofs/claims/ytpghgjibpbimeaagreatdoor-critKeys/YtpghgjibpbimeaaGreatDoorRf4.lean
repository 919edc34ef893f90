/-
  The answer's Wild and Like.
-/
import Derived.Test.YtpghgjibpbimeaaGreatDoorRf3
import Derived.Test.YtpghgjibpbimeaaGreatDoorRf1
namespace Go.Proofs.YtpghgjibpbimeaaGreatDoor
open Go.RowKit
set_option linter.unusedSimpArgs false

theorem fold_same {c x : UInt8} (hx : x = 63 ∨ x = 42 ∨ x = 126) : foldB c = x ↔ c = x := by
  constructor
  · intro h
    by_cases hi : 97 ≤ c.toNat ∧ c.toNat ≤ 122
    · have e := foldB_in hi.1 hi.2
      rw [h] at e
      rcases hx with rfl | rfl | rfl
      · have : (63 : UInt8).toNat = 63 := rfl
        omega
      · have : (42 : UInt8).toNat = 42 := rfl
        omega
      · have : (126 : UInt8).toNat = 126 := rfl
        omega
    · rwa [foldB_out hi] at h
  · rintro rfl
    rcases hx with rfl | rfl | rfl <;> decide
/-- Is a text wild? -/
def wildL (l : List UInt8) : Bool := wildB (stepsR (foldL l))
theorem wild_sign {c : UInt8} {r : List UInt8} (h : c = 63 ∨ c = 42) : wildL (c :: r) = true := by
  unfold wildL
  rcases h with rfl | rfl
  · rw [show foldL (63 :: r) = 63 :: foldL r from rfl, steps_any rfl]; rfl
  · rw [show foldL (42 :: r) = 42 :: foldL r from rfl, steps_row rfl]; rfl
theorem wild_own {d : UInt8} {r : List UInt8} : wildL (126 :: d :: r) = wildL r := by
  unfold wildL
  rw [show foldL (126 :: d :: r) = 126 :: foldB d :: foldL r from rfl, steps_own rfl]; rfl
theorem wild_end : wildL [126] = false := by decide
theorem wild_else {c : UInt8} {r : List UInt8} (h1 : c ≠ 63) (h2 : c ≠ 42) (h3 : c ≠ 126) : wildL (c :: r) = wildL r := by
  unfold wildL
  rw [show foldL (c :: r) = foldB c :: foldL r from rfl, steps_self (fun e => h1 ((fold_same (.inl rfl)).1 e)) (fun e => h2 ((fold_same (.inr (.inl rfl))).1 e)) (fun e => h3 ((fold_same (.inr (.inr rfl))).1 e))]; rfl
theorem wild_nil {l : List UInt8} {i : Nat} (h : l.length ≤ i) : wildL (l.drop i) = false := by rw [List.drop_eq_nil_of_le h]; rfl
theorem wild_skip {l : List UInt8} {i : Nat} (h : i < l.length) (hc : l[i] = 126) : wildL (l.drop i) = wildL (l.drop (i + 2)) := by
  rw [List.drop_eq_getElem_cons h, hc]
  by_cases h1 : i + 1 < l.length
  · rw [List.drop_eq_getElem_cons h1, wild_own]
  · rw [List.drop_eq_nil_of_le (by omega), List.drop_eq_nil_of_le (by omega)]; exact wild_end
set_option maxRecDepth 100000 in
set_option maxHeartbeats 2000000 in
theorem rwild_any (s : ByteArray) (w : World) (hs : s.size ≤ 140737488355328) :
    Calls Tryz.prog 16 #[.string s] w fun e w' => e = .returned (.bool (wildL s.data.toList)) ∧ Below w.heap.size w w' := by
  obtain ⟨S, rfl⟩ : ∃ X : List UInt8, s = ⟨X.toArray⟩ := ⟨s.data.toList, by simp⟩
  have sz : (⟨S.toArray⟩ : ByteArray).size = S.length := by show S.toArray.size = _; simp
  rw [sz] at hs
  rw [show (⟨S.toArray⟩ : ByteArray).data.toList = S by simp]
  obtain ⟨R, hR⟩ : ∃ R, wildL S = R := ⟨_, rfl⟩
  rw [hR]
  have HR := hide hR
  clear hR
  go_enter Tryz.func16, Tryz.ntmps16
  go_wp2
  go_loopw [3] (fun iv wr => ∃ k : Nat, k ≤ S.length + 1 ∧ iv = .int .i64 k ∧ Hid (wildL (S.drop k) = R) ∧ Below w.heap.size w wr) (fun iv _ => S.length + 1 - (intOf iv).toNat)
  case atStart => exact ⟨0, Nat.zero_le _, rfl, HR.out, Below.refl _ w⟩
  case round =>
    obtain ⟨k, hk, rfl, HQ, hB⟩ := hrel
    by_cases hlt : k < S.length
    · have g1 : (k : Int) < (S.length : Int) := by omega
      have hx : ∀ h, (⟨S.toArray⟩ : ByteArray)[k]'h = S[k] := fun h => rfl
      have hn : ∀ n : UInt8, (S[k].toNat : Int) = (n.toNat : Int) → S[k] = n := fun n h => UInt8.toNat_inj.1 (by omega)
      by_cases c3 : (S[k].toNat : Int) = 126
      · have b1 : ((S[k].toNat : Int) == 126) = true := by rw [c3]; rfl
        have HF : Hid (wildL (S.drop (k + 2)) = R) := (wild_skip hlt (hn 126 c3)).symm.trans HQ.out
        clear HQ hn
        go_wp2
        go_roundw
        case rel => exact ⟨k + 2, by omega, by go_num, HF, hB⟩
        case measure => simp [intOf] <;> omega
      have d3 : ((S[k].toNat : Int) == 126) = false := by rw [beq_eq_false_iff_ne]; exact c3
      by_cases c1 : (S[k].toNat : Int) = 63
      · have b1 : ((S[k].toNat : Int) == 63) = true := by rw [c1]; rfl
        have HF : Hid (R = true) := by
          show _ = _
          rw [← HQ.out, List.drop_eq_getElem_cons hlt]; exact wild_sign (.inl (hn 63 c1))
        clear HQ hn
        go_wp2
        go_ret
        rw [HF.out]
        exact ⟨rfl, hB⟩
      have d1 : ((S[k].toNat : Int) == 63) = false := by rw [beq_eq_false_iff_ne]; exact c1
      by_cases c2 : (S[k].toNat : Int) = 42
      · have b1 : ((S[k].toNat : Int) == 42) = true := by rw [c2]; rfl
        have HF : Hid (R = true) := by
          show _ = _
          rw [← HQ.out, List.drop_eq_getElem_cons hlt]; exact wild_sign (.inr (hn 42 c2))
        clear HQ hn
        go_wp2
        go_ret
        rw [HF.out]
        exact ⟨rfl, hB⟩
      have d2 : ((S[k].toNat : Int) == 42) = false := by rw [beq_eq_false_iff_ne]; exact c2
      have HF : Hid (wildL (S.drop (k + 1)) = R) := by
        show _ = _
        rw [← HQ.out, List.drop_eq_getElem_cons hlt]
        exact (wild_else (fun e => c1 (by rw [e]; rfl)) (fun e => c2 (by rw [e]; rfl)) (fun e => c3 (by rw [e]; rfl))).symm
      clear HQ hn
      go_wp2
      go_roundw
      case rel => exact ⟨k + 1, by omega, by go_num, HF, hB⟩
      case measure => simp [intOf] <;> omega
    · have HF : Hid (R = false) := HQ.out.symm.trans (wild_nil (by omega))
      have g1 : ¬ (k : Int) < (S.length : Int) := by omega
      clear HQ
      go_wp2
      go_ret
      rw [HF.out]
      exact ⟨rfl, hB⟩
end Go.Proofs.YtpghgjibpbimeaaGreatDoor
