/-
  The answer's in, row and Place.
-/
import Derived.Test.YtnhaapcpklfkpaaGreatDoorRc0
namespace Go.Proofs.YtnhaapcpklfkpaaGreatDoor
open Go.RowKit
set_option linter.unusedSimpArgs false

theorem byte_eq (a b : UInt8) : ((a.toNat : Int) == (b.toNat : Int)) = (a == b) := by
  by_cases h : a = b
  · subst h; simp
  · have : a.toNat ≠ b.toNat := fun e => h (UInt8.toNat_inj.1 e)
    have e : ((a.toNat : Int) == (b.toNat : Int)) = false := by rw [beq_eq_false_iff_ne]; omega
    rw [e]; simp [h]
set_option maxRecDepth 100000 in
set_option maxHeartbeats 2000000 in
theorem rin_any (c : UInt8) (S : List UInt8) (w : World) (hs : S.length ≤ 100000) :
    Calls Tryz.prog 64 #[.int .u8 (c.toNat : Int), .string ⟨S.toArray⟩] w fun e w' => e = .returned (.bool (S.contains c)) ∧ Below w.heap.size w w' := by
  have sz := mk_size S
  obtain ⟨R, hR⟩ : ∃ R, S.contains c = R := ⟨_, rfl⟩
  rw [hR]
  have HR := hide hR
  clear hR
  go_enter Tryz.func64, Tryz.ntmps64
  go_wp2
  go_loopw [5] (fun iv wr => ∃ k : Nat, k ≤ S.length ∧ iv = .int .i64 k ∧ Hid (∀ d ∈ S.take k, d ≠ c) ∧ Below w.heap.size w wr) (fun iv _ => S.length - (intOf iv).toNat)
  case atStart => exact ⟨0, Nat.zero_le _, rfl, by intro d hd; simp at hd, Below.refl _ w⟩
  case round =>
    obtain ⟨k, hk, rfl, HQ, hB⟩ := hrel
    by_cases hlt : k < S.length
    · have g1 : (k : Int) < (S.length : Int) := by omega
      have hx : ∀ h, (⟨S.toArray⟩ : ByteArray)[k]'h = S[k] := fun h => rfl
      by_cases c1 : S[k] = c
      · have b1 : ((S[k].toNat : Int) == (c.toNat : Int)) = true := by rw [byte_eq, c1]; simp
        have b2 : (S[k].toNat : Int) = (c.toNat : Int) := by rw [c1]
        have HF : Hid (R = true) := by
          show _ = _
          rw [← HR.out, List.contains_iff_mem.2]
          rw [← c1]; exact List.getElem_mem hlt
        clear HQ c1
        go_wp2
        go_ret
        rw [HF.out]
        exact ⟨rfl, hB⟩
      · have b1 : ((S[k].toNat : Int) == (c.toNat : Int)) = false := by rw [byte_eq]; simpa using c1
        have HQ2 : Hid (∀ d ∈ S.take (k + 1), d ≠ c) := by
          intro d hd
          rw [List.take_succ_eq_append_getElem hlt] at hd
          rcases List.mem_append.1 hd with hd | hd
          · exact HQ.out d hd
          · simp at hd; subst hd; exact c1
        clear HQ c1
        go_wp2
        go_roundw
        case rel => exact ⟨k + 1, hlt, by go_num, HQ2, hB⟩
        case measure => simp [intOf] <;> omega
    · have HF : Hid (R = false) := by
        show _ = _
        rw [← HR.out, Bool.eq_false_iff]
        intro e
        have hq := HQ.out
        rw [show k = S.length by omega, List.take_length] at hq
        exact hq c (List.contains_iff_mem.1 e) rfl
      have g1 : ¬ (k : Int) < (S.length : Int) := by omega
      clear HQ
      go_wp2
      go_ret
      rw [HF.out]
      exact ⟨rfl, hB⟩
theorem rowLen_is {l cs : List UInt8} {n : Nat} (hn : n ≤ l.length) (h : ∀ d ∈ l.take n, cs.contains d = true) (he : ∀ d, l[n]? = some d → cs.contains d = false) : rowLen l cs = n := by
  have : Lib.trimLeftS l cs = l.drop n := by
    unfold Lib.trimLeftS
    conv => lhs; rw [← List.take_append_drop n l]
    rw [List.dropWhile_append_of_pos h]
    cases hd : l.drop n with
    | nil => simp
    | cons d r =>
      have h1 : l[n]? = some d := by rw [← List.head?_drop, hd]; rfl
      rw [List.dropWhile_cons, he d h1]
      simp [hd]
  unfold rowLen
  rw [this, List.length_drop]
  omega
set_option maxRecDepth 100000 in
set_option maxHeartbeats 2000000 in
theorem rrow_any (S cs : List UInt8) (at' : Nat) (w : World) (ha : at' ≤ S.length) (hs : S.length ≤ 100000) (hc : cs.length ≤ 1000) :
    Calls Tryz.prog 65 #[.string ⟨S.toArray⟩, .int .i64 at', .string ⟨cs.toArray⟩] w fun e w' => e = .returned (.int .i64 (rowLen (S.drop at') cs)) ∧ Below w.heap.size w w' := by
  have sz := mk_size S
  have HI : Hid (∀ (c : UInt8) (W : World), Calls Tryz.prog 64 #[.int .u8 (c.toNat : Int), .string ⟨cs.toArray⟩] W fun e w' => e = .returned (.bool (cs.contains c)) ∧ Below W.heap.size W w') := fun c W => rin_any c cs W (by omega)
  obtain ⟨R, hR⟩ : ∃ R, rowLen (S.drop at') cs = R := ⟨_, rfl⟩
  rw [hR]
  have HR := hide hR
  clear hR
  go_enter Tryz.func65, Tryz.ntmps65
  go_wp2
  go_loopw [7] (fun iv wr => ∃ k : Nat, at' + k ≤ S.length ∧ iv = .int .i64 k ∧ Hid (∀ d ∈ (S.drop at').take k, cs.contains d = true) ∧ Below w.heap.size w wr) (fun iv _ => S.length - (intOf iv).toNat)
  case atStart => exact ⟨0, by omega, rfl, by intro d hd; simp at hd, Below.refl _ w⟩
  case round =>
    obtain ⟨k, hk, rfl, HQ, hB⟩ := hrel
    have HB := hide hB
    by_cases hlt : at' + k < S.length
    · have g1 : (at' : Int) + (k : Int) < (S.length : Int) := by omega
      have g0 : (0 : Int) ≤ (at' : Int) + (k : Int) := by omega
      have g2 : ((at' : Int) + (k : Int)).toNat = at' + k := by omega
      have g3 : IntKind.i64.wrap ((at' : Int) + (k : Int)) = (at' : Int) + (k : Int) := by rw [IntKind.wrap_i64]; omega
      have hx : ∀ h, (⟨S.toArray⟩ : ByteArray)[at' + k]'h = S[at' + k] := fun h => rfl
      have hd : (S.drop at')[k]? = some S[at' + k] := by rw [List.getElem?_drop]; exact List.getElem?_eq_getElem hlt
      have HC := hide (HI.out S[at' + k])
      cases c1 : cs.contains S[at' + k]
      · rw [c1] at HC
        have HF : Hid (R = k) := by
          show _ = _
          rw [← HR.out]
          exact rowLen_is (by rw [List.length_drop]; omega) HQ.out (fun d h => by rw [hd] at h; cases h; exact c1)
        clear HQ hd c1 HI
        go_wp2_with (first | (go_at_call 64; refine (HC.out _).mono ?_; rintro e w1 ⟨rfl, hb1⟩))
        go_ret
        rw [HF.out]
        exact ⟨rfl, up HB.out hb1⟩
      · rw [c1] at HC
        have HQ2 : Hid (∀ d ∈ (S.drop at').take (k + 1), cs.contains d = true) := by
          intro d hd'
          rw [List.take_succ_eq_append_getElem (by rw [List.length_drop]; omega)] at hd'
          rcases List.mem_append.1 hd' with hd' | hd'
          · exact HQ.out d hd'
          · simp at hd'; subst hd'; exact c1
        clear HQ hd c1 HI
        go_wp2_with (first | (go_at_call 64; refine (HC.out _).mono ?_; rintro e w1 ⟨rfl, hb1⟩; have HB1 := hide (up HB.out hb1); clear hb1))
        go_roundw
        case rel => exact ⟨k + 1, by omega, by go_num, HQ2, HB1.out⟩
        case measure => simp [intOf] <;> omega
    · have HF : Hid (R = k) := by
        show _ = _
        rw [← HR.out]
        exact rowLen_is (by rw [List.length_drop]; omega) HQ.out (fun d h => by rw [List.getElem?_drop, List.getElem?_eq_none (by omega)] at h; cases h)
      have g1 : ¬ (at' : Int) + (k : Int) < (S.length : Int) := by omega
      have g3 : IntKind.i64.wrap ((at' : Int) + (k : Int)) = (at' : Int) + (k : Int) := by rw [IntKind.wrap_i64]; omega
      clear HQ
      go_wp2
      go_ret
      rw [HF.out]
      exact ⟨rfl, HB.out⟩
end Go.Proofs.YtnhaapcpklfkpaaGreatDoor
