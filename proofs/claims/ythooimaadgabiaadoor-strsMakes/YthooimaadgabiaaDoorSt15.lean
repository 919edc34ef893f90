/-
  The answer's Trim and Substitute.
-/
import Derived.Test.YthooimaadgabiaaDoorSt12
import Derived.Test.YthooimaadgabiaaDoorSt9
namespace Go.Proofs.YthooimaadgabiaaDoor
open Go.RowKit
set_option linter.unusedSimpArgs false
set_option linter.unusedVariables false

set_option maxRecDepth 100000 in
set_option maxHeartbeats 4000000 in
theorem rTrim_any (s : By) (w : World) (ms : s.length ≤ maxLen) :
    Calls Tryd.prog 25 #[.string ⟨s.toArray⟩] w fun e w' => e = .returned (tupT (trS s)) ∧ Below w.heap.size w w' := by
  by_cases ks : 255 < s.length
  · have HL := hide (long_is (a := s) (b := []) (c := []) (r := true) (decide_eq_true (.inl ks)) w)
    rw [show trS s = none from if_pos ks]
    generalize (⟨s.toArray⟩ : ByteArray) = S at *
    go_enter Tryd.func25, Tryd.ntmps25
    go_wp2_with (go_at_call 42; refine HL.out.mono ?_; rintro e w9 ⟨rfl, rfl⟩)
    go_ret2
    exact ⟨rfl, Below.refl _ _⟩
  have HL := hide (long_is (a := s) (b := []) (c := []) (r := false) (decide_eq_false (by simp; omega)) w)
  rw [show trS s = some (trL s) from if_neg ks]
  have hsl : s.length ≤ 255 := by omega
  have sz := mk_size s
  obtain ⟨T, hT⟩ : ∃ T, trL s = T := ⟨_, rfl⟩
  rw [hT]
  have HT := hide hT
  clear ks hT
  go_enter Tryd.func25, Tryd.ntmps25
  go_wp2_with (go_at_call 42; refine HL.out.mono ?_; rintro e w9 ⟨rfl, rfl⟩)
  go_loopw [4, 5] (fun ov iv wr => ∃ (k : Nat) (out : By) (p : Bool), k ≤ s.length ∧ ov = .string ⟨out.toArray⟩ ∧ iv = .int .i64 k ∧ Hid (trF p out (s.drop k) = T) ∧ Hid (out.length ≤ 2 * k) ∧ Hid (p = (match k with | 0 => false | j + 1 => s[j]? == some 32)) ∧ wr = w9) (fun _ iv _ => s.length - (intOf iv).toNat)
  case atStart => exact ⟨0, [], false, Nat.zero_le _, rfl, rfl, HT, hide (Nat.zero_le _), hide rfl, rfl⟩
  case round =>
    obtain ⟨k, out, p, hk, rfl, rfl, HQ, HLE, HPP, rfl⟩ := hrel
    have szo := mk_size out
    by_cases hlt : k < s.length
    · have g1 : (k : Int) < (s.length : Int) := by omega
      have g0 : (0 : Int) ≤ (k : Int) := by omega
      have hwk : IntKind.i64.wrap ((k : Int) + 1) = (k : Int) + 1 := by rw [IntKind.wrap_i64]; omega
      have hx : ∀ h, (⟨s.toArray⟩ : ByteArray)[k]'h = s[k] := fun h => rfl
      have hdr := List.drop_eq_getElem_cons hlt
      have hle := HLE.out
      by_cases hc : s[k] = 32
      · have b1 : ((s[k].toNat : Int) != 32) = false := by rw [hc]; rfl
        have HF : Hid (trF true out (s.drop (k + 1)) = T) := by
          have := HQ.out
          rw [hdr, hc, trF, if_pos rfl] at this
          exact hide this
        have HP2 : Hid (true = (match k + 1 with | 0 => false | j + 1 => s[j]? == some 32)) := by
          show true = (s[k]? == some 32)
          rw [List.getElem?_eq_getElem hlt, hc]; rfl
        clear HQ hdr hle HPP
        go_wp2
        go_roundw
        case rel => exact ⟨k + 1, out, true, by omega, rfl, by go_num, HF, hide (by have := HLE.out; omega), HP2, (by first | rfl | trivial)⟩
        case measure => simp [intOf]; omega
      have b1 : ((s[k].toNat : Int) != 32) = true := by
        rw [bne_iff_ne]; intro e; apply hc; apply UInt8.toNat_inj.1; show s[k].toNat = 32; omega
      have HP2 : Hid (false = (match k + 1 with | 0 => false | j + 1 => s[j]? == some 32)) := by
        show false = (s[k]? == some 32)
        rw [List.getElem?_eq_getElem hlt]
        exact (beq_eq_false_iff_ne.2 (fun e => hc (Option.some.inj e))).symm
      have xs : (⟨s.toArray⟩ : ByteArray).extract k (k + 1) = ⟨[s[k]].toArray⟩ := by
        rw [mk_mid s k (k + 1) (by omega), hdr, show k + 1 - k = 1 by omega]; rfl
      have hq := HQ.out
      rw [hdr, trF, if_neg hc] at hq
      have hX : ((k : Int) + 1).toNat = k + 1 := by omega
      have g7 : (k : Int) ≤ (k : Int) + 1 := by omega
      have g8 : (k : Int) + 1 ≤ (s.length : Int) := by omega
      have hpp := HPP.out
      obtain ⟨c, hcc⟩ : ∃ c, s[k] = c := ⟨_, rfl⟩
      have hx2 : ∀ h, (⟨s.toArray⟩ : ByteArray)[k]'h = c := fun h => (show _ = s[k] from rfl).trans hcc
      rw [hcc] at b1 xs hq
      clear hx
      have y1 := mk_app out [c]
      have s1 := mk_size [c]
      have g9 : (9223372036854775807 < out.length + 1) = False := eq_false (by omega)
      clear HQ hdr HPP hc hcc
      cases k with
      | zero =>
        have hp0 : p = false := hpp
        subst hp0
        have HF : Hid (trF false (out ++ [c]) (s.drop (0 + 1)) = T) := by simpa using hide hq
        clear hq hpp hle
        go_wp2
        go_roundw
        case rel => exact ⟨1, out ++ [c], false, by omega, by first | rfl | rw [y1] | simp, by go_num, HF, hide (by have := HLE.out; rw [List.length_append, List.length_singleton]; omega), HP2, (by first | rfl | trivial)⟩
        case measure => simp [intOf]; omega
      | succ j =>
        have hjl : j < s.length := by omega
        have hxj : ∀ h, (⟨s.toArray⟩ : ByteArray)[j]'h = s[j] := fun h => rfl
        have hp1 : p = (s[j]? == some 32) := hpp
        rw [List.getElem?_eq_getElem hjl] at hp1
        have gk0 : (0 : Int) < ((j + 1 : Nat) : Int) := by omega
        have hcast : ((j + 1 : Nat) : Int) - 1 = (j : Int) := by omega
        have hwj : IntKind.i64.wrap (j : Int) = (j : Int) := by rw [IntKind.wrap_i64]; omega
        have gj : (j : Int) < (s.length : Int) := by omega
        clear hpp
        have k1 : (j : Int) + 1 < (s.length : Int) := by omega
        have k2 : IntKind.i64.wrap ((j : Int) + 1 + 1) = (j : Int) + 1 + 1 := by rw [IntKind.wrap_i64]; omega
        have k3 : ((j : Int) + 1 + 1).toNat = j + 1 + 1 := by omega
        have k4 : (j : Int) + 1 ≤ (j : Int) + 1 + 1 := by omega
        have k5 : (j : Int) + 1 + 1 ≤ (s.length : Int) := by omega
        have k6 : (0 : Int) < (j : Int) + 1 := by omega
        have k7 : (0 : Int) ≤ (j : Int) + 1 := by omega
        have k8 : ((j : Int) + 1).toNat = j + 1 := by omega
        by_cases cj : s[j] = 32
        · have b2 : ((s[j].toNat : Int) == 32) = true := by rw [cj]; rfl
          have hpt : p = true := by rw [hp1, cj]; rfl
          by_cases ho : out = []
          · have hem : List.isEmpty out = true := by rw [ho]; rfl
            have HF : Hid (trF false (out ++ [c]) (s.drop (j + 1 + 1)) = T) := by
              rw [if_neg (fun h => h.2 ho)] at hq; exact hide hq
            clear hq hp1 cj ho hpt hle
            go_wp2
            go_roundw
            case rel => exact ⟨j + 1 + 1, out ++ [c], false, by omega, by first | rfl | simp, by go_num, HF, hide (by have := HLE.out; simp only [List.length_append, List.length_singleton]; omega), HP2, (by first | rfl | trivial)⟩
            case measure => simp [intOf]; omega
          · have hem : List.isEmpty out = false := by simpa using ho
            have HF : Hid (trF false (out ++ [32] ++ [c]) (s.drop (j + 1 + 1)) = T) := by
              rw [if_pos ⟨hpt, ho⟩] at hq; exact hide hq
            have y2 := mk_app out [32]
            have y3 := mk_app (out ++ [32]) [c]
            have s2 := mk_size (out ++ [32])
            have g11 : (9223372036854775807 < out.length + 1 + 1) = False := eq_false (by omega)
            clear hq hp1 cj ho hpt hle
            go_wp2
            go_roundw
            case rel => exact ⟨j + 1 + 1, out ++ [32] ++ [c], false, by omega, by first | rfl | simp, by go_num, HF, hide (by have := HLE.out; simp only [List.length_append, List.length_singleton]; omega), HP2, (by first | rfl | trivial)⟩
            case measure => simp [intOf]; omega
        · have b2 : ((s[j].toNat : Int) == 32) = false := by
            rw [beq_eq_false_iff_ne]; intro e; apply cj; apply UInt8.toNat_inj.1; show s[j].toNat = 32; omega
          have hpf : p = false := by rw [hp1]; exact beq_eq_false_iff_ne.2 (fun e => cj (Option.some.inj e))
          have HF : Hid (trF false (out ++ [c]) (s.drop (j + 1 + 1)) = T) := by
            rw [if_neg (fun h => by rw [hpf] at h; cases h.1)] at hq; exact hide hq
          clear hq hp1 cj hpf hle
          go_wp2
          go_roundw
          case rel => exact ⟨j + 1 + 1, out ++ [c], false, by omega, by first | rfl | simp, by go_num, HF, hide (by have := HLE.out; simp only [List.length_append, List.length_singleton]; omega), HP2, (by first | rfl | trivial)⟩
          case measure => simp [intOf]; omega
    · have HF : Hid (out = T) := by
        have := HQ.out
        rw [List.drop_eq_nil_of_le (by omega), trF.eq_def] at this
        exact hide this
      have g1 : ¬ (k : Int) < (s.length : Int) := by omega
      clear HQ
      go_wp2
      go_ret2
      rw [← HF.out]
      exact ⟨rfl, Below.refl _ _⟩
end Go.Proofs.YthooimaadgabiaaDoor
