/-
  The contracts of place's lettersOf and Letters.
-/
import Derived.Test.YtpognkhobmbfcaaDoorPt0
import Derived.Test.YtpognkhobmbfcaaDoorPl1
namespace Go.Proofs.YtpognkhobmbfcaaDoor
open Go.RowKit

/-- What Letters tells. -/
def lettersR (c : Int) : List UInt8 × Int := if colB c then (lettersN c.toNat, 0) else ([], 2)
theorem lettersR_yes {c : Int} (h : colB c = true) : lettersR c = (lettersN c.toNat, 0) := by simp [lettersR, h]
theorem lettersR_no {c : Int} (h : colB c = false) : lettersR c = ([], 2) := by simp [lettersR, h]
theorem enc_ascii {r : Int} (h0 : 0 ≤ r) (h1 : r < 128) : Utf8.encode r = ⟨#[UInt8.ofNat r.toNat]⟩ := by
  have hv : Utf8.valid r = true := by unfold Utf8.valid; simp; omega
  unfold Utf8.encode
  rw [hv]
  simp only [if_true]
  rw [if_pos (by omega)]
theorem str_cons (c : UInt8) (t : List UInt8) : (⟨#[c]⟩ : ByteArray) ++ ⟨t.toArray⟩ = ⟨(c :: t).toArray⟩ := by
  apply ByteArray.ext; simp [ByteArray.data_append]

set_option maxHeartbeats 1000000 in
theorem lettersOf_any (n : Nat) (w : World) (h0 : 0 < n) (hn : n ≤ 16384) :
    Calls Tryd.prog 29 #[.int .i64 n] w fun e w' => e = .returned (.string ⟨(lettersN n).toArray⟩) ∧ w' = w := by
  have HN := hide (letters_len h0 hn).2
  go_enter Tryd.func29, Tryd.ntmps29
  go_wp2
  go_loop [3, 4] (fun s r => ∃ (k : Nat) (t : List UInt8), k ≤ n ∧ r = .int .i64 k ∧ s = .string ⟨t.toArray⟩ ∧ lettersN k ++ t = lettersN n) (fun _ r => (intOf r).toNat)
  case atStart => exact ⟨n, [], Nat.le_refl _, rfl, rfl, by simp⟩
  case round =>
    obtain ⟨k, t, hk, rfl, rfl, ht⟩ := hrel
    have hl : t.length ≤ 3 := by
      have := congrArg List.length ht
      have := HN.out
      simp at *; omega
    have HT := hide ht
    clear ht
    by_cases h0 : 0 < k
    · have h0' : (0 : Int) < (k : Int) := by omega
      have henc : Utf8.encode (65 + ((k : Int) - 1) % 26) = ⟨#[UInt8.ofNat (65 + (k - 1) % 26)]⟩ := by
        rw [enc_ascii (by omega) (by omega), show (65 + ((k : Int) - 1) % 26).toNat = 65 + (k - 1) % 26 by omega]
      obtain ⟨d, hd⟩ : ∃ d, d = UInt8.ofNat (65 + (k - 1) % 26) := ⟨_, rfl⟩
      rw [← hd] at henc
      have HD := hide hd
      clear hd
      go_wp2
      go_round
      case rel =>
        refine ⟨(k - 1) / 26, d :: t, by omega, ?_, ?_, ?_⟩
        · rw [show ((k : Int) - 1) / 26 = (((k - 1) / 26 : Nat) : Int) by omega]
        · rw [str_cons]
        · have := HT.out; rw [letters_succ h0, ← HD.out] at this; simpa using this
      case measure => simp [intOf]; omega
    · have h0' : ¬ (0 : Int) < (k : Int) := by omega
      obtain rfl : k = 0 := by omega
      have ht : t = lettersN n := by have := HT.out; rw [letters_zero] at this; simpa using this
      subst ht
      go_wp2
      go_ret
      exact ⟨rfl, rfl⟩
set_option maxHeartbeats 1000000 in
theorem letters_any (c : Int) (w : World) :
    Calls Tryd.prog 9 #[.int .i64 c] w fun e w' => e = .returned (.tuple #[.string ⟨(lettersR c).1.toArray⟩, .int .i64 (lettersR c).2]) ∧ w' = w := by
  have HC : Hid (∀ W : World, Calls Tryd.prog 28 #[.int .i64 c] W fun e w' => e = .returned (.bool (colB c)) ∧ w' = W) := fun W => isColumn_any c W
  cases h : colB c
  · rw [lettersR_no h]
    rw [h] at HC
    clear h
    go_enter Tryd.func9, Tryd.ntmps9
    go_wp2_with (go_at_call 28; refine (HC.out _).mono ?_; rintro e w' ⟨rfl, rfl⟩)
    go_ret2
    exact ⟨rfl, rfl⟩
  · rw [lettersR_yes h]
    rw [h] at HC
    obtain ⟨h1, h2⟩ := colB_iff.1 h
    clear h
    obtain ⟨n, rfl⟩ : ∃ n : Nat, c = n := ⟨c.toNat, by omega⟩
    have HL : Hid (∀ W : World, Calls Tryd.prog 29 #[.int .i64 n] W fun e w' => e = .returned (.string ⟨(lettersN n).toArray⟩) ∧ w' = W) := fun W => lettersOf_any n W (by omega) (by omega)
    rw [Int.toNat_natCast]
    go_enter Tryd.func9, Tryd.ntmps9
    go_wp2_with (first | (go_at_call 28; refine (HC.out _).mono ?_; rintro e w' ⟨rfl, rfl⟩) | (go_at_call 29; refine (HL.out _).mono ?_; rintro e w' ⟨rfl, rfl⟩))
    go_ret2
    exact ⟨rfl, rfl⟩
end Go.Proofs.YtpognkhobmbfcaaDoor
