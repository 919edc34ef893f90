/-
  The contract of the answer's To of layer 2: the quotient of a number and a million, bit by bit.
-/
import Derived.Test.YtnjnbhfpgoondaaRealNext
namespace Go.Proofs.Ytnjnbhfpgoondaa
open Go.RowKit

set_option maxHeartbeats 400000 in
theorem rsize2_any (n : Int) (w : World) (h1 : -1000000000000000000 ≤ n) (h2 : n ≤ 1000000000000000000) :
    Calls Try.prog 30 #[.int .i64 n] w fun e w' => e = .returned (.int .i64 (absI n)) ∧ w' = w := by
  by_cases h : n < 0
  · have E := hide (absI_neg h)
    go_enter Try.func30, Try.ntmps30
    go_wp2
    go_ret
    exact ⟨by rw [E.out]; simp [Int.max_def]; omega, rfl⟩
  · have E := hide (absI_pos (n := n) (by omega))
    go_enter Try.func30, Try.ntmps30
    go_wp2
    go_ret
    exact ⟨by rw [E.out]; simp [Int.max_def]; omega, rfl⟩
/-- One doubling. -/
theorem twice {m l X : Int} (h : m * 1000000 + l = X) : (2 * m + 2 * l / 1000000) * 1000000 + 2 * l % 1000000 = 2 * X := by omega
theorem half_at {m l X : Int} (h : m * 1000000 + l = X) (l0 : 0 ≤ l) (l1 : l < 1000000) : halfEven X 1000000 = if 1000000 < 2 * l ∨ (2 * l = 1000000 ∧ m % 2 = 1) then m + 1 else m := by
  have e1 : X / 1000000 = m := by omega
  have e2 : X % 1000000 = l := by omega
  unfold halfEven; rw [e1, e2]
theorem to_end {s m l : Int} {j : Nat} (h0 : 1 ≤ s) (h1 : s ≤ 1000000000000000000) (h : m * 1000000 + l = s * 2 ^ j) (l0 : 0 ≤ l) (l1 : l < 1000000) (m0 : 4503599627370496 ≤ m) (m1 : m < 9007199254740992) :
    toB s = (1075 - j) * 4503599627370496 + ((if 1000000 < 2 * l ∨ (2 * l = 1000000 ∧ m % 2 = 1) then m + 1 else m) - 4503599627370496) := by
  have b0 : 4503599627370496000000 ≤ s * 2 ^ j := by omega
  have b1 : s * 2 ^ j < 9007199254740992000000 := by omega
  obtain ⟨j0, j1⟩ := to_j_bd h0 h1 b0 b1
  rw [← half_at h l0 l1]
  exact toB_eq h0 h1 ⟨j, j0, j1, b0, b1, rfl⟩
theorem to_go {s m l : Int} {j : Nat} (h0 : 1 ≤ s) (h : m * 1000000 + l = s * 2 ^ j) (l1 : l < 1000000) (m1 : m < 4503599627370496) : j < 72 := by
  rcases Nat.lt_or_ge j 72 with c | c
  · exact c
  · exfalso
    obtain ⟨d, rfl⟩ := Nat.exists_eq_add_of_le c
    have q := pow_mono (s := s) (by omega) 72 d
    have : s * 2 ^ 72 = s * 4722366482869645213696 := rfl
    omega
set_option maxHeartbeats 4000000 in
theorem rto_core (n s V : Int) (w : World) (hs : absI n = s) (n0 : -1000000000000000000 ≤ n) (n1 : n ≤ 1000000000000000000) (nz : (n == 0) = false) (h0 : 1 ≤ s) (h1 : s ≤ 1000000000000000000) (hf : fitsB n = true) (HV : Hid (toB s = V)) (ng : Bool) (hng : decide (n < 0) = ng) :
    Calls Try.prog 16 #[.int .i64 n] w fun e w' => e = .returned (.tuple #[.int .u64 (if ng then 9223372036854775808 + V else V), .int .i64 0]) ∧ w' = w := by
  have HS : Hid (∀ W : World, Calls Try.prog 30 #[.int .i64 n] W fun e w' => e = .returned (.int .i64 s) ∧ w' = W) := fun W => by
    have := rsize2_any n W n0 n1
    rwa [hs] at this
  clear hs
  have HF : Hid (∀ W : World, Calls Try.prog 29 #[.int .i64 n] W fun e w' => e = .returned (.bool true) ∧ w' = W) := fun W => by
    have := rfits_any n W
    rwa [hf] at this
  clear hf
  have hng2 : ng = true ↔ n < 0 := by rw [← hng]; exact decide_eq_true_iff
  have HG := hide hng2
  clear hng2 hng
  go_enter Try.func16, Try.ntmps16
  go_wp2_with (first | (go_at_call 29; refine (HF.out _).mono ?_; rintro e wz ⟨rfl, hz⟩; subst wz) | (go_at_call 30; refine (HS.out _).mono ?_; rintro e wz ⟨rfl, hz⟩; subst wz))
  go_loop [5, 6, 7] (fun a b c => ∃ (j : Nat) (m l : Int), a = .int .u64 m ∧ b = .int .u64 l ∧ c = .int .i64 (-(j : Int)) ∧ 0 ≤ l ∧ l < 1000000 ∧ 0 ≤ m ∧ m < 9007199254740992 ∧ j ≤ 72 ∧ Hid (m * 1000000 + l = s * 2 ^ j)) (fun _ _ c => (73 + intOf c).toNat)
  case atStart => exact ⟨0, s / 1000000, s % 1000000, rfl, rfl, by simp, by omega, by omega, by omega, by omega, by decide, by show _ = s * 1; omega⟩
  case round =>
    obtain ⟨j, m, l, rfl, rfl, rfl, l0, l1, m0, m1, j1, HX⟩ := hrel
    by_cases c : m < 4503599627370496
    · have hj := to_go h0 HX.out l1 c
      have HX2 : Hid ((2 * m + 2 * l / 1000000) * 1000000 + 2 * l % 1000000 = s * 2 ^ (j + 1)) := by
        have := twice HX.out
        rwa [← pow_step] at this
      go_wp2
      go_round
      case rel => exact ⟨j + 1, 2 * m + 2 * l / 1000000, 2 * l % 1000000, by go_num, by go_num, by go_num, by omega, by omega, by omega, by omega, by omega, HX2⟩
      case measure => simp [intOf]; omega
    · have HE := hide (to_end h0 h1 HX.out l0 l1 (by omega) m1)
      clear HX h0 h1 n0 n1
      have t4 : (m == 9007199254740992) = false := by simp; omega
      by_cases a1 : 1000000 - l < l
      · rw [if_pos (Or.inl (by omega))] at HE
        by_cases c3 : m + 1 = 9007199254740992
        · have t3 : (m + 1 == 9007199254740992) = true := by simpa using c3
          have C3 := hide c3
          clear c3
          cases ng
          · have hn : ¬ n < 0 := fun h => by have := HG.out.2 h; cases this
            go_wp2
            go_ret2
            exact ⟨by have hv := HV.out; have he := HE.out; have hc := C3.out; simp; omega, rfl⟩
          · have hn : n < 0 := HG.out.1 rfl
            go_wp2
            go_ret2
            exact ⟨by have hv := HV.out; have he := HE.out; have hc := C3.out; simp; omega, rfl⟩
        · have t3 : (m + 1 == 9007199254740992) = false := by simpa using c3
          cases ng
          · have hn : ¬ n < 0 := fun h => by have := HG.out.2 h; cases this
            go_wp2
            go_ret2
            exact ⟨by have hv := HV.out; have he := HE.out; simp; omega, rfl⟩
          · have hn : n < 0 := HG.out.1 rfl
            go_wp2
            go_ret2
            exact ⟨by have hv := HV.out; have he := HE.out; simp; omega, rfl⟩
      · by_cases a2 : l = 1000000 - l
        · have t1 : (l == 1000000 - l) = true := by simpa using a2
          by_cases a3 : m % 2 = 1
          · rw [if_pos (Or.inr ⟨by omega, a3⟩)] at HE
            have t2 : (m % 2 == 1) = true := by simpa using a3
            clear a2 a3
            by_cases c3 : m + 1 = 9007199254740992
            · have t3 : (m + 1 == 9007199254740992) = true := by simpa using c3
              have C3 := hide c3
              clear c3
              cases ng
              · have hn : ¬ n < 0 := fun h => by have := HG.out.2 h; cases this
                go_wp2
                go_ret2
                exact ⟨by have hv := HV.out; have he := HE.out; have hc := C3.out; simp; omega, rfl⟩
              · have hn : n < 0 := HG.out.1 rfl
                go_wp2
                go_ret2
                exact ⟨by have hv := HV.out; have he := HE.out; have hc := C3.out; simp; omega, rfl⟩
            · have t3 : (m + 1 == 9007199254740992) = false := by simpa using c3
              cases ng
              · have hn : ¬ n < 0 := fun h => by have := HG.out.2 h; cases this
                go_wp2
                go_ret2
                exact ⟨by have hv := HV.out; have he := HE.out; simp; omega, rfl⟩
              · have hn : n < 0 := HG.out.1 rfl
                go_wp2
                go_ret2
                exact ⟨by have hv := HV.out; have he := HE.out; simp; omega, rfl⟩
          · rw [if_neg (by omega)] at HE
            have t2 : (m % 2 == 1) = false := by simpa using a3
            clear a2
            cases ng
            · have hn : ¬ n < 0 := fun h => by have := HG.out.2 h; cases this
              go_wp2
              go_ret2
              exact ⟨by have hv := HV.out; have he := HE.out; simp; omega, rfl⟩
            · have hn : n < 0 := HG.out.1 rfl
              go_wp2
              go_ret2
              exact ⟨by have hv := HV.out; have he := HE.out; simp; omega, rfl⟩
        · have t1 : (l == 1000000 - l) = false := by simpa using a2
          rw [if_neg (by omega)] at HE
          cases ng
          · have hn : ¬ n < 0 := fun h => by have := HG.out.2 h; cases this
            go_wp2
            go_ret2
            exact ⟨by have hv := HV.out; have he := HE.out; simp; omega, rfl⟩
          · have hn : n < 0 := HG.out.1 rfl
            go_wp2
            go_ret2
            exact ⟨by have hv := HV.out; have he := HE.out; simp; omega, rfl⟩
set_option maxHeartbeats 1000000 in
theorem rto_any (n : Int) (w : World) :
    Calls Try.prog 16 #[.int .i64 n] w fun e w' => e = .returned (.tuple #[.int .u64 (toR n).1, .int .i64 (toR n).2]) ∧ w' = w := by
  have HF : Hid (∀ W : World, Calls Try.prog 29 #[.int .i64 n] W fun e w' => e = .returned (.bool (fitsB n)) ∧ w' = W) := fun W => rfits_any n W
  cases hf : fitsB n
  · rw [hf] at HF
    have e : toR n = (0, 2) := by unfold toR; rw [hf]; rfl
    rw [e]
    clear hf e
    go_enter Try.func16, Try.ntmps16
    go_wp2_with (go_at_call 29; refine (HF.out _).mono ?_; rintro e wz ⟨rfl, hz⟩; subst wz)
    go_ret2
    exact ⟨rfl, rfl⟩
  · by_cases c : n = 0
    · subst c
      have e : toR 0 = (0, 0) := by unfold toR; rw [hf]; rfl
      rw [hf] at HF
      rw [e]
      clear hf e
      go_enter Try.func16, Try.ntmps16
      go_wp2_with (go_at_call 29; refine (HF.out _).mono ?_; rintro e wz ⟨rfl, hz⟩; subst wz)
      go_ret2
      exact ⟨rfl, rfl⟩
    · obtain ⟨f0, f1⟩ := fitsB_true hf
      have s0 : 1 ≤ absI n := by unfold absI; split <;> omega
      have s1 : absI n ≤ 1000000000000000000 := absI_le (by omega) f1
      have key := rto_core n (absI n) (toB (absI n)) w rfl f0 f1 (by simpa using c) s0 s1 hf rfl _ rfl
      have e : toR n = (if decide (n < 0) then 9223372036854775808 + toB (absI n) else toB (absI n), 0) := by
        unfold toR
        rw [hf, if_pos rfl, if_neg c]
        by_cases d : n < 0
        · rw [if_pos d, decide_eq_true d, if_pos rfl, absI_neg d]
        · rw [if_neg d, decide_eq_false d, if_neg (by decide), absI_pos (by omega)]
      rw [e]
      exact key
end Go.Proofs.Ytnjnbhfpgoondaa
