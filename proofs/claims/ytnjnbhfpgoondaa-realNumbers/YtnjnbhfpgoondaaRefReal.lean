/-
  The contracts of the answer's Parts, Kind, Scale, Less and Next of layer 2.
-/
import Derived.Test.YtnjnbhfpgoondaaRealNext
import Derived.Deep.QuietTactic
import Derived.BigQuiet
namespace Go.Proofs.Ytnjnbhfpgoondaa
open Go.RowKit

theorem top_bit (b : Nat) (h : b < 18446744073709551616) : ((b : Int) / 9223372036854775808 == 1) = fNeg b := by
  unfold fNeg
  rw [Bool.eq_iff_iff]; simp; omega
theorem top_bit0 (b : Nat) (h : b < 18446744073709551616) : ((b : Int) / 9223372036854775808 == 0) = !fNeg b := by
  unfold fNeg
  rw [Bool.eq_iff_iff]; simp; omega
theorem and_exp_u (b : Nat) (h : b < 18446744073709551616) : bits BinOp.and IntKind.u64 ((b : Int) / 4503599627370496) 2047 = fExp b := by
  unfold fExp
  have e : (b : Int) / 4503599627370496 = ((b / 4503599627370496 : Nat) : Int) := by omega
  rw [e]
  have k := and_mask (b / 4503599627370496) 11 (by decide) (by omega)
  have e3 : ((2 ^ 11 - 1 : Nat) : Int) = 2047 := rfl
  rw [e3] at k
  rw [k]; omega
set_option maxHeartbeats 1000000 in
theorem rparts_any (b : Nat) (w : World) (h : b < 18446744073709551616) :
    Calls Try.prog 24 #[.int .u64 (b : Int)] w fun e w' => e = .returned (.agg #[.bool (fNeg b), .int .i64 (fExp b), .int .u64 (fPart b)]) ∧ Below w.heap.size w w' := by
  have e1 := top_bit b h
  have e2 := and_exp_u b h
  have e3 := and_part b h
  obtain ⟨x0, x1⟩ := fExp_bd b
  generalize fExp b = E at *
  generalize fPart b = F at *
  generalize fNeg b = ng at *
  go_enter Try.func24, Try.ntmps24
  go_wp2
  exact bodyPost_ret (v := .agg #[.bool ng, .int .i64 E, .int .u64 F]) (by simp [results, Try.results24, go_sem]) rfl ⟨rfl, (Below.refl _ _).alloc (Nat.le_refl _) _⟩
set_option maxHeartbeats 1000000 in
theorem rkind_any (b : Nat) (w : World) (h : b < 18446744073709551616) :
    Calls Try.prog 11 #[.int .u64 (b : Int)] w fun e w' => e = .returned (.int .i64 (kindR b)) ∧ Below w.heap.size w w' := by
  have HP : Hid (∀ W : World, Calls Try.prog 24 #[.int .u64 (b : Int)] W fun e w' => e = .returned (.agg #[.bool (fNeg b), .int .i64 (fExp b), .int .u64 (fPart b)]) ∧ Below W.heap.size W w') := fun W => rparts_any b W h
  obtain ⟨x0, x1⟩ := fExp_bd b
  obtain ⟨f0, f1⟩ := fPart_bd b
  unfold kindR
  generalize fExp b = E at *
  generalize fPart b = F at *
  generalize fNeg b = ng at *
  by_cases c1 : E = 2047
  · subst c1
    by_cases c2 : F = 0
    · subst c2
      go_enter Try.func11, Try.ntmps11
      go_wp2_with (go_at_call 24; refine (HP.out _).mono ?_; rintro e w1 ⟨rfl, hb1⟩)
      go_ret
      exact ⟨rfl, hb1.alloc hb1.size _⟩
    · have c3 : 0 < F := by omega
      rw [if_pos rfl, if_neg c2]
      go_enter Try.func11, Try.ntmps11
      go_wp2_with (go_at_call 24; refine (HP.out _).mono ?_; rintro e w1 ⟨rfl, hb1⟩)
      go_ret
      exact ⟨rfl, hb1.alloc hb1.size _⟩
  · have t0 : (E == 2047) = false := by simpa using c1
    rw [if_neg c1]
    by_cases c3 : E = 0
    · subst c3
      by_cases c2 : F = 0
      · subst c2
        go_enter Try.func11, Try.ntmps11
        go_wp2_with (go_at_call 24; refine (HP.out _).mono ?_; rintro e w1 ⟨rfl, hb1⟩)
        go_ret
        exact ⟨rfl, hb1.alloc hb1.size _⟩
      · have t2 : (F == 0) = false := by simpa using c2
        rw [if_pos rfl, if_neg c2]
        go_enter Try.func11, Try.ntmps11
        go_wp2_with (go_at_call 24; refine (HP.out _).mono ?_; rintro e w1 ⟨rfl, hb1⟩)
        go_ret
        exact ⟨rfl, hb1.alloc hb1.size _⟩
    · have t3 : (E == 0) = false := by simpa using c3
      rw [if_neg c3]
      go_enter Try.func11, Try.ntmps11
      go_wp2_with (go_at_call 24; refine (HP.out _).mono ?_; rintro e w1 ⟨rfl, hb1⟩)
      go_ret
      exact ⟨rfl, hb1.alloc hb1.size _⟩
set_option maxHeartbeats 1000000 in
theorem rscale_any (E F : Int) (ng : Bool) (w : World) (x0 : 0 ≤ E) (x1 : E < 2048) (f0 : 0 ≤ F) (f1 : F < 4503599627370496) :
    Calls Try.prog 26 #[.agg #[.bool ng, .int .i64 E, .int .u64 F]] w fun e w' => e = .returned (.tuple #[.int .u64 (if E = 0 then F else 4503599627370496 + F), .int .i64 (if E = 0 then -1074 else E - 1075)]) ∧ Below w.heap.size w w' := by
  by_cases c : E = 0
  · subst c
    go_enter Try.func26, Try.ntmps26
    go_wp2
    go_ret2
    exact ⟨by simp, (Below.refl _ _).alloc (Nat.le_refl _) _⟩
  · have t3 : (E == 0) = false := by simpa using c
    rw [if_neg c, if_neg c]
    go_enter Try.func26, Try.ntmps26
    go_wp2_with fail
    go_quiet (fail)
    go_wp2
    go_ret2
    exact ⟨by simp; omega, below_drewN ((Below.refl _ _).alloc (Nat.le_refl _) _) _⟩

set_option maxHeartbeats 1000000 in
theorem rnext_any (b : Nat) (w : World) (h : b < 18446744073709551616) :
    Calls Try.prog 19 #[.int .u64 (b : Int)] w fun e w' => e = .returned (.tuple #[.int .u64 (nextR b).1, .int .i64 (nextR b).2]) ∧ Below w.heap.size w w' := by
  have HK : Hid (∀ W : World, Calls Try.prog 11 #[.int .u64 (b : Int)] W fun e w' => e = .returned (.int .i64 (kindR b)) ∧ Below W.heap.size W w') := fun W => rkind_any b W h
  have nb := num_bits (b := b) (by omega) (by omega)
  have z2 : (b : Int) = 0 → kindR b = 2 := by
    intro e; rw [e]; decide
  have e1 := top_bit b h
  have hn : fNeg b = decide (9223372036854775808 ≤ (b : Int)) := rfl
  unfold nextR
  generalize kindR b = k at *
  generalize fNeg b = ng at *
  by_cases c0 : k = 0
  · subst c0
    rw [if_pos (Or.inl rfl)]
    clear nb z2 e1 hn
    go_enter Try.func19, Try.ntmps19
    go_wp2_with (go_at_call 11; refine (HK.out _).mono ?_; rintro e w1 ⟨rfl, hb1⟩)
    go_ret2
    exact ⟨rfl, hb1⟩
  · have t0 : (k == 0) = false := by simpa using c0
    have nb := nb c0
    by_cases ci : (b : Int) = 9218868437227405312
    · rw [if_pos (Or.inr ci)]
      have ti : ((b : Int) == 9218868437227405312) = true := by simpa using ci
      clear nb z2 e1 hn ci
      go_enter Try.func19, Try.ntmps19
      go_wp2_with (go_at_call 11; refine (HK.out _).mono ?_; rintro e w1 ⟨rfl, hb1⟩)
      go_ret2
      exact ⟨rfl, hb1⟩
    · rw [if_neg (fun h => h.elim c0 ci)]
      have ti : ((b : Int) == 9218868437227405312) = false := by simpa using ci
      by_cases c2 : k = 2
      · subst c2
        rw [if_pos rfl]
        clear nb z2 e1 hn ci
        go_enter Try.func19, Try.ntmps19
        go_wp2_with fail
        refine (HK.out _).mono ?_
        rintro e w1 ⟨rfl, hb1⟩
        go_wp2_with fail
        refine (HK.out _).mono ?_
        rintro e w2 ⟨rfl, hb2⟩
        go_wp2
        go_ret2
        exact ⟨rfl, hb1.trans (hb2.mono hb1.size)⟩
      · have t2 : (k == 2) = false := by simpa using c2
        rw [if_neg c2]
        have hz : (b : Int) ≠ 0 := fun e => c2 (z2 e)
        cases ng
        · have hb : (b : Int) < 9223372036854775808 := by have := of_decide_eq_false hn.symm; omega
          have hb0 : 0 ≤ (b : Int) := by omega
          clear nb z2 hn ci hz
          generalize (b : Int) = X at *
          go_enter Try.func19, Try.ntmps19
          go_wp2_with fail
          refine (HK.out _).mono ?_
          rintro e w1 ⟨rfl, hb1⟩
          go_wp2_with fail
          refine (HK.out _).mono ?_
          rintro e w2 ⟨rfl, hb2⟩
          go_wp2
          go_ret2
          exact ⟨by simp, hb1.trans (hb2.mono hb1.size)⟩
        · have hb : 9223372036854775808 ≤ (b : Int) := of_decide_eq_true hn.symm
          clear nb z2 hn ci
          go_enter Try.func19, Try.ntmps19
          go_wp2_with fail
          refine (HK.out _).mono ?_
          rintro e w1 ⟨rfl, hb1⟩
          go_wp2_with fail
          refine (HK.out _).mono ?_
          rintro e w2 ⟨rfl, hb2⟩
          go_wp2
          go_ret2
          exact ⟨by simp, hb1.trans (hb2.mono hb1.size)⟩
theorem and_rest (b : Nat) (h : b < 18446744073709551616) : bits BinOp.and IntKind.u64 (b : Int) 9223372036854775807 = (b : Int) % 9223372036854775808 := by
  have := and_mask b 63 (by decide) h
  simpa using this
theorem lessR_b0 {a b : Nat} (ha : a < 18446744073709551616) (h : kindR b = 0) : lessR a b = false := by
  have := rankR_bd a ha
  unfold lessR
  rw [show rankR (b : Int) = 0 from by unfold rankR; rw [if_pos h]]
  exact decide_eq_false (by omega)
theorem rankR_num {b : Nat} (h : b < 18446744073709551616) (k : kindR b ≠ 0) : rankR b = (if (b : Int) < 9223372036854775808 then (b : Int) + 9223372036854775808 else 18446744073709551615 - b) ∧ 0 < rankR b := by
  have nb := num_bits (b := b) (by omega) (by omega) k
  unfold rankR fNeg
  rw [if_neg k]
  by_cases c : (b : Int) < 9223372036854775808
  · rw [if_pos c, decide_eq_false (by omega), if_neg (by decide)]; omega
  · rw [if_neg c, decide_eq_true (by omega), if_pos rfl]; omega
theorem lessR_a0 {a b : Nat} (hb : b < 18446744073709551616) (h : kindR a = 0) (k : kindR b ≠ 0) : lessR a b = true := by
  have := (rankR_num hb k).2
  unfold lessR
  rw [show rankR (a : Int) = 0 from by unfold rankR; rw [if_pos h]]
  exact decide_eq_true this
theorem lessR_num {a b : Nat} (ha : a < 18446744073709551616) (hb : b < 18446744073709551616) (ka : kindR a ≠ 0) (kb : kindR b ≠ 0) :
    lessR a b = if fNeg a then (!fNeg b || decide ((b : Int) % 9223372036854775808 < (a : Int) % 9223372036854775808)) else (!fNeg b && decide ((a : Int) % 9223372036854775808 < (b : Int) % 9223372036854775808)) := by
  unfold lessR
  rw [(rankR_num ha ka).1, (rankR_num hb kb).1]
  unfold fNeg
  by_cases ca : (a : Int) < 9223372036854775808 <;> by_cases cb : (b : Int) < 9223372036854775808
  · rw [if_pos ca, if_pos cb, decide_eq_false (show ¬ 9223372036854775808 ≤ (a : Int) by omega), decide_eq_false (show ¬ 9223372036854775808 ≤ (b : Int) by omega)]
    simp; omega
  · rw [if_pos ca, if_neg cb, decide_eq_false (show ¬ 9223372036854775808 ≤ (a : Int) by omega), decide_eq_true (show 9223372036854775808 ≤ (b : Int) by omega)]
    simp; omega
  · rw [if_neg ca, if_pos cb, decide_eq_true (show 9223372036854775808 ≤ (a : Int) by omega), decide_eq_false (show ¬ 9223372036854775808 ≤ (b : Int) by omega)]
    simp; omega
  · rw [if_neg ca, if_neg cb, decide_eq_true (show 9223372036854775808 ≤ (a : Int) by omega), decide_eq_true (show 9223372036854775808 ≤ (b : Int) by omega)]
    simp; omega
set_option maxHeartbeats 1000000 in
theorem rless_core (a b : Nat) (ka kb : Int) (na nb : Bool) (x y : Int) (w : World)
    (HA : Hid (∀ W : World, Calls Try.prog 11 #[.int .u64 (a : Int)] W fun e w' => e = .returned (.int .i64 ka) ∧ Below W.heap.size W w'))
    (HB : Hid (∀ W : World, Calls Try.prog 11 #[.int .u64 (b : Int)] W fun e w' => e = .returned (.int .i64 kb) ∧ Below W.heap.size W w'))
    (e1 : ((a : Int) / 9223372036854775808 == 1) = na) (e2 : ((b : Int) / 9223372036854775808 == 0) = !nb) (e3 : bits BinOp.and IntKind.u64 (a : Int) 9223372036854775807 = x) (e4 : bits BinOp.and IntKind.u64 (b : Int) 9223372036854775807 = y) :
    Calls Try.prog 21 #[.int .u64 (a : Int), .int .u64 (b : Int)] w fun e w' => e = .returned (.bool (if kb = 0 then false else if ka = 0 then true else if na then (!nb || decide (y < x)) else (!nb && decide (x < y)))) ∧ Below w.heap.size w w' := by
  by_cases c1 : kb = 0
  · subst c1
    go_enter Try.func21, Try.ntmps21
    go_wp2_with fail
    refine (HB.out _).mono ?_
    rintro e w1 ⟨rfl, hb1⟩
    go_wp2
    go_ret
    exact ⟨rfl, hb1⟩
  · have t1 : (kb == 0) = false := by simpa using c1
    rw [if_neg c1]
    by_cases c2 : ka = 0
    · subst c2
      go_enter Try.func21, Try.ntmps21
      go_wp2_with fail
      refine (HB.out _).mono ?_
      rintro e w1 ⟨rfl, hb1⟩
      go_wp2_with fail
      refine (HA.out _).mono ?_
      rintro e w2 ⟨rfl, hb2⟩
      go_wp2
      go_ret
      exact ⟨rfl, hb1.trans (hb2.mono hb1.size)⟩
    · have t2 : (ka == 0) = false := by simpa using c2
      rw [if_neg c2]
      cases na <;> cases nb
      all_goals
        go_enter Try.func21, Try.ntmps21
        go_wp2_with fail
        refine (HB.out _).mono ?_
        rintro e w1 ⟨rfl, hb1⟩
        go_wp2_with fail
        refine (HA.out _).mono ?_
        rintro e w2 ⟨rfl, hb2⟩
        go_wp2
        go_ret
        exact ⟨by simp, hb1.trans (hb2.mono hb1.size)⟩
theorem rless_any (a b : Nat) (w : World) (ha : a < 18446744073709551616) (hb : b < 18446744073709551616) :
    Calls Try.prog 21 #[.int .u64 (a : Int), .int .u64 (b : Int)] w fun e w' => e = .returned (.bool (lessR a b)) ∧ Below w.heap.size w w' := by
  have key := rless_core a b _ _ _ _ _ _ w (fun W => rkind_any a W ha) (fun W => rkind_any b W hb) (top_bit a ha) (top_bit0 b hb) (and_rest a ha) (and_rest b hb)
  have e : lessR a b = (if kindR b = 0 then false else if kindR a = 0 then true else if fNeg a then (!fNeg b || decide ((b : Int) % 9223372036854775808 < (a : Int) % 9223372036854775808)) else (!fNeg b && decide ((a : Int) % 9223372036854775808 < (b : Int) % 9223372036854775808))) := by
    by_cases c1 : kindR b = 0
    · rw [if_pos c1]; exact lessR_b0 ha c1
    · rw [if_neg c1]
      by_cases c2 : kindR a = 0
      · rw [if_pos c2]; exact lessR_a0 hb c2 c1
      · rw [if_neg c2]; exact lessR_num ha hb c2 c1
  rw [e]
  exact key
end Go.Proofs.Ytnjnbhfpgoondaa
