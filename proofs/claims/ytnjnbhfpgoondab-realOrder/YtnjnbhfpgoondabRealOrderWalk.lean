/-
  The walk of RealOrder: for every three floats' bits it returns true.
-/
import Derived.Test.YtnjnbhfpgoondabRealRisesWalk
import Derived.Test.YtnjnbhfpgoondabRefReal
namespace Go.Proofs.Ytnjnbhfpgoondab
open Go.RowKit

theorem less_irr (a : Int) : lessR a a = false := by unfold lessR; exact decide_eq_false (by omega)
theorem less_asym {a b : Int} (h : lessR a b = true) : lessR b a = false := by
  have := of_decide_eq_true h
  unfold lessR; exact decide_eq_false (by omega)
theorem less_trans {a b c : Int} (h : lessR a b = true) (k : lessR b c = true) : lessR a c = true := by
  have h1 := of_decide_eq_true h
  have h2 := of_decide_eq_true k
  unfold lessR; exact decide_eq_true (by omega)
theorem less_kb {a b : Nat} (ha : a < 18446744073709551616) (h : lessR a b = true) : kindR b ≠ 0 := by
  intro k
  rw [lessR_b0 ha k] at h
  cases h
theorem less_total {a b : Nat} (ha : a < 18446744073709551616) (hb : b < 18446744073709551616) (k : kindR a ≠ 0) (ne : (a : Int) ≠ b) (h : lessR a b = false) : lessR b a = true := by
  have hr := of_decide_eq_false h
  by_cases kb : kindR b = 0
  · exact lessR_a0 ha kb k
  · have e1 := (rankR_num ha k).1
    have e2 := (rankR_num hb kb).1
    unfold lessR
    refine decide_eq_true ?_
    rcases Int.lt_or_le (rankR b) (rankR a) with c | c
    · exact c
    · exfalso
      have e : rankR a = rankR b := by omega
      rw [e1, e2] at e
      split at e <;> split at e <;> omega
set_option maxHeartbeats 4000000 in
theorem realOrder_walk (a0 : Int) (a1 : Int) (a2 : Int) (w0 : (Lit.int .u64 a0).wf = true) (w1 : (Lit.int .u64 a1).wf = true) (w2 : (Lit.int .u64 a2).wf = true) (w : World) :
    Calls Try.prog 4 #[.int .u64 a0, .int .u64 a1, .int .u64 a2] w fun e w' => e = .returned (.bool true) ∧ Below w.heap.size w w' := by
  obtain ⟨a, rfl, ha⟩ := word_nat2 w0
  obtain ⟨b, rfl, hb⟩ := word_nat2 w1
  obtain ⟨c, rfl, hc⟩ := word_nat2 w2
  have hB := Below.refl w.heap.size w
  have HA : Hid (∀ W : World, Calls Try.prog 12 #[.float .f64 a] W fun e w' => e = .returned (.int .i64 (kindR a)) ∧ Below W.heap.size W w') := fun W => kind_any a W ha
  have HB : Hid (∀ W : World, Calls Try.prog 12 #[.float .f64 b] W fun e w' => e = .returned (.int .i64 (kindR b)) ∧ Below W.heap.size W w') := fun W => kind_any b W hb
  have Hab : Hid (∀ W : World, Calls Try.prog 9 #[.float .f64 a, .float .f64 b] W fun e w' => e = .returned (.bool (lessR a b)) ∧ Below W.heap.size W w') := fun W => less_any a b W ha hb
  have Hba : Hid (∀ W : World, Calls Try.prog 9 #[.float .f64 b, .float .f64 a] W fun e w' => e = .returned (.bool (lessR b a)) ∧ Below W.heap.size W w') := fun W => less_any b a W hb ha
  have Haa : Hid (∀ W : World, Calls Try.prog 9 #[.float .f64 a, .float .f64 a] W fun e w' => e = .returned (.bool (lessR a a)) ∧ Below W.heap.size W w') := fun W => less_any a a W ha ha
  have Hbc : Hid (∀ W : World, Calls Try.prog 9 #[.float .f64 b, .float .f64 c] W fun e w' => e = .returned (.bool (lessR b c)) ∧ Below W.heap.size W w') := fun W => less_any b c W hb hc
  have Hac : Hid (∀ W : World, Calls Try.prog 9 #[.float .f64 a, .float .f64 c] W fun e w' => e = .returned (.bool (lessR a c)) ∧ Below W.heap.size W w') := fun W => less_any a c W ha hc
  have iaa := less_irr a
  rw [iaa] at Haa
  cases lab : lessR a b
  · by_cases ka : kindR a = 0
    · have kb : kindR b = 0 := by
        rcases Classical.em (kindR b = 0) with k | k
        · exact k
        · rw [lessR_a0 hb ka k] at lab; cases lab
      rw [ka] at HA
      rw [kb] at HB
      rw [lab] at Hab
      clear ka kb lab iaa ha hb hc w0 w1 w2
      go_enter Try.func4, Try.ntmps4
      go_wp2_with (first | (go_at_call_of 11 [Value.int IntKind.u64 (a : Int)]; refine (of_nat2 a _).mono ?_; rintro e wn ⟨rfl, hz⟩; subst wn) | (go_at_call_of 11 [Value.int IntKind.u64 (b : Int)]; refine (of_nat2 b _).mono ?_; rintro e wn ⟨rfl, hz⟩; subst wn) | (go_at_call_of 11 [Value.int IntKind.u64 (c : Int)]; refine (of_nat2 c _).mono ?_; rintro e wn ⟨rfl, hz⟩; subst wn) | (go_at_call_of 12 [Value.float FloatKind.f64 a]; refine (HA.out _).mono ?_; rintro e wn ⟨rfl, hbn⟩; replace hB := hB.trans (hbn.mono hB.size); clear hbn) | (go_at_call_of 12 [Value.float FloatKind.f64 b]; refine (HB.out _).mono ?_; rintro e wn ⟨rfl, hbn⟩; replace hB := hB.trans (hbn.mono hB.size); clear hbn) | (go_at_call_of 9 [Value.float FloatKind.f64 a, Value.float FloatKind.f64 b]; refine (Hab.out _).mono ?_; rintro e wn ⟨rfl, hbn⟩; replace hB := hB.trans (hbn.mono hB.size); clear hbn) | (go_at_call_of 9 [Value.float FloatKind.f64 b, Value.float FloatKind.f64 a]; refine (Hba.out _).mono ?_; rintro e wn ⟨rfl, hbn⟩; replace hB := hB.trans (hbn.mono hB.size); clear hbn) | (go_at_call_of 9 [Value.float FloatKind.f64 a, Value.float FloatKind.f64 a]; refine (Haa.out _).mono ?_; rintro e wn ⟨rfl, hbn⟩; replace hB := hB.trans (hbn.mono hB.size); clear hbn) | (go_at_call_of 9 [Value.float FloatKind.f64 b, Value.float FloatKind.f64 c]; refine (Hbc.out _).mono ?_; rintro e wn ⟨rfl, hbn⟩; replace hB := hB.trans (hbn.mono hB.size); clear hbn) | (go_at_call_of 9 [Value.float FloatKind.f64 a, Value.float FloatKind.f64 c]; refine (Hac.out _).mono ?_; rintro e wn ⟨rfl, hbn⟩; replace hB := hB.trans (hbn.mono hB.size); clear hbn) | (go_at_call 8; refine (lives2_any _).mono ?_; rintro e wn ⟨rfl, hbn⟩; replace hB := hB.trans (hbn.mono hB.size); clear hbn))
      go_ret
      exact ⟨rfl, hB⟩
    · by_cases ne : (a : Int) = b
      · have t0 : (kindR a == 0) = false := by simpa using ka
        have tn : ((a : Int) != b) = false := by simpa using ne
        rw [lab] at Hab
        generalize kindR a = k at *
        clear ka lab iaa ha hb hc w0 w1 w2 ne
        go_enter Try.func4, Try.ntmps4
        go_wp2_with (first | (go_at_call_of 11 [Value.int IntKind.u64 (a : Int)]; refine (of_nat2 a _).mono ?_; rintro e wn ⟨rfl, hz⟩; subst wn) | (go_at_call_of 11 [Value.int IntKind.u64 (b : Int)]; refine (of_nat2 b _).mono ?_; rintro e wn ⟨rfl, hz⟩; subst wn) | (go_at_call_of 11 [Value.int IntKind.u64 (c : Int)]; refine (of_nat2 c _).mono ?_; rintro e wn ⟨rfl, hz⟩; subst wn) | (go_at_call_of 12 [Value.float FloatKind.f64 a]; refine (HA.out _).mono ?_; rintro e wn ⟨rfl, hbn⟩; replace hB := hB.trans (hbn.mono hB.size); clear hbn) | (go_at_call_of 12 [Value.float FloatKind.f64 b]; refine (HB.out _).mono ?_; rintro e wn ⟨rfl, hbn⟩; replace hB := hB.trans (hbn.mono hB.size); clear hbn) | (go_at_call_of 9 [Value.float FloatKind.f64 a, Value.float FloatKind.f64 b]; refine (Hab.out _).mono ?_; rintro e wn ⟨rfl, hbn⟩; replace hB := hB.trans (hbn.mono hB.size); clear hbn) | (go_at_call_of 9 [Value.float FloatKind.f64 b, Value.float FloatKind.f64 a]; refine (Hba.out _).mono ?_; rintro e wn ⟨rfl, hbn⟩; replace hB := hB.trans (hbn.mono hB.size); clear hbn) | (go_at_call_of 9 [Value.float FloatKind.f64 a, Value.float FloatKind.f64 a]; refine (Haa.out _).mono ?_; rintro e wn ⟨rfl, hbn⟩; replace hB := hB.trans (hbn.mono hB.size); clear hbn) | (go_at_call_of 9 [Value.float FloatKind.f64 b, Value.float FloatKind.f64 c]; refine (Hbc.out _).mono ?_; rintro e wn ⟨rfl, hbn⟩; replace hB := hB.trans (hbn.mono hB.size); clear hbn) | (go_at_call_of 9 [Value.float FloatKind.f64 a, Value.float FloatKind.f64 c]; refine (Hac.out _).mono ?_; rintro e wn ⟨rfl, hbn⟩; replace hB := hB.trans (hbn.mono hB.size); clear hbn) | (go_at_call 8; refine (lives2_any _).mono ?_; rintro e wn ⟨rfl, hbn⟩; replace hB := hB.trans (hbn.mono hB.size); clear hbn))
        go_ret
        exact ⟨rfl, hB⟩
      · have lba := less_total ha hb ka ne lab
        have t0 : (kindR a == 0) = false := by simpa using ka
        have tn : ((a : Int) != b) = true := by simpa using ne
        rw [lab] at Hab
        rw [lba] at Hba
        generalize kindR a = k at *
        clear ka lab lba iaa ha hb hc w0 w1 w2 ne
        go_enter Try.func4, Try.ntmps4
        go_wp2_with (first | (go_at_call_of 11 [Value.int IntKind.u64 (a : Int)]; refine (of_nat2 a _).mono ?_; rintro e wn ⟨rfl, hz⟩; subst wn) | (go_at_call_of 11 [Value.int IntKind.u64 (b : Int)]; refine (of_nat2 b _).mono ?_; rintro e wn ⟨rfl, hz⟩; subst wn) | (go_at_call_of 11 [Value.int IntKind.u64 (c : Int)]; refine (of_nat2 c _).mono ?_; rintro e wn ⟨rfl, hz⟩; subst wn) | (go_at_call_of 12 [Value.float FloatKind.f64 a]; refine (HA.out _).mono ?_; rintro e wn ⟨rfl, hbn⟩; replace hB := hB.trans (hbn.mono hB.size); clear hbn) | (go_at_call_of 12 [Value.float FloatKind.f64 b]; refine (HB.out _).mono ?_; rintro e wn ⟨rfl, hbn⟩; replace hB := hB.trans (hbn.mono hB.size); clear hbn) | (go_at_call_of 9 [Value.float FloatKind.f64 a, Value.float FloatKind.f64 b]; refine (Hab.out _).mono ?_; rintro e wn ⟨rfl, hbn⟩; replace hB := hB.trans (hbn.mono hB.size); clear hbn) | (go_at_call_of 9 [Value.float FloatKind.f64 b, Value.float FloatKind.f64 a]; refine (Hba.out _).mono ?_; rintro e wn ⟨rfl, hbn⟩; replace hB := hB.trans (hbn.mono hB.size); clear hbn) | (go_at_call_of 9 [Value.float FloatKind.f64 a, Value.float FloatKind.f64 a]; refine (Haa.out _).mono ?_; rintro e wn ⟨rfl, hbn⟩; replace hB := hB.trans (hbn.mono hB.size); clear hbn) | (go_at_call_of 9 [Value.float FloatKind.f64 b, Value.float FloatKind.f64 c]; refine (Hbc.out _).mono ?_; rintro e wn ⟨rfl, hbn⟩; replace hB := hB.trans (hbn.mono hB.size); clear hbn) | (go_at_call_of 9 [Value.float FloatKind.f64 a, Value.float FloatKind.f64 c]; refine (Hac.out _).mono ?_; rintro e wn ⟨rfl, hbn⟩; replace hB := hB.trans (hbn.mono hB.size); clear hbn) | (go_at_call 8; refine (lives2_any _).mono ?_; rintro e wn ⟨rfl, hbn⟩; replace hB := hB.trans (hbn.mono hB.size); clear hbn))
        go_ret
        exact ⟨rfl, hB⟩
  · have kb := less_kb ha lab
    have lba := less_asym lab
    have tb : (kindR b == 0) = false := by simpa using kb
    have ne : (a : Int) ≠ b := by
      intro e
      rw [e, less_irr] at lab; cases lab
    have tn : ((a : Int) != b) = true := by simpa using ne
    have tr := less_trans (c := c) lab
    rw [lab] at Hab
    rw [lba] at Hba
    generalize kindR b = k at *
    clear kb lab lba iaa ha hb hc w0 w1 w2 ne
    by_cases ka : kindR a = 0
    · rw [ka] at HA
      clear ka
      cases lbc : lessR b c
      · rw [lbc] at Hbc
        clear tr lbc
        go_enter Try.func4, Try.ntmps4
        go_wp2_with (first | (go_at_call_of 11 [Value.int IntKind.u64 (a : Int)]; refine (of_nat2 a _).mono ?_; rintro e wn ⟨rfl, hz⟩; subst wn) | (go_at_call_of 11 [Value.int IntKind.u64 (b : Int)]; refine (of_nat2 b _).mono ?_; rintro e wn ⟨rfl, hz⟩; subst wn) | (go_at_call_of 11 [Value.int IntKind.u64 (c : Int)]; refine (of_nat2 c _).mono ?_; rintro e wn ⟨rfl, hz⟩; subst wn) | (go_at_call_of 12 [Value.float FloatKind.f64 a]; refine (HA.out _).mono ?_; rintro e wn ⟨rfl, hbn⟩; replace hB := hB.trans (hbn.mono hB.size); clear hbn) | (go_at_call_of 12 [Value.float FloatKind.f64 b]; refine (HB.out _).mono ?_; rintro e wn ⟨rfl, hbn⟩; replace hB := hB.trans (hbn.mono hB.size); clear hbn) | (go_at_call_of 9 [Value.float FloatKind.f64 a, Value.float FloatKind.f64 b]; refine (Hab.out _).mono ?_; rintro e wn ⟨rfl, hbn⟩; replace hB := hB.trans (hbn.mono hB.size); clear hbn) | (go_at_call_of 9 [Value.float FloatKind.f64 b, Value.float FloatKind.f64 a]; refine (Hba.out _).mono ?_; rintro e wn ⟨rfl, hbn⟩; replace hB := hB.trans (hbn.mono hB.size); clear hbn) | (go_at_call_of 9 [Value.float FloatKind.f64 a, Value.float FloatKind.f64 a]; refine (Haa.out _).mono ?_; rintro e wn ⟨rfl, hbn⟩; replace hB := hB.trans (hbn.mono hB.size); clear hbn) | (go_at_call_of 9 [Value.float FloatKind.f64 b, Value.float FloatKind.f64 c]; refine (Hbc.out _).mono ?_; rintro e wn ⟨rfl, hbn⟩; replace hB := hB.trans (hbn.mono hB.size); clear hbn) | (go_at_call_of 9 [Value.float FloatKind.f64 a, Value.float FloatKind.f64 c]; refine (Hac.out _).mono ?_; rintro e wn ⟨rfl, hbn⟩; replace hB := hB.trans (hbn.mono hB.size); clear hbn) | (go_at_call 8; refine (lives2_any _).mono ?_; rintro e wn ⟨rfl, hbn⟩; replace hB := hB.trans (hbn.mono hB.size); clear hbn))
        go_ret
        exact ⟨rfl, hB⟩
      · rw [lbc] at Hbc
        rw [tr lbc] at Hac
        clear tr lbc
        go_enter Try.func4, Try.ntmps4
        go_wp2_with (first | (go_at_call_of 11 [Value.int IntKind.u64 (a : Int)]; refine (of_nat2 a _).mono ?_; rintro e wn ⟨rfl, hz⟩; subst wn) | (go_at_call_of 11 [Value.int IntKind.u64 (b : Int)]; refine (of_nat2 b _).mono ?_; rintro e wn ⟨rfl, hz⟩; subst wn) | (go_at_call_of 11 [Value.int IntKind.u64 (c : Int)]; refine (of_nat2 c _).mono ?_; rintro e wn ⟨rfl, hz⟩; subst wn) | (go_at_call_of 12 [Value.float FloatKind.f64 a]; refine (HA.out _).mono ?_; rintro e wn ⟨rfl, hbn⟩; replace hB := hB.trans (hbn.mono hB.size); clear hbn) | (go_at_call_of 12 [Value.float FloatKind.f64 b]; refine (HB.out _).mono ?_; rintro e wn ⟨rfl, hbn⟩; replace hB := hB.trans (hbn.mono hB.size); clear hbn) | (go_at_call_of 9 [Value.float FloatKind.f64 a, Value.float FloatKind.f64 b]; refine (Hab.out _).mono ?_; rintro e wn ⟨rfl, hbn⟩; replace hB := hB.trans (hbn.mono hB.size); clear hbn) | (go_at_call_of 9 [Value.float FloatKind.f64 b, Value.float FloatKind.f64 a]; refine (Hba.out _).mono ?_; rintro e wn ⟨rfl, hbn⟩; replace hB := hB.trans (hbn.mono hB.size); clear hbn) | (go_at_call_of 9 [Value.float FloatKind.f64 a, Value.float FloatKind.f64 a]; refine (Haa.out _).mono ?_; rintro e wn ⟨rfl, hbn⟩; replace hB := hB.trans (hbn.mono hB.size); clear hbn) | (go_at_call_of 9 [Value.float FloatKind.f64 b, Value.float FloatKind.f64 c]; refine (Hbc.out _).mono ?_; rintro e wn ⟨rfl, hbn⟩; replace hB := hB.trans (hbn.mono hB.size); clear hbn) | (go_at_call_of 9 [Value.float FloatKind.f64 a, Value.float FloatKind.f64 c]; refine (Hac.out _).mono ?_; rintro e wn ⟨rfl, hbn⟩; replace hB := hB.trans (hbn.mono hB.size); clear hbn) | (go_at_call 8; refine (lives2_any _).mono ?_; rintro e wn ⟨rfl, hbn⟩; replace hB := hB.trans (hbn.mono hB.size); clear hbn))
        go_ret
        exact ⟨rfl, hB⟩
    · have t0 : (kindR a == 0) = false := by simpa using ka
      generalize kindR a = q at *
      clear ka
      cases lbc : lessR b c
      · rw [lbc] at Hbc
        clear tr lbc
        go_enter Try.func4, Try.ntmps4
        go_wp2_with (first | (go_at_call_of 11 [Value.int IntKind.u64 (a : Int)]; refine (of_nat2 a _).mono ?_; rintro e wn ⟨rfl, hz⟩; subst wn) | (go_at_call_of 11 [Value.int IntKind.u64 (b : Int)]; refine (of_nat2 b _).mono ?_; rintro e wn ⟨rfl, hz⟩; subst wn) | (go_at_call_of 11 [Value.int IntKind.u64 (c : Int)]; refine (of_nat2 c _).mono ?_; rintro e wn ⟨rfl, hz⟩; subst wn) | (go_at_call_of 12 [Value.float FloatKind.f64 a]; refine (HA.out _).mono ?_; rintro e wn ⟨rfl, hbn⟩; replace hB := hB.trans (hbn.mono hB.size); clear hbn) | (go_at_call_of 12 [Value.float FloatKind.f64 b]; refine (HB.out _).mono ?_; rintro e wn ⟨rfl, hbn⟩; replace hB := hB.trans (hbn.mono hB.size); clear hbn) | (go_at_call_of 9 [Value.float FloatKind.f64 a, Value.float FloatKind.f64 b]; refine (Hab.out _).mono ?_; rintro e wn ⟨rfl, hbn⟩; replace hB := hB.trans (hbn.mono hB.size); clear hbn) | (go_at_call_of 9 [Value.float FloatKind.f64 b, Value.float FloatKind.f64 a]; refine (Hba.out _).mono ?_; rintro e wn ⟨rfl, hbn⟩; replace hB := hB.trans (hbn.mono hB.size); clear hbn) | (go_at_call_of 9 [Value.float FloatKind.f64 a, Value.float FloatKind.f64 a]; refine (Haa.out _).mono ?_; rintro e wn ⟨rfl, hbn⟩; replace hB := hB.trans (hbn.mono hB.size); clear hbn) | (go_at_call_of 9 [Value.float FloatKind.f64 b, Value.float FloatKind.f64 c]; refine (Hbc.out _).mono ?_; rintro e wn ⟨rfl, hbn⟩; replace hB := hB.trans (hbn.mono hB.size); clear hbn) | (go_at_call_of 9 [Value.float FloatKind.f64 a, Value.float FloatKind.f64 c]; refine (Hac.out _).mono ?_; rintro e wn ⟨rfl, hbn⟩; replace hB := hB.trans (hbn.mono hB.size); clear hbn) | (go_at_call 8; refine (lives2_any _).mono ?_; rintro e wn ⟨rfl, hbn⟩; replace hB := hB.trans (hbn.mono hB.size); clear hbn))
        go_ret
        exact ⟨rfl, hB⟩
      · rw [lbc] at Hbc
        rw [tr lbc] at Hac
        clear tr lbc
        go_enter Try.func4, Try.ntmps4
        go_wp2_with (first | (go_at_call_of 11 [Value.int IntKind.u64 (a : Int)]; refine (of_nat2 a _).mono ?_; rintro e wn ⟨rfl, hz⟩; subst wn) | (go_at_call_of 11 [Value.int IntKind.u64 (b : Int)]; refine (of_nat2 b _).mono ?_; rintro e wn ⟨rfl, hz⟩; subst wn) | (go_at_call_of 11 [Value.int IntKind.u64 (c : Int)]; refine (of_nat2 c _).mono ?_; rintro e wn ⟨rfl, hz⟩; subst wn) | (go_at_call_of 12 [Value.float FloatKind.f64 a]; refine (HA.out _).mono ?_; rintro e wn ⟨rfl, hbn⟩; replace hB := hB.trans (hbn.mono hB.size); clear hbn) | (go_at_call_of 12 [Value.float FloatKind.f64 b]; refine (HB.out _).mono ?_; rintro e wn ⟨rfl, hbn⟩; replace hB := hB.trans (hbn.mono hB.size); clear hbn) | (go_at_call_of 9 [Value.float FloatKind.f64 a, Value.float FloatKind.f64 b]; refine (Hab.out _).mono ?_; rintro e wn ⟨rfl, hbn⟩; replace hB := hB.trans (hbn.mono hB.size); clear hbn) | (go_at_call_of 9 [Value.float FloatKind.f64 b, Value.float FloatKind.f64 a]; refine (Hba.out _).mono ?_; rintro e wn ⟨rfl, hbn⟩; replace hB := hB.trans (hbn.mono hB.size); clear hbn) | (go_at_call_of 9 [Value.float FloatKind.f64 a, Value.float FloatKind.f64 a]; refine (Haa.out _).mono ?_; rintro e wn ⟨rfl, hbn⟩; replace hB := hB.trans (hbn.mono hB.size); clear hbn) | (go_at_call_of 9 [Value.float FloatKind.f64 b, Value.float FloatKind.f64 c]; refine (Hbc.out _).mono ?_; rintro e wn ⟨rfl, hbn⟩; replace hB := hB.trans (hbn.mono hB.size); clear hbn) | (go_at_call_of 9 [Value.float FloatKind.f64 a, Value.float FloatKind.f64 c]; refine (Hac.out _).mono ?_; rintro e wn ⟨rfl, hbn⟩; replace hB := hB.trans (hbn.mono hB.size); clear hbn) | (go_at_call 8; refine (lives2_any _).mono ?_; rintro e wn ⟨rfl, hbn⟩; replace hB := hB.trans (hbn.mono hB.size); clear hbn))
        go_ret
        exact ⟨rfl, hB⟩
end Go.Proofs.Ytnjnbhfpgoondab
