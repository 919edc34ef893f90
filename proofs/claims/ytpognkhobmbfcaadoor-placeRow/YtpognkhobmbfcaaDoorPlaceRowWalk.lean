/-
  The walk of PlaceRow: for every two ints it returns true.
-/
import Derived.Test.YtpognkhobmbfcaaDoorPt8
namespace Go.Proofs.YtpognkhobmbfcaaDoor
open Go.RowKit

theorem less_cons (a b : UInt8) (l m : List UInt8) : Op.bytesLess (a :: l) (b :: m) = true ↔ a.toNat < b.toNat ∨ (a.toNat = b.toNat ∧ Op.bytesLess l m = true) := by
  rw [Op.bytesLess, Bool.or_eq_true, Bool.and_eq_true, decide_eq_true_eq, beq_iff_eq, UInt8.lt_iff_toNat_lt, ← UInt8.toNat_inj]
theorem let_nat {k : Nat} (h : k < 191) : (UInt8.ofNat (65 + k)).toNat = 65 + k := ofNat_nat (by omega)
theorem let_nat' {k : Nat} (h : k < 191) : (UInt8.ofNat (64 + k)).toNat = 64 + k := ofNat_nat (by omega)
/-- Of two columns the one further on has more letters, or as many that stand behind. -/
theorem letters_row {m n : Nat} (h0 : 0 < m) (h : m < n) (hn : n ≤ 16384) : (lettersN m).length < (lettersN n).length ∨ ((lettersN m).length = (lettersN n).length ∧ Op.bytesLess (lettersN m) (lettersN n) = true) := by
  rcases letters_cases h0 (by omega) with a | ⟨a, a'⟩ | a
  · rcases letters_cases (n := n) (by omega) hn with b | ⟨b, b'⟩ | b
    · rw [letters_one h0 a, letters_one (by omega) b]
      refine Or.inr ⟨rfl, ?_⟩
      rw [less_cons, let_nat' (by omega), let_nat' (by omega)]; omega
    · rw [letters_one h0 a, letters_two b b']; exact Or.inl (by simp)
    · rw [letters_one h0 a, letters_three b hn]; exact Or.inl (by simp)
  · rcases letters_cases (n := n) (by omega) hn with b | ⟨b, b'⟩ | b
    · omega
    · rw [letters_two a a', letters_two b b']
      refine Or.inr ⟨rfl, ?_⟩
      rw [less_cons, less_cons, let_nat' (by omega), let_nat' (by omega), let_nat (by omega), let_nat (by omega)]; omega
    · rw [letters_two a a', letters_three b hn]; exact Or.inl (by simp)
  · rw [letters_three a (by omega), letters_three (by omega) hn]
    refine Or.inr ⟨rfl, ?_⟩
    rw [less_cons, less_cons, less_cons, let_nat' (by omega), let_nat' (by omega), let_nat (by omega), let_nat (by omega), let_nat (by omega), let_nat (by omega)]; omega

set_option maxRecDepth 100000 in
set_option maxHeartbeats 4000000 in
theorem placeRow_walk (a b : Int) (w : World) (ht : TabOk w) :
    Calls Tryd.prog 7 #[.int .i64 a, .int .i64 b] w fun e w' => e = .returned (.bool true) ∧ Below w.heap.size w w' := by
  have HA : Hid (∀ W : World, Calls Tryd.prog 9 #[.int .i64 a] W fun e w' => e = .returned (.tuple #[.string ⟨(lettersR a).1.toArray⟩, .int .i64 (lettersR a).2]) ∧ w' = W) := fun W => letters_any a W
  have HB : Hid (∀ W : World, Calls Tryd.prog 9 #[.int .i64 b] W fun e w' => e = .returned (.tuple #[.string ⟨(lettersR b).1.toArray⟩, .int .i64 (lettersR b).2]) ∧ w' = W) := fun W => letters_any b W
  have HT := hide ht
  clear ht
  cases h1 : colB a
  · rw [lettersR_no h1] at HA
    clear h1
    generalize (lettersR b).1 = tb at *
    generalize (lettersR b).2 = eb at *
    go_enter Tryd.func7, Tryd.ntmps7
    go_wp2_with (first | (go_at_call_of 9 [Value.int IntKind.i64 a]; refine (HA.out _).mono ?_; rintro e wz ⟨rfl, hz⟩; subst wz) | (go_at_call_of 9 [Value.int IntKind.i64 b]; refine (HB.out _).mono ?_; rintro e wz ⟨rfl, hz⟩; subst wz) | (go_at_call 13; refine (lives5_any _ HT.out).mono ?_; rintro e w1 ⟨rfl, hb1⟩))
    go_ret
    exact ⟨rfl, by assumption⟩
  · rw [lettersR_yes h1] at HA
    cases h2 : colB b
    · rw [lettersR_no h2] at HB
      clear h1 h2
      go_enter Tryd.func7, Tryd.ntmps7
      go_wp2_with (first | (go_at_call_of 9 [Value.int IntKind.i64 a]; refine (HA.out _).mono ?_; rintro e wz ⟨rfl, hz⟩; subst wz) | (go_at_call_of 9 [Value.int IntKind.i64 b]; refine (HB.out _).mono ?_; rintro e wz ⟨rfl, hz⟩; subst wz) | (go_at_call 13; refine (lives5_any _ HT.out).mono ?_; rintro e w1 ⟨rfl, hb1⟩))
      go_ret
      exact ⟨rfl, by assumption⟩
    · rw [lettersR_yes h2] at HB
      by_cases h3 : a ≥ b
      · go_enter Tryd.func7, Tryd.ntmps7
        go_wp2_with (first | (go_at_call_of 9 [Value.int IntKind.i64 a]; refine (HA.out _).mono ?_; rintro e wz ⟨rfl, hz⟩; subst wz) | (go_at_call_of 9 [Value.int IntKind.i64 b]; refine (HB.out _).mono ?_; rintro e wz ⟨rfl, hz⟩; subst wz) | (go_at_call 13; refine (lives5_any _ HT.out).mono ?_; rintro e w1 ⟨rfl, hb1⟩))
        all_goals go_ret
        all_goals exact ⟨rfl, by assumption⟩
      · have g1 := colB_iff.1 h1
        have g2 := colB_iff.1 h2
        have hr := letters_row (m := a.toNat) (n := b.toNat) (by omega) (by omega) (by omega)
        generalize lettersN a.toNat = la at *
        generalize lettersN b.toNat = lb at *
        clear h1 h2 g1 g2
        rcases hr with hr | ⟨hr, hs⟩
        · have hr' : (la.length : Int) < (lb.length : Int) := by omega
          go_enter Tryd.func7, Tryd.ntmps7
          go_wp2_with (first | (go_at_call_of 9 [Value.int IntKind.i64 a]; refine (HA.out _).mono ?_; rintro e wz ⟨rfl, hz⟩; subst wz) | (go_at_call_of 9 [Value.int IntKind.i64 b]; refine (HB.out _).mono ?_; rintro e wz ⟨rfl, hz⟩; subst wz) | (go_at_call 13; refine (lives5_any _ HT.out).mono ?_; rintro e w1 ⟨rfl, hb1⟩))
          go_ret
          exact ⟨rfl, by assumption⟩
        · have hr1 : ¬ (la.length : Int) < (lb.length : Int) := by omega
          have hr2 : ((la.length : Int) == (lb.length : Int)) = true := by simp; omega
          go_enter Tryd.func7, Tryd.ntmps7
          go_wp2_with (first | (go_at_call_of 9 [Value.int IntKind.i64 a]; refine (HA.out _).mono ?_; rintro e wz ⟨rfl, hz⟩; subst wz) | (go_at_call_of 9 [Value.int IntKind.i64 b]; refine (HB.out _).mono ?_; rintro e wz ⟨rfl, hz⟩; subst wz) | (go_at_call 13; refine (lives5_any _ HT.out).mono ?_; rintro e w1 ⟨rfl, hb1⟩))
          go_ret
          exact ⟨rfl, by assumption⟩
end Go.Proofs.YtpognkhobmbfcaaDoor
