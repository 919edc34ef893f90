/-
  A day's text is read as that day.
-/
import Derived.Test.YtlhpplhhdeifhaaDoorDt8
namespace Go.Proofs.YtlhpplhhdeifhaaDoor
open Go.RowKit

theorem decV_snoc (l : List UInt8) (c : UInt8) : decV (l ++ [c]) = decV l * 10 + (c.toNat - 48) := by simp [decV]
theorem dig_nat {k : Nat} (h : k < 10) : (UInt8.ofNat (48 + k)).toNat = 48 + k := by
  rw [UInt8.toNat_ofNat']
  omega
theorem decD_small {n : Nat} (h : n < 10) : Lib.decDigits n = [UInt8.ofNat (48 + n)] := Lib.decDigits_one h
theorem decD_big {n : Nat} (h : ¬ n < 10) : Lib.decDigits n = Lib.decDigits (n / 10) ++ [UInt8.ofNat (48 + n % 10)] := by rw [Lib.decDigits, dif_neg h]
theorem dec_val (n : Nat) : decV (Lib.decDigits n) = n := by
  induction n using Nat.strongRecOn with
  | _ n ih =>
    by_cases h : n < 10
    · rw [decD_small h]; simp only [decV, List.foldl_cons, List.foldl_nil]; rw [dig_nat h]; omega
    · rw [decD_big h, decV_snoc, ih _ (by omega), dig_nat (Nat.mod_lt _ (by decide))]; omega
theorem dec_dig (n : Nat) : (Lib.decDigits n).all digB = true := by
  induction n using Nat.strongRecOn with
  | _ n ih =>
    have hd : ∀ k, k < 10 → digB (UInt8.ofNat (48 + k)) = true := fun k hk => digB_iff.2 (by rw [dig_nat hk]; omega)
    by_cases h : n < 10
    · rw [decD_small h]; simp only [List.all_cons, List.all_nil, Bool.and_true]; exact hd n h
    · rw [decD_big h, List.all_append, ih _ (by omega)]; simp only [List.all_cons, List.all_nil, Bool.and_true, Bool.true_and]; exact hd _ (Nat.mod_lt n (by decide))
theorem rep_val (c : Nat) (l : List UInt8) : decV (Lib.repeatL [48] c ++ l) = decV l := by
  induction c with
  | zero => rfl
  | succ c ih =>
    show decV (48 :: (Lib.repeatL [48] c ++ l)) = _
    rw [← ih]
    unfold decV
    rfl
theorem rep_dig (c : Nat) : (Lib.repeatL [48] c).all digB = true := by
  induction c with
  | zero => rfl
  | succ c ih =>
    show (48 :: Lib.repeatL [48] c).all digB = true
    rw [List.all_cons, ih]
    decide
theorem pad_val (n wd : Nat) : decV (padL n wd) = n := by unfold padL; rw [rep_val, dec_val]
theorem pad_dig (n wd : Nat) : (padL n wd).all digB = true := by unfold padL; rw [List.all_append, rep_dig, dec_dig]; rfl
theorem len_four {l : List UInt8} (h : l.length = 4) : ∃ a b c d, l = [a, b, c, d] := by
  rcases l with _ | ⟨a, _ | ⟨b, _ | ⟨c, _ | ⟨d, _ | ⟨e, l⟩⟩⟩⟩⟩
  all_goals first | (simp at h; done) | exact ⟨a, b, c, d, rfl⟩
theorem len_two {l : List UInt8} (h : l.length = 2) : ∃ a b, l = [a, b] := by
  rcases l with _ | ⟨a, _ | ⟨b, _ | ⟨c, l⟩⟩⟩
  all_goals first | (simp at h; done) | exact ⟨a, b, rfl⟩
theorem text_back {y : Int} {k : Nat} {d n : Int} (h : DayIs y k d n) : (textL y k d).length = 10 ∧ parseR (textL y k d) = (n, 0) := by
  have y1 := h.y1
  have y2 := h.y2
  have k1 := h.k1
  have e1 := h.d1
  have e2 := h.dle
  obtain ⟨a0, a1, a2, a3, hA⟩ := len_four (pad_len (n := y.toNat) (wd := 4) (dec_four (by omega)))
  obtain ⟨b0, b1, hB⟩ := len_two (pad_len (n := k + 1) (wd := 2) (dec_two (by omega)))
  obtain ⟨c0, c1, hC⟩ := len_two (pad_len (n := d.toNat) (wd := 2) (dec_two (by omega)))
  have vA := pad_val y.toNat 4
  have vB := pad_val (k + 1) 2
  have vC := pad_val d.toNat 2
  have gA := pad_dig y.toNat 4
  have gB := pad_dig (k + 1) 2
  have gC := pad_dig d.toNat 2
  rw [hA] at vA gA
  rw [hB] at vB gB
  rw [hC] at vC gC
  have hT : textL y k d = [a0, a1, a2, a3, 45, b0, b1, 45, c0, c1] := by unfold textL; rw [hA, hB, hC]; rfl
  rw [hT]
  refine ⟨rfl, ?_⟩
  simp only [List.all_cons, List.all_nil, Bool.and_true, Bool.and_eq_true] at gA gB gC
  have hs : shapeB [a0, a1, a2, a3, 45, b0, b1, 45, c0, c1] = true := by
    apply shape_yes
    intro j hj
    have : j = 0 ∨ j = 1 ∨ j = 2 ∨ j = 3 ∨ j = 4 ∨ j = 5 ∨ j = 6 ∨ j = 7 ∨ j = 8 ∨ j = 9 := by omega
    rcases this with rfl | rfl | rfl | rfl | rfl | rfl | rfl | rfl | rfl | rfl
    · exact gA.1
    · exact gA.2.1
    · exact gA.2.2.1
    · exact gA.2.2.2
    · rfl
    · exact gB.1
    · exact gB.2
    · rfl
    · exact gC.1
    · exact gC.2
  rw [parseR_ten, if_pos hs, vA, vB, vC]
  have := parse_same (Y := y.toNat) (M := k + 1) (D := d.toNat) (y := y) (k := k) (d := d) (by
    rw [show ((y.toNat : Nat) : Int) = y by omega, show ((k + 1 : Nat) : Int) = (k : Int) + 1 by omega, show ((d.toNat : Nat) : Int) = d by omega, h.count]; exact h) (by omega) (by omega) (by omega)
  rw [this, show ((y.toNat : Nat) : Int) = y by omega, show ((k + 1 : Nat) : Int) = (k : Int) + 1 by omega, show ((d.toNat : Nat) : Int) = d by omega, h.count]
theorem text_parse {y : Int} {k : Nat} {d n : Int} (h : DayIs y k d n) : (⟨(textL y k d).toArray⟩ : ByteArray).size = 10 ∧ parseS ⟨(textL y k d).toArray⟩ = (n, 0) := by
  obtain ⟨h1, h2⟩ := text_back h
  have hz : (⟨(textL y k d).toArray⟩ : ByteArray).size = 10 := by rw [ba_size, h1]
  refine ⟨hz, ?_⟩
  unfold parseS
  rw [if_pos hz]
  exact h2
end Go.Proofs.YtlhpplhhdeifhaaDoor
