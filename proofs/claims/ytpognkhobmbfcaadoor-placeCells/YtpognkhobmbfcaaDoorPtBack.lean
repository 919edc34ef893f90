/-
  What is written is read as it was: the mathematics.
-/
import Derived.Test.YtpognkhobmbfcaaDoorPt6
import Derived.Test.YtpognkhobmbfcaaDoorPt7
namespace Go.Proofs.YtpognkhobmbfcaaDoor
open Go.RowKit

theorem pre_app {p : UInt8 → Bool} {m : Nat} (A T : List UInt8) (hA : A.all p = true) (hl : A.length ≤ m) (hT : A.length = m ∨ ∀ c, T.head? = some c → p c = false) : pre p m (A ++ T) = A ∧ rest p m (A ++ T) = T := by
  have e : (A ++ T).take A.length = A := by simp
  have h := pre_at (p := p) (m := m) (k := A.length) (l := A ++ T) (by simp) hl (by rw [e]; exact hA) (by
    rcases hT with h | h
    · exact Or.inl h
    · refine Or.inr fun hx => ?_
      have hx' : 0 < T.length := by simp at hx; omega
      rw [List.getElem_append_right (Nat.le_refl _)]
      simp only [Nat.sub_self]
      refine h _ ?_
      rw [List.head?_eq_getElem?, List.getElem?_eq_getElem hx'])
  refine ⟨h.trans e, ?_⟩
  rw [rest_at (by simp) h]; simp
theorem decD_small {n : Nat} (h : n < 10) : Lib.decDigits n = [UInt8.ofNat (48 + n)] := Lib.decDigits_one h
theorem decD_big {n : Nat} (h : ¬ n < 10) : Lib.decDigits n = Lib.decDigits (n / 10) ++ [UInt8.ofNat (48 + n % 10)] := by rw [Lib.decDigits, dif_neg h]
theorem dig_nat {k : Nat} (h : k < 10) : (UInt8.ofNat (48 + k)).toNat = 48 + k := ofNat_nat (by omega)
theorem decV_snoc (l : List UInt8) (c : UInt8) : decV (l ++ [c]) = decV l * 10 + (c.toNat - 48) := by simp [decV]
theorem dec_all (n : Nat) : (Lib.decDigits n).all digB = true := by
  induction n using Nat.strongRecOn with
  | _ n ih =>
    by_cases h : n < 10
    · rw [decD_small h]; simp only [List.all_cons, List.all_nil, Bool.and_true]; exact digB_iff.2 (by rw [dig_nat h]; omega)
    · rw [decD_big h, List.all_append, ih _ (by omega)]
      simp only [List.all_cons, List.all_nil, Bool.and_true, Bool.true_and]
      exact digB_iff.2 (by rw [dig_nat (Nat.mod_lt _ (by decide))]; omega)
theorem dec_val (n : Nat) : decV (Lib.decDigits n) = n := by
  induction n using Nat.strongRecOn with
  | _ n ih =>
    by_cases h : n < 10
    · rw [decD_small h]; simp only [decV, List.foldl_cons, List.foldl_nil]; rw [dig_nat h]; omega
    · rw [decD_big h, decV_snoc, ih _ (by omega), dig_nat (Nat.mod_lt _ (by decide))]; omega
theorem dec_head (n : Nat) (h1 : 1 ≤ n) : ∃ c l, Lib.decDigits n = c :: l ∧ c.toNat ≠ 48 ∧ 48 ≤ c.toNat ∧ c.toNat ≤ 57 := by
  induction n using Nat.strongRecOn with
  | _ n ih =>
    by_cases h : n < 10
    · exact ⟨_, [], decD_small h, by rw [dig_nat h]; omega, by rw [dig_nat h]; omega, by rw [dig_nat h]; omega⟩
    · obtain ⟨c, l, e, h2, h3, h4⟩ := ih (n / 10) (by omega) (by omega)
      exact ⟨c, l ++ [UInt8.ofNat (48 + n % 10)], by rw [decD_big h, e]; rfl, h2, h3, h4⟩
theorem row_dec {n : Nat} (h : 1 ≤ n) : rowV (Lib.decDigits n) = n := by
  obtain ⟨c, l, e, h2, _⟩ := dec_head n h
  rw [e, rowV_dec (fun x => h2 (by rw [x]; rfl)), ← e, dec_val]
theorem pre_fix (b : Bool) (T : List UInt8) (hT : ∀ c, T.head? = some c → c.toNat ≠ 36) : nonB (pre fixB 1 (sgn b ++ T)) = b ∧ rest fixB 1 (sgn b ++ T) = T := by
  have h := pre_app (p := fixB) (m := 1) (sgn b) T (by cases b <;> decide) (sgn_len b) (by
    cases b
    · refine Or.inr fun c hc => ?_
      unfold fixB; simp; exact hT c hc
    · exact Or.inl rfl)
  exact ⟨by rw [h.1]; cases b <;> rfl, h.2⟩
theorem letters_head {n : Nat} (h : 0 < n) (h' : n ≤ 16384) : ∃ c l, lettersN n = c :: l ∧ letB c = true := by
  have hl := (letters_len h h').1
  have ha := letters_all n
  rcases e : lettersN n with _ | ⟨c, l⟩
  · rw [e] at hl; simp at hl
  · rw [e] at ha; simp only [List.all_cons, Bool.and_eq_true] at ha
    exact ⟨c, l, rfl, ha.1⟩
/-- A cell that is written is read as it was. -/
theorem parse_print {r c : Int} {x y : Bool} (h : placeB r c = true) : parseR (printR r c x y).1 = (r, c, x, y, 0) := by
  obtain ⟨h1, h2, h3, h4⟩ := placeB_iff.1 h
  obtain ⟨n, rfl⟩ : ∃ n : Nat, r = n := ⟨r.toNat, by omega⟩
  obtain ⟨m, rfl⟩ : ∃ m : Nat, c = m := ⟨c.toNat, by omega⟩
  rw [printR_yes h, Int.toNat_natCast, Int.toNat_natCast]
  show parseR (sgn y ++ lettersN m ++ sgn x ++ Lib.decDigits n) = _
  rw [List.append_assoc, List.append_assoc]
  obtain ⟨a, A, ea, hla⟩ := letters_head (n := m) (by omega) (by omega)
  obtain ⟨d, D, ed, hd1, hd2, hd3⟩ := dec_head n (by omega)
  have k1 := pre_fix y (lettersN m ++ (sgn x ++ Lib.decDigits n)) (by
    intro q hq
    rw [ea] at hq
    simp at hq
    subst hq
    have := letB_iff.1 hla
    omega)
  have k2 := pre_app (p := letB) (m := 3) (lettersN m) (sgn x ++ Lib.decDigits n) (letters_all m) (letters_len (by omega) (by omega)).2 (Or.inr (by
    intro q hq
    rw [letB_no]
    cases x
    · rw [ed] at hq
      simp [sgn] at hq
      subst hq
      omega
    · simp [sgn] at hq
      subst hq
      decide))
  have k3 := pre_fix x (Lib.decDigits n) (by
    intro q hq
    rw [ed] at hq
    simp at hq
    subst hq
    omega)
  have k4 := pre_app (p := digB) (m := 7) (Lib.decDigits n) [] (dec_all n) (dec_len (by omega)) (Or.inr (by simp))
  rw [List.append_nil] at k4
  have q1 : p1 (sgn y ++ (lettersN m ++ (sgn x ++ Lib.decDigits n))) = lettersN m ++ (sgn x ++ Lib.decDigits n) := k1.2
  have q2 : p2 (sgn y ++ (lettersN m ++ (sgn x ++ Lib.decDigits n))) = sgn x ++ Lib.decDigits n := by unfold p2; rw [q1]; exact k2.2
  have q3 : p3 (sgn y ++ (lettersN m ++ (sgn x ++ Lib.decDigits n))) = Lib.decDigits n := by unfold p3; rw [q2]; exact k3.2
  have q4 : p4 (sgn y ++ (lettersN m ++ (sgn x ++ Lib.decDigits n))) = [] := by unfold p4; rw [q3]; exact k4.2
  have c1 : pCol (sgn y ++ (lettersN m ++ (sgn x ++ Lib.decDigits n))) = m := by unfold pCol; rw [q1, k2.1, letters_col]
  have c2 : pRow (sgn y ++ (lettersN m ++ (sgn x ++ Lib.decDigits n))) = n := by unfold pRow; rw [q3, k4.1, row_dec (by omega)]
  have c3 : pFixC (sgn y ++ (lettersN m ++ (sgn x ++ Lib.decDigits n))) = y := k1.1
  have c4 : pFixR (sgn y ++ (lettersN m ++ (sgn x ++ Lib.decDigits n))) = x := by unfold pFixR; rw [q2]; exact k3.1
  unfold parseR
  rw [q4, c1, c2, c3, c4, if_neg (by simp; omega), h]
  rfl
theorem print_size {r c : Int} {x y : Bool} (h : placeB r c = true) : (⟨(printR r c x y).1.toArray⟩ : ByteArray).size ≤ 20 := by
  obtain ⟨h1, h2, h3, h4⟩ := placeB_iff.1 h
  rw [ba_size, printR_yes h]
  have s1 := sgn_len x
  have s2 := sgn_len y
  have s3 := (letters_len (n := c.toNat) (by omega) (by omega)).2
  have s4 := dec_len (n := r.toNat) (by omega)
  simp only [List.length_append]; omega
/-- What is read is a place, or nothing. -/
theorem parse_place {l : List UInt8} (h : (parseR l).2.2.2.2 = 0) : placeB (parseR l).1 (parseR l).2.1 = true := by
  unfold parseR at *
  split
  · rename_i a; rw [if_pos a] at h; exact absurd h (by decide)
  · rename_i a
    rw [if_neg a] at h
    split
    · assumption
    · rename_i b; rw [if_neg b] at h; exact absurd h (by decide)
theorem parse_none {l : List UInt8} (h : (parseR l).2.2.2.2 ≠ 0) : parseR l = (0, 0, false, false, (parseR l).2.2.2.2) := by
  unfold parseR at *
  split
  · rfl
  · rename_i a
    rw [if_neg a] at h
    split
    · rename_i b; rw [if_pos b] at h; exact absurd rfl h
    · rfl
theorem column_letters {c : Int} (h : colB c = true) : columnR (lettersN c.toNat) = (c, 0) := by
  obtain ⟨h1, h2⟩ := colB_iff.1 h
  have k := pre_app (p := letB) (m := 3) (lettersN c.toNat) [] (letters_all _) (letters_len (by omega) (by omega)).2 (Or.inr (by simp))
  rw [List.append_nil] at k
  have e : ((c.toNat : Nat) : Int) = c := by omega
  unfold columnR
  rw [k.1, k.2, letters_col, if_neg (by simp; omega), e, h]
  rfl
end Go.Proofs.YtpognkhobmbfcaaDoor
