/-
  Plain mathematics of numbers' texts: what is written is read as it was.
-/
import Derived.Test.YtaokibkeoomfjaaDoorParse
namespace Go.Proofs.YtaokibkeoomfjaaDoor
open Go.RowKit

/-- One digit more. -/
def vstep (n : Int) (c : UInt8) : Int := n * 10 + ((c.toNat : Int) - 48)
/-- The number that digits make. -/
def val (l : List UInt8) : Int := l.foldl vstep 0

theorem fold_min : ∀ (l : List UInt8) (a : Int), 0 ≤ a → l.all isDig = true → l.foldl gath (min a 1000000000000000001) = min (l.foldl vstep a) 1000000000000000001
  | [], _, _, _ => rfl
  | c :: l, a, ha, h => by
    rw [List.all_cons, Bool.and_eq_true] at h
    have hc := isDig_iff.1 h.1
    rw [List.foldl_cons, List.foldl_cons]
    have e : gath (min a 1000000000000000001) c = min (vstep a c) 1000000000000000001 := by unfold gath vstep; omega
    rw [e]
    exact fold_min l _ (by unfold vstep; omega) h.2
theorem gather_val {l : List UInt8} (h : l.all isDig = true) : gatherN l = min (val l) 1000000000000000001 := fold_min l 0 (by decide) h
theorem fold_base : ∀ (l : List UInt8) (a : Int), l.foldl vstep a = a * p10 l.length + val l
  | [], a => by simp [val, p10]
  | c :: l, a => by
    have h1 := fold_base l (vstep a c)
    have h2 := fold_base l (vstep 0 c)
    unfold val
    rw [List.foldl_cons, List.foldl_cons, h1, h2, List.length_cons, p10_succ]
    have e : vstep a c = a * 10 + vstep 0 c := by unfold vstep; omega
    rw [e, Int.add_mul, Int.mul_assoc, Int.mul_comm 10]
    omega
theorem val_app (a b : List UInt8) : val (a ++ b) = val a * p10 b.length + val b := by
  have := fold_base b (val a)
  unfold val at *
  rw [List.foldl_append]; exact this
theorem val_cons (c : UInt8) (l : List UInt8) : val (c :: l) = ((c.toNat : Int) - 48) * p10 l.length + val l := by
  have := fold_base l (vstep 0 c)
  unfold val at *
  rw [List.foldl_cons, this]
  unfold vstep; simp
theorem val_bd : ∀ {l : List UInt8}, l.all isDig = true → 0 ≤ val l ∧ val l < p10 l.length
  | [], _ => by simp [val, p10]
  | c :: l, h => by
    rw [List.all_cons, Bool.and_eq_true] at h
    have hc := isDig_iff.1 h.1
    have hb := val_bd h.2
    rw [val_cons, List.length_cons, p10_succ]
    have h1 : 0 ≤ ((c.toNat : Int) - 48) * p10 l.length := Int.mul_nonneg (by omega) (by omega)
    have h2 : ((c.toNat : Int) - 48) * p10 l.length ≤ 9 * p10 l.length := Int.mul_le_mul_of_nonneg_right (by omega) (by omega)
    omega

theorem dig_ofNat {r : Nat} (h : r < 10) : isDig (UInt8.ofNat (48 + r)) = true ∧ ((UInt8.ofNat (48 + r)).toNat : Int) - 48 = r := by
  have e : (UInt8.ofNat (48 + r)).toNat = 48 + r := by rw [UInt8.toNat_ofNat']; omega
  exact ⟨isDig_iff.2 (by omega), by omega⟩
theorem dec_facts : ∀ (k u : Nat), u ≤ k → (Lib.decDigits u).all isDig = true ∧ val (Lib.decDigits u) = u
  | 0, u, hk => by
    have h : u < 10 := by omega
    have e : Lib.decDigits u = [UInt8.ofNat (48 + u)] := by rw [Lib.decDigits, dif_pos h]
    have hd := dig_ofNat h
    rw [e]
    generalize UInt8.ofNat (48 + u) = c at *
    refine ⟨by rw [List.all_cons, hd.1]; rfl, ?_⟩
    rw [val_cons, hd.2]; simp [val, p10]
  | k + 1, u, hk => by
    by_cases h : u < 10
    · have e : Lib.decDigits u = [UInt8.ofNat (48 + u)] := by rw [Lib.decDigits, dif_pos h]
      have hd := dig_ofNat h
      rw [e]
      generalize UInt8.ofNat (48 + u) = c at *
      refine ⟨by rw [List.all_cons, hd.1]; rfl, ?_⟩
      rw [val_cons, hd.2]; simp [val, p10]
    · have e : Lib.decDigits u = Lib.decDigits (u / 10) ++ [UInt8.ofNat (48 + u % 10)] := by rw [Lib.decDigits, dif_neg h]
      have ih := dec_facts k (u / 10) (by omega)
      have hd := dig_ofNat (r := u % 10) (by omega)
      rw [e]
      generalize UInt8.ofNat (48 + u % 10) = c at *
      refine ⟨by rw [List.all_append, ih.1, List.all_cons, hd.1]; rfl, ?_⟩
      rw [val_app, ih.2, val_cons, hd.2]
      simp [val, p10]
      omega
theorem dec_all (u : Nat) : (Lib.decDigits u).all isDig = true := (dec_facts u u (Nat.le_refl _)).1
theorem dec_val (u : Nat) : val (Lib.decDigits u) = u := (dec_facts u u (Nat.le_refl _)).2
theorem dec_ne (u : Nat) : Lib.decDigits u ≠ [] := fun h => by have := dec_pos u; rw [h] at this; simp at this

theorem seven {u : Nat} (h1 : 1000000 ≤ u) (h2 : u < 2000000) : (Lib.decDigits u).length = 7 := by
  rw [Lib.decDigits_length, Lib.nDigits_big (by omega), Lib.nDigits_big (by omega), Lib.nDigits_big (by omega), Lib.nDigits_big (by omega), Lib.nDigits_big (by omega), Lib.nDigits_big (by omega), Lib.nDigits_small (by omega)]
theorem frac6_facts (m : Int) : (frac6 m).length = 6 ∧ (frac6 m).all isDig = true ∧ val (frac6 m) = m % 1000000 := by
  unfold frac6
  obtain ⟨u, hu⟩ : ∃ u : Nat, (m % 1000000 + 1000000).toNat = u := ⟨_, rfl⟩
  rw [hu]
  have hl := seven (u := u) (by omega) (by omega)
  have ha := dec_all u
  have hv := dec_val u
  generalize Lib.decDigits u = l at *
  match l, hl, ha, hv with
  | c :: t, hl, ha, hv =>
    rw [List.all_cons, Bool.and_eq_true] at ha
    have hc := isDig_iff.1 ha.1
    have hb := val_bd ha.2
    have ht : t.length = 6 := by simpa using hl
    rw [val_cons, ht] at hv
    rw [ht] at hb
    have e6 : p10 6 = 1000000 := by decide
    rw [e6] at hv hb
    exact ⟨ht, ha.2, by show val t = _; omega⟩

theorem trim_back (l : List UInt8) (c : UInt8) : Lib.trimRightB l c ++ List.replicate (l.length - (Lib.trimRightB l c).length) c = l := by
  unfold Lib.trimRightB
  have h := List.takeWhile_append_dropWhile (p := (· == c)) (l := l.reverse)
  have h1 : l.reverse.takeWhile (· == c) = List.replicate (l.reverse.takeWhile (· == c)).length c := by
    rw [List.eq_replicate_iff]
    refine ⟨rfl, fun b hb => ?_⟩
    have := List.all_eq_true.1 (List.all_takeWhile (p := (· == c)) (l := l.reverse)) b hb
    simpa using this
  have h2 := congrArg List.length h
  rw [List.length_append, List.length_reverse] at h2
  rw [List.length_reverse]
  have h3 : l.length - (l.reverse.dropWhile (· == c)).length = (l.reverse.takeWhile (· == c)).length := by omega
  rw [h3, ← List.reverse_replicate, ← List.reverse_append, ← h1, h, List.reverse_reverse]

theorem fracT_facts (m : Int) : (fracT m).length ≤ 6 ∧ (fracT m).all isDig = true ∧ fracT m ++ List.replicate (6 - (fracT m).length) 48 = frac6 m := by
  obtain ⟨h1, h2, _⟩ := frac6_facts m
  have h3 := trim_back (frac6 m) 48
  have h4 := trim_len (frac6 m) 48
  rw [h1] at h3 h4
  refine ⟨h4, ?_, h3⟩
  rw [← h3, List.all_append, Bool.and_eq_true] at h2
  exact h2.1

theorem index_here : ∀ (W F : List UInt8), W.all isDig = true → Lib.index (W ++ 46 :: F) [46] = W.length
  | [], F, _ => by simp [Lib.index]
  | c :: W, F, h => by
    rw [List.all_cons, Bool.and_eq_true] at h
    have hc := isDig_iff.1 h.1
    have hne : (46 : UInt8) ≠ c := fun e => by subst e; simp at hc
    have ih := index_here W F h.2
    rw [List.cons_append, Lib.index, ih]
    have e : List.isPrefixOf [46] (c :: (W ++ 46 :: F)) = false := by simp [List.isPrefixOf, hne]
    rw [e]
    have e2 : ((W.length : Int) == -1) = false := by rw [beq_eq_false_iff_ne]; omega
    rw [e2]; simp
theorem index_none : ∀ (W : List UInt8), W.all isDig = true → Lib.index W [46] = -1
  | [], _ => by simp [Lib.index]
  | c :: W, h => by
    rw [List.all_cons, Bool.and_eq_true] at h
    have hc := isDig_iff.1 h.1
    have hne : (46 : UInt8) ≠ c := fun e => by subst e; simp at hc
    have ih := index_none W h.2
    rw [Lib.index, ih]
    have e : List.isPrefixOf [46] (c :: W) = false := by simp [List.isPrefixOf, hne]
    rw [e]; rfl
theorem cut_dot {W F : List UInt8} (h : W.all isDig = true) : Lib.cut (W ++ 46 :: F) [46] = (W, F, true) := by
  unfold Lib.cut
  rw [index_here W F h, if_pos (by omega), Int.toNat_natCast]
  simp
theorem cut_bare {W : List UInt8} (h : W.all isDig = true) : Lib.cut W [46] = (W, [], false) := by
  unfold Lib.cut
  rw [index_none W h, if_neg (by decide)]

theorem digB_of {l : List UInt8} (h : l.all isDig = true) (hn : l ≠ []) : digB l = true := by
  unfold digB; rw [h]; cases l with
  | nil => exact absurd rfl hn
  | cons _ _ => rfl

/-- Cut at its point, a number's text is its digits, and they make the number. -/
theorem body_read (A : Int) (h0 : 0 ≤ A) (h1 : A ≤ 1000000000000000000) : okB (Lib.cut (Lib.decDigits (A / 1000000).toNat ++ (if fracT A = [] then [] else 46 :: fracT A)) [46]) = true ∧
    gatherN (allDigits (Lib.cut (Lib.decDigits (A / 1000000).toNat ++ (if fracT A = [] then [] else 46 :: fracT A)) [46])) = A := by
  have hW := dec_all (A / 1000000).toNat
  have hWv := dec_val (A / 1000000).toNat
  have hWn := dec_ne (A / 1000000).toNat
  generalize Lib.decDigits (A / 1000000).toNat = W at *
  obtain ⟨f1, f2, f3⟩ := fracT_facts A
  obtain ⟨g1, g2, g3⟩ := frac6_facts A
  have hall : (W ++ frac6 A).all isDig = true := by rw [List.all_append, hW, g2]; rfl
  have hv : val (W ++ frac6 A) = A := by
    rw [val_app, g1, g3, hWv, show p10 6 = 1000000 by decide]; omega
  have hg : gatherN (W ++ frac6 A) = A := by rw [gather_val hall, hv]; omega
  by_cases hF : fracT A = []
  · rw [if_pos hF, List.append_nil, cut_bare hW]
    refine ⟨by simp [okB, digB_of hW hWn], ?_⟩
    have e : allDigits (W, [], false) = W ++ frac6 A := by
      rw [← f3, hF]; simp [allDigits]
    rw [e]; exact hg
  · rw [if_neg hF, cut_dot hW]
    refine ⟨by simp [okB, digB_of hW hWn, digB_of f2 hF, f1], ?_⟩
    have e : allDigits (W, fracT A, true) = W ++ frac6 A := by
      unfold allDigits; rw [List.append_assoc, f3]
    rw [e]; exact hg

/-- What is written is read as it was. -/
theorem parse_print {n : Int} (h : fitsB n = true) : parseR (textOf n) = (n, 0) := by
  obtain ⟨n1, n2⟩ := fitsB_true h
  have x0 := absI_nn n
  have x1 := absI_le n1 n2
  obtain ⟨b1, b2⟩ := body_read (absI n) x0 x1
  have hfl := (fracT_facts (absI n)).1
  have hdl := dec_len (u := (absI n / 1000000).toNat) (by omega)
  have hlen : (textOf n).length ≤ 40 := by
    unfold textOf
    rw [List.length_append, List.length_append]
    split <;> split <;> simp <;> omega
  have hW := dec_all (absI n / 1000000).toNat
  have hWn := dec_ne (absI n / 1000000).toNat
  have hput : put (decide (n < 0)) (absI n) = n := by
    unfold put absI
    by_cases hn : n < 0 <;> simp [hn]
  unfold parseR
  rw [if_neg (by omega)]
  have key : Lib.trimPrefix (textOf n) [45] = Lib.decDigits (absI n / 1000000).toNat ++ (if fracT (absI n) = [] then [] else 46 :: fracT (absI n)) ∧ Lib.hasPrefix (textOf n) [45] = decide (n < 0) := by
    unfold textOf Lib.trimPrefix Lib.hasPrefix
    generalize (if fracT (absI n) = [] then [] else 46 :: fracT (absI n)) = T
    generalize Lib.decDigits (absI n / 1000000).toNat = W at *
    by_cases hn : n < 0
    · simp [hn]
    · match W, hW, hWn with
      | c :: W, hW, _ =>
        rw [List.all_cons, Bool.and_eq_true] at hW
        have hc := isDig_iff.1 hW.1
        have hne : (45 : UInt8) ≠ c := fun e => by subst e; simp at hc
        simp [hn, List.isPrefixOf, hne]
  rw [key.1, key.2, if_pos b1, b2, hput, told_yes h]
end Go.Proofs.YtaokibkeoomfjaaDoor
