/-
  Plain mathematics of the answer's Parse: how a text is taken apart, and what it comes to.
-/
import Derived.Test.YtaokibkeoomfjaaDoorTextMath
import Derived.Test.YtaokibkeoomfjaaDoorRefRound2
namespace Go.Proofs.YtaokibkeoomfjaaDoor
open Go.RowKit

theorem val_nn {l : List UInt8} (h : l.all isDig = true) : 0 ≤ val l := (val_bd h).1
theorem val_snoc (l : List UInt8) (c : UInt8) : val (l ++ [c]) = val l * 10 + ((c.toNat : Int) - 48) := by
  unfold val; rw [List.foldl_append]; rfl
theorem take_getD (r : List UInt8) (k : Nat) (h : k < r.length) : r.take (k + 1) = r.take k ++ [r.getD k 0] := by
  rw [List.take_succ_eq_append_getElem h]
  simp [h]
theorem ba_at (r : List UInt8) (k : Nat) : ∀ (hh : k < (⟨r.toArray⟩ : ByteArray).size), (⟨r.toArray⟩ : ByteArray)[k]'hh = r.getD k 0 := by
  intro hh
  have h : k < r.length := by
    have : k < r.toArray.size := hh
    rwa [List.size_toArray] at this
  rw [ByteArray.getElem_eq_getElem_data]
  simp [h]

/-- How many digits a text opens with. -/
def lead (r : List UInt8) : Nat := (r.takeWhile isDig).length
theorem lead_le (r : List UInt8) : lead r ≤ r.length := (List.takeWhile_sublist _).length_le
theorem lead_take (r : List UInt8) : r.take (lead r) = r.takeWhile isDig := by
  have h := List.takeWhile_append_dropWhile (p := isDig) (l := r)
  unfold lead
  rw [show List.take (r.takeWhile isDig).length r = List.take (r.takeWhile isDig).length (r.takeWhile isDig ++ r.dropWhile isDig) from by rw [h], List.take_left]
theorem lead_dig (r : List UInt8) : (r.take (lead r)).all isDig = true := by rw [lead_take]; exact List.all_takeWhile
theorem lead_at {r : List UInt8} {k : Nat} (h : k < lead r) : isDig (r.getD k 0) = true := by
  have h1 := lead_dig r
  rw [List.all_eq_true] at h1
  have h2 := lead_le r
  have h3 : k < r.length := by omega
  refine h1 _ ?_
  rw [List.mem_take_iff_getElem]
  exact ⟨k, by omega, by simp [h3]⟩
theorem lead_cons (c : UInt8) (r : List UInt8) : lead (c :: r) = if isDig c then lead r + 1 else 0 := by
  unfold lead
  cases h : isDig c <;> simp [h]
theorem lead_stop : ∀ {r : List UInt8}, lead r < r.length → isDig (r.getD (lead r) 0) = false
  | [], h => absurd h (by simp)
  | c :: r, h => by
    cases hc : isDig c
    · rw [lead_cons, hc]; exact hc
    · have e : lead (c :: r) = lead r + 1 := by rw [lead_cons, hc]; rfl
      rw [e] at h ⊢
      have ih := lead_stop (r := r) (by simpa using h)
      simpa using ih

/-- What Parse says behind the minus. -/
def bodyR (neg : Bool) (r : List UInt8) : Int × Int := if okB (Lib.cut r [46]) then told (put neg (gatherN (allDigits (Lib.cut r [46])))) else (0, 5)
theorem parse_body {l : List UInt8} (h : l.length ≤ 40) : parseR l = bodyR (Lib.hasPrefix l [45]) (Lib.trimPrefix l [45]) := by
  unfold parseR bodyR; rw [if_neg (by omega)]

theorem okB_nil (F : List UInt8) (p : Bool) : okB ([], F, p) = false := rfl
theorem body_bare {neg : Bool} {W : List UInt8} (h : W.all isDig = true) (hn : W ≠ []) : bodyR neg W = if 1000000000000000000 < val W * 1000000 then (0, 3) else (put neg (val W * 1000000), 0) := by
  unfold bodyR
  rw [cut_bare h]
  have hok : okB (W, [], false) = true := by simp [okB, digB_of h hn]
  have hv := val_nn h
  have hall := all_digits hok (fun _ => rfl)
  have e : val (allDigits (W, [], false)) = val W * 1000000 := by
    have e1 : allDigits (W, [], false) = W ++ [48, 48, 48, 48, 48, 48] := by simp [allDigits]
    have e2 : p10 (List.length ([48, 48, 48, 48, 48, 48] : List UInt8)) = 1000000 := by decide
    have e3 : val ([48, 48, 48, 48, 48, 48] : List UInt8) = 0 := by decide
    rw [e1, val_app, e2, e3]; omega
  rw [if_pos hok, gather_val hall, e, told_put neg (by omega)]
  by_cases hb : 1000000000000000000 < val W * 1000000
  · rw [if_pos hb, if_pos (by omega)]
  · rw [if_neg hb, if_neg (by omega), show min (val W * 1000000) 1000000000000000001 = val W * 1000000 by omega]
theorem body_empty {neg : Bool} : bodyR neg [] = (0, 5) := by
  unfold bodyR; rw [cut_bare (W := []) rfl]; rfl
theorem body_dot0 {neg : Bool} {F : List UInt8} : bodyR neg (46 :: F) = (0, 5) := by
  have h := cut_dot (W := []) (F := F) rfl
  rw [List.nil_append] at h
  unfold bodyR; rw [h]; rfl
theorem body_dot_no {neg : Bool} {W F : List UInt8} (h : W.all isDig = true) (hf : (digB F && decide (F.length ≤ 6)) = false) : bodyR neg (W ++ 46 :: F) = (0, 5) := by
  unfold bodyR
  rw [cut_dot h]
  have hok : okB (W, F, true) = false := by simp only [okB, Bool.not_true, Bool.false_or, hf, Bool.and_false]
  rw [hok]; rfl
theorem body_dot {neg : Bool} {W F : List UInt8} (h : W.all isDig = true) (hn : W ≠ []) (hF : F.all isDig = true) (hFn : F ≠ []) (h6 : F.length ≤ 6) :
    bodyR neg (W ++ 46 :: F) = if 1000000000000000000 < val W * 1000000 + val F * p10 (6 - F.length) then (0, 3) else (put neg (val W * 1000000 + val F * p10 (6 - F.length)), 0) := by
  unfold bodyR
  rw [cut_dot h]
  have hok : okB (W, F, true) = true := by simp [okB, digB_of h hn, digB_of hF hFn, h6]
  have hv := val_nn h
  have hfv := val_nn hF
  have hp := p10_pos (6 - F.length)
  have hm : 0 ≤ val F * p10 (6 - F.length) := Int.mul_nonneg hfv (by omega)
  have hall := all_digits hok (fun h => by cases h)
  have e : val (allDigits (W, F, true)) = val W * 1000000 + val F * p10 (6 - F.length) := by
    unfold allDigits
    show val (W ++ F ++ List.replicate (6 - F.length) 48) = _
    have z : ∀ k : Nat, val (List.replicate k 48) = 0 := by
      intro k
      induction k with
      | zero => rfl
      | succ k ih => rw [List.replicate_succ, val_cons, ih]; simp
    have e1 : p10 F.length * p10 (6 - F.length) = 1000000 := by
      have : F.length = 0 ∨ F.length = 1 ∨ F.length = 2 ∨ F.length = 3 ∨ F.length = 4 ∨ F.length = 5 ∨ F.length = 6 := by omega
      rcases this with h | h | h | h | h | h | h <;> rw [h] <;> decide
    rw [val_app, val_app, z, List.length_replicate, Int.add_mul, Int.mul_assoc, e1]; omega
  rw [if_pos hok, gather_val hall, e, told_put neg (by omega)]
  generalize val W * 1000000 + val F * p10 (6 - F.length) = N at *
  by_cases hb : 1000000000000000000 < N
  · rw [if_pos hb, if_pos (by omega)]
  · rw [if_neg hb, if_neg (by omega), show min N 1000000000000000001 = N by omega]

theorem index_ge : ∀ (Y : List UInt8), -1 ≤ Lib.index Y [46]
  | [] => by simp [Lib.index]
  | c :: Y => by
    have ih := index_ge Y
    rw [Lib.index]
    split
    · omega
    · split
      · omega
      · omega
theorem index_skip : ∀ (P Y : List UInt8), (∀ c ∈ P, c ≠ 46) → Lib.index (P ++ Y) [46] = if Lib.index Y [46] = -1 then -1 else P.length + Lib.index Y [46]
  | [], Y, _ => by
    split
    · rename_i h; rw [List.nil_append, h]
    · simp
  | c :: P, Y, h => by
    have hne : (46 : UInt8) ≠ c := fun e => h c (by simp) e.symm
    have ih := index_skip P Y (fun c hc => h c (by simp [hc]))
    rw [List.cons_append, Lib.index, ih]
    have e : List.isPrefixOf [46] (c :: (P ++ Y)) = false := by simp [List.isPrefixOf, hne]
    rw [e]
    by_cases hy : Lib.index Y [46] = -1
    · rw [if_pos hy, if_pos hy]; rfl
    · rw [if_neg hy, if_neg hy]
      have hi := index_ge Y
      have e2 : ((P.length : Int) + Lib.index Y [46] == -1) = false := by rw [beq_eq_false_iff_ne]; omega
      rw [e2]; simp; omega
theorem body_bad {neg : Bool} {W X : List UInt8} {c : UInt8} (h : W.all isDig = true) (hc : isDig c = false) (h46 : c ≠ 46) : bodyR neg (W ++ c :: X) = (0, 5) := by
  have hP : ∀ x ∈ W ++ [c], x ≠ 46 := by
    intro x hx e
    rw [List.mem_append] at hx
    rcases hx with hx | hx
    · have := isDig_iff.1 (List.all_eq_true.1 h x hx)
      subst e; simp at this
    · have hx' : x = c := by simpa using hx
      exact h46 (hx'.symm.trans e)
  have hno : ∀ Y : List UInt8, digB (W ++ c :: Y) = false := by
    intro Y; unfold digB; rw [List.all_append, List.all_cons, hc]; simp
  have hi := index_skip (W ++ [c]) X hP
  rw [List.append_assoc, List.singleton_append] at hi
  have hok : okB (Lib.cut (W ++ c :: X) [46]) = false := by
    unfold Lib.cut
    rw [hi]
    by_cases hy : Lib.index X [46] = -1
    · rw [if_pos hy, if_neg (by decide)]
      unfold okB; rw [hno]; rfl
    · rw [if_neg hy]
      have hg := index_ge X
      have hx : 0 ≤ Lib.index X [46] := by omega
      rw [if_pos (by omega)]
      have e : (W ++ c :: X).take (((W ++ [c]).length : Int) + Lib.index X [46]).toNat = W ++ c :: X.take (Lib.index X [46]).toNat := by
        obtain ⟨j, hj⟩ := Int.eq_ofNat_of_zero_le hx
        rw [hj, Int.toNat_natCast, show (((W ++ [c]).length : Int) + (j : Int)).toNat = (W ++ [c]).length + j by omega]
        rw [show W ++ c :: X = (W ++ [c]) ++ X by simp, List.take_length_add_append]; simp
      unfold okB
      rw [e, hno]; rfl
  unfold bodyR; rw [hok]; rfl
end Go.Proofs.YtaokibkeoomfjaaDoor
