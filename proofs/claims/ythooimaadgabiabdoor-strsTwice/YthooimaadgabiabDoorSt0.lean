/-
  What formulas do with texts: plain functions on bytes, and that two ways of telling them tell the same.
-/
import Derived.Test.YthooimaadgabiabDoorCr0
namespace Go.Proofs.YthooimaadgabiabDoor

abbrev By := List UInt8
/-- A text, if it may be. -/
def capS (l : By) : Option By := if 255 < l.length then none else some l
def lfS (s : By) (n : Int) : Option By := if 255 < s.length ∨ n < 0 then none else some (s.take n.toNat)
def rgS (s : By) (n : Int) : Option By := if 255 < s.length ∨ n < 0 then none else some (s.drop (s.length - n.toNat))
def mdS (s : By) (at_ n : Int) : Option By := if 255 < s.length ∨ n < 0 ∨ at_ < 1 then none else some ((s.drop (at_ - 1).toNat).take n.toNat)
def rpS (s : By) (at_ n : Int) (t : By) : Option By :=
  if 255 < s.length ∨ 255 < t.length ∨ at_ < 1 ∨ n < 0 then none else capS (s.take (at_ - 1).toNat ++ (t ++ (s.drop (at_ - 1).toNat).drop n.toNat))

/-- The first place from one on at which what is left is as asked. -/
def seekF (f : By → Bool) (s : By) : Nat → Nat → Option Nat
  | 0, _ => none
  | m + 1, i => if f (s.drop i) then some i else seekF f s m (i + 1)
def seekL (f : By → Bool) (s : By) (i : Nat) : Option Nat := seekF f s (s.length + 1 - i) i
theorem seek_yes {f : By → Bool} {s : By} {i : Nat} (h : i ≤ s.length) (hf : f (s.drop i) = true) : seekL f s i = some i := by
  unfold seekL; rw [show s.length + 1 - i = (s.length - i) + 1 by omega, seekF, if_pos hf]
theorem seek_no {f : By → Bool} {s : By} {i : Nat} (h : i ≤ s.length) (hf : f (s.drop i) = false) : seekL f s i = seekL f s (i + 1) := by
  unfold seekL; rw [show s.length + 1 - i = (s.length + 1 - (i + 1)) + 1 by omega, seekF, if_neg (by rw [hf]; decide)]
theorem seek_end {f : By → Bool} {s : By} {i : Nat} (h : s.length < i) : seekL f s i = none := by
  unfold seekL; rw [show s.length + 1 - i = 0 by omega]; rfl
theorem seekF_some {f : By → Bool} {s : By} : ∀ {m i j : Nat}, seekF f s m i = some j → i ≤ j ∧ j < i + m ∧ f (s.drop j) = true ∧ ∀ x, i ≤ x → x < j → f (s.drop x) = false
  | 0, _, _, h => by cases h
  | m + 1, i, j, h => by
    rw [seekF] at h
    cases hf : f (s.drop i) with
    | true => rw [hf, if_pos rfl] at h; cases h; exact ⟨Nat.le_refl _, by omega, hf, fun x h1 h2 => by omega⟩
    | false =>
      rw [hf, if_neg (by decide)] at h
      obtain ⟨h1, h2, h3, h4⟩ := seekF_some h
      refine ⟨by omega, by omega, h3, fun x g1 g2 => ?_⟩
      by_cases e : x = i
      · rw [e]; exact hf
      · exact h4 x (by omega) g2
theorem seekF_none {f : By → Bool} {s : By} : ∀ {m i : Nat}, seekF f s m i = none → ∀ x, i ≤ x → x < i + m → f (s.drop x) = false
  | 0, _, _, x, h1, h2 => by omega
  | m + 1, i, h, x, h1, h2 => by
    rw [seekF] at h
    cases hf : f (s.drop i) with
    | true => rw [hf, if_pos rfl] at h; cases h
    | false =>
      rw [hf, if_neg (by decide)] at h
      by_cases e : x = i
      · rw [e]; exact hf
      · exact seekF_none h x (by omega) (by omega)
theorem seek_some {f : By → Bool} {s : By} {i j : Nat} (h : seekL f s i = some j) : i ≤ j ∧ j ≤ s.length ∧ f (s.drop j) = true ∧ ∀ x, i ≤ x → x < j → f (s.drop x) = false := by
  obtain ⟨h1, h2, h3, h4⟩ := seekF_some h
  exact ⟨h1, by omega, h3, h4⟩
theorem seek_none {f : By → Bool} {s : By} {i : Nat} (h : seekL f s i = none) : ∀ x, i ≤ x → x ≤ s.length → f (s.drop x) = false := fun x h1 h2 => seekF_none h x h1 (by omega)
theorem seek_same {f g : By → Bool} {s : By} (h : ∀ i, i ≤ s.length → f (s.drop i) = g (s.drop i)) (i : Nat) : seekL f s i = seekL g s i := by
  unfold seekL
  have : ∀ m i, i + m ≤ s.length + 1 → seekF f s m i = seekF g s m i := by
    intro m
    induction m with
    | zero => intro i _; rfl
    | succ m ih => intro i hi; rw [seekF, seekF, h i (by omega), ih (i + 1) (by omega)]
  by_cases hi : i ≤ s.length + 1
  · exact this _ _ (by omega)
  · rw [show s.length + 1 - i = 0 by omega]; rfl
/-- A place that is told is counted from 1 on. -/
def upS : Option Nat → Option Int := Option.map fun i => ((i + 1 : Nat) : Int)
def plS (f : By → Bool) (s : By) (from_ : Int) : Option Int := if 255 < s.length ∨ from_ < 1 then none else upS (seekL f s (from_ - 1).toNat)
def prefixB (p r : By) : Bool := p.isPrefixOf r
theorem prefix_take {p r : By} : prefixB p r = decide (r.take p.length = p) := by
  unfold prefixB
  rw [Bool.eq_iff_iff, List.isPrefixOf_iff_prefix, decide_eq_true_iff, List.prefix_iff_eq_take]
  exact eq_comm
theorem prefix_iff {p r : By} : prefixB p r = true ↔ p <+: r := List.isPrefixOf_iff_prefix
def fdS (p s : By) (from_ : Int) : Option Int := if 255 < p.length then none else plS (prefixB p) s from_

/-- One old text after the other, from the left, is the new one: all, or the k-th. -/
def subF (old new : By) (k : Nat) : Nat → Nat → By → By
  | 0, _, _ => []
  | _ + 1, _, [] => []
  | m + 1, c, b :: r => if prefixB old (b :: r) then (if k = 0 ∨ k = c + 1 then new else old) ++ subF old new k m (c + 1) ((b :: r).drop old.length) else b :: subF old new k m c r
def subL (old new : By) (k c : Nat) (s : By) : By := subF old new k s.length c s
theorem subF_fuel {old new : By} {k : Nat} (ho : old ≠ []) : ∀ (m m' c : Nat) (s : By), s.length ≤ m → s.length ≤ m' → subF old new k m c s = subF old new k m' c s
  | 0, 0, _, _, _, _ => rfl
  | 0, m' + 1, _, s, h, _ => by
    have : s = [] := List.eq_nil_of_length_eq_zero (by omega)
    subst this; rfl
  | m + 1, 0, _, s, _, h => by
    have : s = [] := List.eq_nil_of_length_eq_zero (by omega)
    subst this; rfl
  | m + 1, m' + 1, c, [], _, _ => rfl
  | m + 1, m' + 1, c, b :: r, h, h' => by
    simp only [List.length_cons] at h h'
    have hl : 0 < old.length := List.length_pos_iff.2 ho
    rw [subF, subF, subF_fuel ho m m' c r (by omega) (by omega), subF_fuel ho m m' (c + 1) ((b :: r).drop old.length) (by simp only [List.length_drop, List.length_cons]; omega) (by simp only [List.length_drop, List.length_cons]; omega)]
theorem sub_nil {old new : By} {k c : Nat} : subL old new k c [] = [] := rfl
theorem sub_hit {old new : By} {k c : Nat} {s : By} (ho : old ≠ []) (h : prefixB old s = true) : subL old new k c s = (if k = 0 ∨ k = c + 1 then new else old) ++ subL old new k (c + 1) (s.drop old.length) := by
  cases s with
  | nil => rw [prefix_iff] at h; exact absurd (List.prefix_nil.1 h) ho
  | cons b r =>
    have hl : 0 < old.length := List.length_pos_iff.2 ho
    show subF old new k (r.length + 1) c (b :: r) = _
    rw [subF, if_pos h]
    congr 1
    exact subF_fuel ho _ _ _ _ (by simp only [List.length_drop, List.length_cons]; omega) (Nat.le_refl _)
theorem sub_miss {old new : By} {k c : Nat} {b : UInt8} {r : By} (h : prefixB old (b :: r) = false) : subL old new k c (b :: r) = b :: subL old new k c r := by
  show subF old new k (r.length + 1) c (b :: r) = _
  rw [subF, if_neg (by rw [h]; decide)]; rfl
theorem sub_skip {old new : By} {k c : Nat} : ∀ {j : Nat} {s : By}, j ≤ s.length → (∀ i, i < j → prefixB old (s.drop i) = false) → subL old new k c s = s.take j ++ subL old new k c (s.drop j)
  | 0, s, _, _ => rfl
  | j + 1, [], h, _ => by simp at h
  | j + 1, b :: r, h, hn => by
    rw [sub_miss (hn 0 (by omega)), sub_skip (j := j) (s := r) (by simp only [List.length_cons] at h; omega) (fun i hi => hn (i + 1) (by omega))]; rfl
theorem sub_none {old new : By} {k c : Nat} {s : By} (hn : ∀ i, i < s.length → prefixB old (s.drop i) = false) : subL old new k c s = s := by
  rw [sub_skip (Nat.le_refl _) hn, List.take_length, List.drop_length, sub_nil, List.append_nil]
def sbS (s old new : By) (k : Int) : Option By :=
  if 255 < s.length ∨ 255 < old.length ∨ 255 < new.length ∨ k < 0 then none else if old = [] then some s else capS (subL old new k.toNat 0 s)
/-- A part of a text, with how many marks stand ahead of it. -/
def putP (old new : By) (k : Nat) (out : By) (x : Nat × By) : By := out ++ ((if x.1 = 0 then [] else if k = 0 ∨ k = x.1 then new else old) ++ x.2)

/-- A text without blanks ahead and behind, and with one where several stand. -/
def trF : Bool → By → By → By
  | _, out, [] => out
  | p, out, c :: r => if c = 32 then trF true out r else trF false ((if p ∧ out ≠ [] then out ++ [32] else out) ++ [c]) r
def trL (s : By) : By := trF false [] s
def trS (s : By) : Option By := if 255 < s.length then none else some (trL s)
def putW (out word : By) : By := if word = [] then out else (if out = [] then [] else out ++ [32]) ++ word
theorem tr_run : ∀ {w : By} (out r : By), (∀ c ∈ w, c ≠ 32) → trF false out (w ++ r) = trF false (out ++ w) r
  | [], out, r, _ => by simp
  | c :: w, out, r, h => by
    rw [List.cons_append, trF, if_neg (h c (by simp)), if_neg (by simp), tr_run (w := w) _ r (fun d hd => h d (by simp [hd]))]
    simp
theorem tr_word {p : Bool} {w : By} (out r : By) (h : ∀ c ∈ w, c ≠ 32) (hp : p = true ∨ out = []) : trF p out (w ++ 32 :: r) = trF true (putW out w) r := by
  cases w with
  | nil => rw [List.nil_append, trF, if_pos rfl]; rfl
  | cons c w =>
    rw [List.cons_append, trF, if_neg (h c (by simp)), tr_run _ _ (fun d hd => h d (by simp [hd])), trF, if_pos rfl]
    congr 1
    unfold putW
    rw [if_neg (List.cons_ne_nil c w)]
    by_cases ho : out = []
    · simp [ho]
    · have : p = true := hp.resolve_right ho
      simp [ho, this]
theorem tr_last {p : Bool} {w : By} (out : By) (h : ∀ c ∈ w, c ≠ 32) (hp : p = true ∨ out = []) : trF p out w = putW out w := by
  cases w with
  | nil => rw [trF.eq_def]; rfl
  | cons c w =>
    have e : trF false ((if p = true ∧ out ≠ [] then out ++ [32] else out) ++ [c]) (w ++ []) = trF false ((if p = true ∧ out ≠ [] then out ++ [32] else out) ++ [c] ++ w) [] := tr_run _ _ (fun d hd => h d (by simp [hd]))
    rw [List.append_nil] at e
    rw [trF, if_neg (h c (by simp)), e, trF.eq_def]
    dsimp only
    unfold putW
    rw [if_neg (List.cons_ne_nil c w)]
    by_cases ho : out = []
    · simp [ho]
    · have : p = true := hp.resolve_right ho
      simp [ho, this]
theorem putW_len (out w : By) : (putW out w).length ≤ out.length + w.length + 1 := by
  unfold putW
  by_cases h : w = []
  · simp [h]
  · rw [if_neg h]
    by_cases ho : out = []
    · simp [ho]
    · simp [ho]; omega
theorem trF_len : ∀ (p : Bool) (out s : By), (trF p out s).length ≤ out.length + (if p then 1 else 0) + s.length
  | p, out, [] => by rw [trF.eq_def]; simp
  | p, out, c :: r => by
    rw [trF]
    split
    · have := trF_len true out r
      cases p <;> simp at * <;> omega
    · have := trF_len false ((if p = true ∧ out ≠ [] then out ++ [32] else out) ++ [c]) r
      cases p
      · simp at *; omega
      · by_cases ho : out = []
        · simp [ho] at *; omega
        · simp [ho] at *; omega
theorem trL_len (s : By) : (trL s).length ≤ s.length := by
  have := trF_len false [] s
  simpa [trL] using this

/-- A text so many times. -/
def rpL (s : By) : Nat → By
  | 0 => []
  | n + 1 => rpL s n ++ s
theorem rpL_len (s : By) : ∀ n, (rpL s n).length = s.length * n
  | 0 => rfl
  | n + 1 => by rw [rpL, List.length_append, rpL_len s n, Nat.mul_succ]
def rtS (s : By) (n : Int) : Option By := if 255 < s.length ∨ n < 0 then none else if s = [] then some [] else capS (rpL s n.toNat)
def jnS (l : List By) : Option By := capS l.flatten
def loB (c : UInt8) : UInt8 := if 65 ≤ c.toNat ∧ c.toNat ≤ 90 then c - 65 + 97 else c
def loL (s : By) : By := s.map loB
def loS (s : By) : Option By := if 255 < s.length then none else some (loL s)
def chS (n : Int) : Option By := if n < 1 ∨ 255 < n then none else some [UInt8.ofNat n.toNat]
def cdS (s : By) : Option Int := if 255 < s.length then none else match s with
  | [] => none
  | c :: _ => some (c.toNat : Int)
end Go.Proofs.YthooimaadgabiabDoor
