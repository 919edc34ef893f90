/-
  Plain words for lex's contracts: what ReplaceAll makes of doubled quotes; how far a quoted text goes; the first of some names that a text begins with; the signs in two orders.
-/
import Derived.Test.YtiaoaifoecmemaaGreatDoorRLxDef
import Derived.Lib.Replace
namespace Go.Proofs.YtiaoaifoecmemaaGreatDoor
open Go.RowKit
def undbl : List UInt8 → List UInt8
 | [] => []
 | [c] => [c]
 | c :: d :: r => if c.toNat = 34 ∧ d.toNat = 34 then 34 :: undbl r else c :: undbl (d :: r)
theorem byte_is {c : UInt8} {n : Nat} (hn : n < 256) : c.toNat = n ↔ c = UInt8.ofNat n := by
  constructor
  · rintro rfl; simp
  · rintro rfl; simp; omega
theorem byte34 {c : UInt8} : c.toNat = 34 ↔ c = 34 := byte_is (by omega)
theorem und_pair (r : List UInt8) : undbl (34 :: 34 :: r) = 34 :: undbl r := by simp [undbl]
theorem und_other {c : UInt8} {r : List UInt8} (h : ¬ (([34, 34] : List UInt8).isPrefixOf (c :: r) = true)) : undbl (c :: r) = c :: undbl r := by
 cases r with
 | nil => rfl
 | cons d r =>
  simp only [undbl]
  rw [if_neg]
  rintro ⟨h1, h2⟩
  rw [byte34] at h1 h2
  subst h1 h2
  exact h (by simp)
theorem und_not {c : UInt8} (r : List UInt8) (h : c.toNat ≠ 34) : undbl (c :: r) = c :: undbl r := by
 refine und_other (fun e => h ?_)
 cases r <;> simp [List.isPrefixOf] at e
 rw [← e.1]; rfl
theorem rep_go : ∀ (n : Nat) (l : List UInt8), l.length ≤ n → Lib.replaceK [34, 34] [34] (Lib.count l [34, 34]) l = undbl l
  | 0, l, h => by
    cases l with
    | nil => rfl
    | cons c r => simp at h
  | n + 1, [], _ => by
    rw [Lib.count_miss (by rfl)]; rfl
  | n + 1, c :: r, h => by
    by_cases hp : ([34, 34] : List UInt8).isPrefixOf (c :: r) = true
    · have hi : Lib.index (c :: r) [34, 34] = ((0 : Nat) : Int) := by simp [Lib.index, hp]
      rw [Lib.count_hit (by simp) hi, Nat.add_comm, Lib.replaceK_hit _ _ _ _ 0 hi]
      cases r with
      | nil => simp [List.isPrefixOf] at hp
      | cons d r =>
        simp [List.isPrefixOf] at hp
        obtain ⟨rfl, rfl⟩ := hp
        rw [und_pair]
        have := rep_go n r (by simp at h; omega)
        simp
        exact this
    · rw [und_other hp]
      have ih := rep_go n r (by simpa using h)
      by_cases hm : Lib.index r [34, 34] = -1
      · have hi : Lib.index (c :: r) [34, 34] = -1 := by simp [Lib.index, hp, hm]
        rw [Lib.count_miss hi]
        rw [Lib.count_miss hm] at ih
        have : r = undbl r := ih
        rw [← this]; rfl
      · obtain ⟨i, hr⟩ : ∃ i : Nat, Lib.index r [34, 34] = i := ⟨(Lib.index r [34, 34]).toNat, by have := Lib.index_ge r [34, 34]; omega⟩
        have hi : Lib.index (c :: r) [34, 34] = ((i + 1 : Nat) : Int) := by
          simp [Lib.index, hp, hr]
        rw [Lib.count_hit (by simp) hi, Nat.add_comm, Lib.replaceK_hit _ _ _ _ (i + 1) hi]
        rw [Lib.count_hit (by simp) hr, Nat.add_comm, Lib.replaceK_hit _ _ _ _ i hr] at ih
        rw [← ih]
        simp
theorem rep_all (l : List UInt8) : Lib.replaceAll l [34, 34] [34] = undbl l := by
 unfold Lib.replaceAll Lib.replace Lib.replaceNum
 rw [if_neg (by decide), if_pos (Or.inl (by omega))]
 exact rep_go l.length l (Nat.le_refl _)
def quoN : List UInt8 → Bool → Nat × Bool
 | [], op => (0, op)
 | c :: r, op => if c.toNat = 34 then ((quoN r (!op)).1 + 1, (quoN r (!op)).2) else if op then ((quoN r op).1 + 1, (quoN r op).2) else (0, op)
theorem quo_quote {c : UInt8} {r : List UInt8} {op : Bool} (h : c.toNat = 34) : quoN (c :: r) op = ((quoN r (!op)).1 + 1, (quoN r (!op)).2) := by rw [quoN, if_pos h]
theorem quo_in {c : UInt8} {r : List UInt8} (h : c.toNat ≠ 34) : quoN (c :: r) true = ((quoN r true).1 + 1, (quoN r true).2) := by rw [quoN, if_neg h, if_pos rfl]
theorem quo_out {c : UInt8} {r : List UInt8} (h : c.toNat ≠ 34) : quoN (c :: r) false = (0, false) := by rw [quoN, if_neg h, if_neg (by simp)]
theorem txt_two (r : List UInt8) : txt (34 :: 34 :: r) = (txt r).map (fun x => (34 :: x.1, x.2 + 2)) := by simp [txt]
theorem txt_end {d : UInt8} (r : List UInt8) (h : d.toNat ≠ 34) : txt (34 :: d :: r) = some ([], 1) := by simp [txt, h]
theorem txt_in {c : UInt8} (r : List UInt8) (h : c.toNat ≠ 34) : txt (c :: r) = (txt r).map (fun x => (c :: x.1, x.2 + 1)) := by
 cases r <;> simp [txt, h]
def Quo (r : List UInt8) : Prop := (txt r = none → (quoN r true).2 = true) ∧ ∀ t n, txt r = some (t, n) → quoN r true = (n, false) ∧ undbl (r.take (n - 1)) = t ∧ 1 ≤ n ∧ n ≤ r.length
theorem quo_txt : ∀ (k : Nat) (r : List UInt8), r.length ≤ k → Quo r
  | k, [], _ => ⟨fun _ => rfl, fun t n h => by simp [txt] at h⟩
  | 0, c :: r, h => by simp at h
  | k + 1, c :: r, h => by
    by_cases hc : c.toNat = 34
    · have hc' := byte34.1 hc
      subst hc'
      match r, h with
      | [], _ =>
        refine ⟨fun h => by simp [txt] at h, fun t n h => ?_⟩
        simp [txt] at h
        obtain ⟨rfl, rfl⟩ := h
        exact ⟨by simp [quoN], by simp [undbl], by omega, by simp⟩
      | d :: r', h =>
        by_cases hd : d.toNat = 34
        · have hd' := byte34.1 hd
          subst hd'
          have ih := quo_txt k r' (by simp at h; omega)
          have hq : quoN (34 :: 34 :: r') true = ((quoN r' true).1 + 2, (quoN r' true).2) := by rw [quo_quote rfl, quo_quote rfl]; rfl
          refine ⟨fun h => ?_, fun t n h => ?_⟩
          · rw [txt_two] at h
            rw [hq]
            refine ih.1 ?_
            cases e : txt r' with
            | none => rfl
            | some x => rw [e] at h; simp at h
          · rw [txt_two] at h
            cases e : txt r' with
            | none => rw [e] at h; simp at h
            | some x =>
              obtain ⟨t', m⟩ := x
              rw [e] at h
              simp at h
              obtain ⟨rfl, rfl⟩ := h
              obtain ⟨h1, h2, h3, h4⟩ := ih.2 t' m e
              refine ⟨by rw [hq, h1], ?_, by omega, by simp; omega⟩
              obtain ⟨q, rfl⟩ : ∃ q, m = q + 1 := ⟨m - 1, by omega⟩
              have : q + 1 + 2 - 1 = q + 2 := by omega
              rw [this, List.take_succ_cons, List.take_succ_cons, und_pair]
              simp at h2
              rw [h2]
        · refine ⟨fun h => absurd (h.symm.trans (txt_end _ hd)) (by simp), fun t n h => ?_⟩
          rw [txt_end _ hd] at h
          simp at h
          obtain ⟨rfl, rfl⟩ := h
          exact ⟨by rw [quo_quote rfl, show (!true) = false from rfl, quo_out hd], by simp [undbl], by omega, by simp⟩
    · have ih := quo_txt k r (by simpa using h)
      refine ⟨fun h => ?_, fun t n h => ?_⟩
      · rw [txt_in _ hc] at h
        rw [quo_in hc]
        refine ih.1 ?_
        cases e : txt r with
        | none => rfl
        | some x => rw [e] at h; simp at h
      · rw [txt_in _ hc] at h
        cases e : txt r with
        | none => rw [e] at h; simp at h
        | some x =>
          obtain ⟨t', m⟩ := x
          rw [e] at h
          simp at h
          obtain ⟨rfl, rfl⟩ := h
          obtain ⟨h1, h2, h3, h4⟩ := ih.2 t' m e
          refine ⟨by rw [quo_in hc, h1], ?_, by omega, by simp; omega⟩
          obtain ⟨q, rfl⟩ : ∃ q, m = q + 1 := ⟨m - 1, by omega⟩
          have : q + 1 + 1 - 1 = q + 1 := by omega
          rw [this, List.take_succ_cons, und_not _ hc]
          simp at h2
          rw [h2]
theorem pick_hit {f : Nat → List UInt8} {l : List UInt8} {k n : Nat} (h : Lib.hasPrefix l (f k) = true) : pick f l k (n + 1) = some k := by rw [pick, if_pos h]
theorem pick_miss {f : Nat → List UInt8} {l : List UInt8} {k n : Nat} (h : Lib.hasPrefix l (f k) = false) : pick f l k (n + 1) = pick f l (k + 1) n := by rw [pick, if_neg (by rw [h]; simp)]
def rsigns : List (List UInt8) := [[60, 62], [60, 61], [62, 61], [43], [45], [42], [47], [38], [61], [60], [62], [40], [41], [44], [58]]
def rsignL (i : Nat) : List UInt8 := rsigns.getD i []
theorem signs_same (l : List UInt8) : (pick rsignL l 0 15).map rsignL = (pick signL l 0 15).map signL := by
  match l with
  | [] => rfl
  | [c] =>
    by_cases h60 : c = 60
    · subst h60; rfl
    by_cases h62 : c = 62
    · subst h62; rfl
    by_cases h43 : c = 43
    · subst h43; rfl
    by_cases h45 : c = 45
    · subst h45; rfl
    by_cases h42 : c = 42
    · subst h42; rfl
    by_cases h47 : c = 47
    · subst h47; rfl
    by_cases h38 : c = 38
    · subst h38; rfl
    by_cases h61 : c = 61
    · subst h61; rfl
    by_cases h40 : c = 40
    · subst h40; rfl
    by_cases h41 : c = 41
    · subst h41; rfl
    by_cases h44 : c = 44
    · subst h44; rfl
    by_cases h58 : c = 58
    · subst h58; rfl
    simp [pick, rsignL, signL, rsigns, signs, Lib.hasPrefix, List.isPrefixOf, Ne.symm h60, Ne.symm h62, Ne.symm h43, Ne.symm h45, Ne.symm h42, Ne.symm h47, Ne.symm h38, Ne.symm h61, Ne.symm h40, Ne.symm h41, Ne.symm h44, Ne.symm h58]
  | c :: d :: r =>
    by_cases h43 : c = 43
    · subst h43; rfl
    by_cases h45 : c = 45
    · subst h45; rfl
    by_cases h42 : c = 42
    · subst h42; rfl
    by_cases h47 : c = 47
    · subst h47; rfl
    by_cases h38 : c = 38
    · subst h38; rfl
    by_cases h61 : c = 61
    · subst h61; rfl
    by_cases h40 : c = 40
    · subst h40; rfl
    by_cases h41 : c = 41
    · subst h41; rfl
    by_cases h44 : c = 44
    · subst h44; rfl
    by_cases h58 : c = 58
    · subst h58; rfl
    by_cases h60 : c = 60
    · subst h60
      by_cases e1 : d = 62
      · subst e1; rfl
      · by_cases e2 : d = 61
        · subst e2; rfl
        · simp [pick, rsignL, signL, rsigns, signs, Lib.hasPrefix, List.isPrefixOf, Ne.symm e1, Ne.symm e2]
    by_cases h62 : c = 62
    · subst h62
      by_cases e2 : d = 61
      · subst e2; rfl
      · simp [pick, rsignL, signL, rsigns, signs, Lib.hasPrefix, List.isPrefixOf, Ne.symm e2]
    simp [pick, rsignL, signL, rsigns, signs, Lib.hasPrefix, List.isPrefixOf, Ne.symm h60, Ne.symm h62, Ne.symm h43, Ne.symm h45, Ne.symm h42, Ne.symm h47, Ne.symm h38, Ne.symm h61, Ne.symm h40, Ne.symm h41, Ne.symm h44, Ne.symm h58]
end Go.Proofs.YtiaoaifoecmemaaGreatDoor
