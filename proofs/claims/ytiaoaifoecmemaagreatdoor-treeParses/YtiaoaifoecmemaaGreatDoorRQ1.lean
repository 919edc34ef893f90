/-
  What the document says of formulas, in plain words: a node is its head and its kids (a forest); how the text of tokens is read; how deep and how many nodes are.
  Plain words on the reader: what is left is never more than what was; more steps than enough change nothing; its equations.
  Plain words on right nodes and their tokens: what is printed is read as it was.
  Plain words on what is read out of good tokens: the node is right, and it has no more nodes than there were tokens.
-/
import Derived.Test.YtiaoaifoecmemaaGreatDoorRLxDef
namespace Go.Proofs.YtiaoaifoecmemaaGreatDoor
open Go.RowKit
structure Hd where
 kind : Int
 vk : Int
 vn : Int
 vs : List UInt8
 vb : Bool
 vc : Int
 row : Int
 col : Int
 fr : Bool
 fc : Bool
 row2 : Int
 col2 : Int
 fr2 : Bool
 fc2 : Bool
 txt : List UInt8
inductive Fo where
 | nil : Fo
 | cons : Hd → Fo → Fo → Fo
def Fo.len : Fo → Nat
 | .nil => 0
 | .cons _ _ r => r.len + 1
def Fo.deep : Fo → Nat
 | .nil => 0
 | .cons _ k r => max (k.deep + 1) r.deep
def Fo.many : Fo → Nat
 | .nil => 0
 | .cons _ k r => k.many + 1 + r.many
def Fo.snoc : Fo → Hd → Fo → Fo
 | .nil, h, k => .cons h k .nil
 | .cons h' k' r, h, k => .cons h' k' (r.snoc h k)
def zh : Hd := ⟨0, 0, 0, [], false, 0, 0, 0, false, false, 0, 0, false, false, []⟩
def valH (t : Tok) : Hd := ⟨1, t.vk, t.vn, t.vs, t.vb, t.vc, 0, 0, false, false, 0, 0, false, false, []⟩
def cellH (t : Tok) : Hd := ⟨2, 0, 0, [], false, 0, t.row, t.col, t.fr, t.fc, 0, 0, false, false, []⟩
def rangeH (t u : Tok) : Hd := ⟨3, 0, 0, [], false, 0, t.row, t.col, t.fr, t.fc, u.row, u.col, u.fr, u.fc, []⟩
def negH : Hd := ⟨4, 0, 0, [], false, 0, 0, 0, false, false, 0, 0, false, false, []⟩
def binH (s : List UInt8) : Hd := ⟨5, 0, 0, [], false, 0, 0, 0, false, false, 0, 0, false, false, s⟩
def callH (s : List UInt8) : Hd := ⟨6, 0, 0, [], false, 0, 0, 0, false, false, 0, 0, false, false, s⟩
def bindN (s : List UInt8) : Nat :=
 if s = [61] ∨ s = [60, 62] ∨ s = [60] ∨ s = [62] ∨ s = [60, 61] ∨ s = [62, 61] then 1
 else if s = [38] then 2
 else if s = [43] ∨ s = [45] then 3
 else if s = [42] ∨ s = [47] then 4 else 0
inductive Rs where
 | ok : Hd → Fo → List Tok → Rs
 | bad : List Tok → Rs
inductive Cmd where
 | form : Nat → Cmd
 | single : Cmd
 | loop : Nat → Hd → Fo → Cmd
 | kids : Fo → Cmd
def hd (l : List Tok) : Tok := l.headD zt
def atB (l : List Tok) (s : List UInt8) : Bool := decide ((hd l).kind = 4) && decide ((hd l).txt = s)
def go : Nat → Cmd → List Tok → Rs
 | 0, _, l => .bad l
 | f + 1, .form m, l =>
  match go f .single l with
  | .ok h k r => go f (.loop m h k) r
  | .bad r => .bad r
 | f + 1, .loop m h k, l =>
  if bindN (hd l).txt < m then .ok h k l
  else match go f (.form (bindN (hd l).txt + 1)) l.tail with
   | .ok h' k' r => go f (.loop m (binH (hd l).txt) (.cons h k (.cons h' k' .nil))) r
   | .bad r => .bad r
 | f + 1, .single, l =>
  if (hd l).kind = 1 then .ok (valH (hd l)) .nil l.tail
  else if (hd l).kind = 2 then
   (if atB l.tail [58] then (if (hd l.tail.tail).kind = 2 then .ok (rangeH (hd l) (hd l.tail.tail)) .nil l.tail.tail.tail else .bad l.tail.tail)
   else .ok (cellH (hd l)) .nil l.tail)
  else if (hd l).kind = 3 then
   (if atB l.tail [40] then
    (if atB l.tail.tail [41] then .ok (callH (hd l).txt) .nil l.tail.tail.tail
    else match go f (.kids .nil) l.tail.tail with
     | .ok _ k r => if atB r [41] then .ok (callH (hd l).txt) k r.tail else .bad r
     | .bad r => .bad r)
   else .bad l.tail)
  else if atB l [45] then
   (match go f .single l.tail with
    | .ok h k r => .ok negH (.cons h k .nil) r
    | .bad r => .bad r)
  else if atB l [40] then
   (match go f (.form 1) l.tail with
    | .ok h k r => if atB r [41] then .ok h k r.tail else .bad r
    | .bad r => .bad r)
  else .bad l
 | f + 1, .kids acc, l =>
  match go f (.form 1) l with
  | .ok h k r => if atB r [44] then go f (.kids (acc.snoc h k)) r.tail else .ok zh (acc.snoc h k) r
  | .bad r => .bad r
def need : Cmd → List Tok → Nat
 | .form _, l => 3 * l.length + 2
 | .single, l => 3 * l.length + 1
 | .loop _ _ _, l => 3 * l.length + 1
 | .kids _, l => 3 * l.length + 3
def rd (c : Cmd) (l : List Tok) : Rs := go (need c l) c l
def takes : Cmd → Nat
 | .loop _ _ _ => 0
 | _ => 1
theorem atB_nil (s : List UInt8) : atB [] s = false := by simp [atB, hd, zt]
theorem tail_lt {l : List Tok} {s : List UInt8} (h : atB l s = true) : l.tail.length + 1 = l.length := by
 cases l with
 | nil => rw [atB_nil] at h; cases h
 | cons a l => simp
theorem tail_kind {l : List Tok} (h : (hd l).kind ≠ 0) : l.tail.length + 1 = l.length := by
 cases l with
 | nil => exact absurd rfl h
 | cons a l => simp
theorem bind_nil : bindN [] = 0 := by decide
theorem tail_bind {l : List Tok} (h : bindN (hd l).txt ≠ 0) : l.tail.length + 1 = l.length := by
 cases l with
 | nil => exact absurd bind_nil h
 | cons a l => simp
def fine : Cmd → Prop
 | .form m => 1 ≤ m
 | .loop m _ _ => 1 ≤ m
 | _ => True
theorem go_len : ∀ (f : Nat) (c : Cmd) (l : List Tok), fine c → ∀ h k r, go f c l = .ok h k r → r.length + takes c ≤ l.length
  | 0, _, _, _, _, _, _, e => by simp [go] at e
  | f + 1, .form m, l, hm, h, k, r, e => by
    rw [go] at e
    cases e1 : go f .single l with
    | bad r => rw [e1] at e; cases e
    | ok h1 k1 r1 =>
      rw [e1] at e
      have a := go_len f .single l trivial _ _ _ e1
      have b := go_len f (.loop m h1 k1) r1 hm _ _ _ e
      simp [takes] at a b ⊢
      omega
  | f + 1, .loop m h0 k0, l, hm, h, k, r, e => by
    rw [go] at e
    split at e
    · cases e; simp [takes]
    · rename_i hb
      simp only [fine] at hm
      have ht := tail_bind (l := l) (by omega)
      cases e1 : go f (.form (bindN (hd l).txt + 1)) l.tail with
      | bad r => rw [e1] at e; cases e
      | ok h1 k1 r1 =>
        rw [e1] at e
        have a := go_len f (.form (bindN (hd l).txt + 1)) l.tail (by simp [fine]) _ _ _ e1
        have b := go_len f _ r1 (by simpa [fine] using hm) _ _ _ e
        simp [takes] at a b ⊢
        simp at ht
        omega
  | f + 1, .single, l, hm, h, k, r, e => by
    simp only [takes]
    rw [go] at e
    split at e
    · rename_i h1
      have := tail_kind (l := l) (by omega)
      cases e; omega
    · split at e
      · rename_i h1
        have ht := tail_kind (l := l) (by omega)
        split at e
        · rename_i h2
          have ht2 := tail_lt h2
          split at e
          · rename_i h3
            have ht3 := tail_kind (l := l.tail.tail) (by omega)
            cases e; omega
          · cases e
        · cases e; omega
      · split at e
        · rename_i h1
          have ht := tail_kind (l := l) (by omega)
          split at e
          · rename_i h2
            have ht2 := tail_lt h2
            split at e
            · rename_i h3
              have ht3 := tail_lt h3
              cases e; omega
            · cases e1 : go f (.kids .nil) l.tail.tail with
              | bad r => rw [e1] at e; cases e
              | ok h1 k1 r1 =>
                rw [e1] at e
                have a := go_len f (.kids .nil) l.tail.tail trivial _ _ _ e1
                simp only [takes] at a
                simp only at e
                split at e
                · rename_i h3
                  have ht3 := tail_lt h3
                  cases e; omega
                · cases e
          · cases e
        · split at e
          · rename_i h2
            have ht2 := tail_lt h2
            cases e1 : go f .single l.tail with
            | bad r => rw [e1] at e; cases e
            | ok h1 k1 r1 =>
              rw [e1] at e
              have a := go_len f .single l.tail trivial _ _ _ e1
              simp only [takes] at a
              cases e; omega
          · split at e
            · rename_i h2
              have ht2 := tail_lt h2
              cases e1 : go f (.form 1) l.tail with
              | bad r => rw [e1] at e; cases e
              | ok h1 k1 r1 =>
                rw [e1] at e
                have a := go_len f (.form 1) l.tail (by simp [fine]) _ _ _ e1
                simp only [takes] at a
                simp only at e
                split at e
                · rename_i h3
                  have ht3 := tail_lt h3
                  cases e; omega
                · cases e
            · cases e
  | f + 1, .kids acc, l, hm, h, k, r, e => by
    rw [go] at e
    simp only [takes]
    cases e1 : go f (.form 1) l with
    | bad r => rw [e1] at e; cases e
    | ok h1 k1 r1 =>
      rw [e1] at e
      have a := go_len f (.form 1) l (by simp [fine]) _ _ _ e1
      simp only [takes] at a
      simp only at e
      split at e
      · rename_i h3
        have ht3 := tail_lt h3
        have b := go_len f (.kids (acc.snoc h1 k1)) r1.tail trivial _ _ _ e
        simp only [takes] at b
        omega
      · cases e; omega
theorem go_fuel : ∀ (f g : Nat) (c : Cmd) (l : List Tok), fine c → need c l ≤ f → need c l ≤ g → go f c l = go g c l
  | 0, _, c, _, _, h, _ => by cases c <;> simp [need] at h
  | _ + 1, 0, c, _, _, _, h => by cases c <;> simp [need] at h
  | f + 1, g + 1, .form m, l, hm, h1, h2 => by
    simp only [need] at h1 h2
    rw [go, go, go_fuel f g .single l trivial (by simp only [need]; omega) (by simp only [need]; omega)]
    cases e1 : go g .single l with
    | bad r => rfl
    | ok h' k' r =>
      have a := go_len g .single l trivial _ _ _ e1
      simp only [takes] at a
      exact go_fuel f g (.loop m h' k') r hm (by simp only [need]; omega) (by simp only [need]; omega)
  | f + 1, g + 1, .loop m h0 k0, l, hm, h1, h2 => by
    simp only [need] at h1 h2
    rw [go, go]
    split
    · rfl
    · rename_i hb
      simp only [fine] at hm
      have ht := tail_bind (l := l) (by omega)
      rw [go_fuel f g (.form (bindN (hd l).txt + 1)) l.tail (by simp [fine]) (by simp only [need]; omega) (by simp only [need]; omega)]
      cases e1 : go g (.form (bindN (hd l).txt + 1)) l.tail with
      | bad r => rfl
      | ok h' k' r =>
        have a := go_len g _ l.tail (by simp [fine]) _ _ _ e1
        simp only [takes] at a
        exact go_fuel f g _ r hm (by simp only [need]; omega) (by simp only [need]; omega)
  | f + 1, g + 1, .single, l, hm, h1, h2 => by
    simp only [need] at h1 h2
    rw [go, go]
    split
    · rfl
    · split
      · rfl
      · split
        · rename_i h3
          have ht := tail_kind (l := l) (by omega)
          split
          · rename_i h4
            have ht2 := tail_lt h4
            rw [go_fuel f g (.kids .nil) l.tail.tail trivial (by simp only [need]; omega) (by simp only [need]; omega)]
          · rfl
        · split
          · rename_i h4
            have ht2 := tail_lt h4
            rw [go_fuel f g .single l.tail trivial (by simp only [need]; omega) (by simp only [need]; omega)]
          · split
            · rename_i h4
              have ht2 := tail_lt h4
              rw [go_fuel f g (.form 1) l.tail (by simp [fine]) (by simp only [need]; omega) (by simp only [need]; omega)]
            · rfl
  | f + 1, g + 1, .kids acc, l, hm, h1, h2 => by
    simp only [need] at h1 h2
    rw [go, go, go_fuel f g (.form 1) l (by simp [fine]) (by simp only [need]; omega) (by simp only [need]; omega)]
    cases e1 : go g (.form 1) l with
    | bad r => rfl
    | ok h' k' r =>
      have a := go_len g (.form 1) l (by simp [fine]) _ _ _ e1
      simp only [takes] at a
      simp only
      split
      · rename_i h3
        have ht3 := tail_lt h3
        exact go_fuel f g (.kids (acc.snoc h' k')) r.tail trivial (by simp only [need]; omega) (by simp only [need]; omega)
      · rfl
theorem rd_of {f : Nat} {c : Cmd} {l : List Tok} (hc : fine c) (h : need c l ≤ f) : go f c l = rd c l := go_fuel _ _ _ _ hc h (Nat.le_refl _)
theorem rd_len {c : Cmd} {l : List Tok} (hc : fine c) {h k r} (e : rd c l = .ok h k r) : r.length + takes c ≤ l.length := go_len _ _ _ hc _ _ _ e
def Rs.on : Rs → (Hd → Fo → List Tok → Rs) → Rs
 | .ok h k r, f => f h k r
 | .bad r, _ => .bad r
theorem rd_form (m : Nat) (hm : 1 ≤ m) (l : List Tok) : rd (.form m) l = (rd .single l).on fun h k r => rd (.loop m h k) r := by
 show go (3 * l.length + 2) (.form m) l = _
 rw [go, rd_of (c := .single) trivial (by simp only [need]; omega)]
 cases e : rd .single l with
 | bad r => rfl
 | ok h k r =>
  have a := rd_len (c := .single) trivial e
  simp only [takes] at a
  exact rd_of (c := .loop m h k) hm (by simp only [need]; omega)
theorem rd_stop {m : Nat} (h : Hd) (k : Fo) {l : List Tok} (hb : bindN (hd l).txt < m) : rd (.loop m h k) l = .ok h k l := by
 show go (3 * l.length + 1) _ l = _
 rw [go, if_pos hb]
theorem rd_loop {m : Nat} (hm : 1 ≤ m) (h : Hd) (k : Fo) {l : List Tok} (hb : m ≤ bindN (hd l).txt) :
  rd (.loop m h k) l = (rd (.form (bindN (hd l).txt + 1)) l.tail).on fun h' k' r => rd (.loop m (binH (hd l).txt) (.cons h k (.cons h' k' .nil))) r := by
 show go (3 * l.length + 1) _ l = _
 have ht := tail_bind (l := l) (by omega)
 rw [go, if_neg (by omega), rd_of (c := .form _) (by simp [fine]) (by simp only [need]; omega)]
 cases e : rd (.form (bindN (hd l).txt + 1)) l.tail with
 | bad r => rfl
 | ok h' k' r =>
  have a := rd_len (c := .form _) (by simp [fine]) e
  simp only [takes] at a
  exact rd_of (c := .loop m _ _) hm (by simp only [need]; omega)
theorem rd_value {l : List Tok} (h : (hd l).kind = 1) : rd .single l = .ok (valH (hd l)) .nil l.tail := by
 show go (3 * l.length + 1) _ l = _
 rw [go, if_pos h]
theorem rd_cell {l : List Tok} (h : (hd l).kind = 2) : rd .single l = (if atB l.tail [58] then (if (hd l.tail.tail).kind = 2 then .ok (rangeH (hd l) (hd l.tail.tail)) .nil l.tail.tail.tail else .bad l.tail.tail) else .ok (cellH (hd l)) .nil l.tail) := by
 show go (3 * l.length + 1) _ l = _
 rw [go, if_neg (by omega), if_pos h]
theorem rd_call {l : List Tok} (h : (hd l).kind = 3) (h1 : atB l.tail [40] = true) : rd .single l = if atB l.tail.tail [41] then .ok (callH (hd l).txt) .nil l.tail.tail.tail else (rd (.kids .nil) l.tail.tail).on fun _ k r => if atB r [41] then .ok (callH (hd l).txt) k r.tail else .bad r := by
  show go (3 * l.length + 1) _ l = _
  have ht := tail_kind (l := l) (by omega)
  have ht2 := tail_lt h1
  rw [go, if_neg (by omega), if_neg (by omega), if_pos h, if_pos h1, rd_of (c := .kids .nil) trivial (by simp only [need]; omega)]
  split
  · rfl
  · cases e : rd (.kids .nil) l.tail.tail <;> rfl
theorem rd_call_no {l : List Tok} (h : (hd l).kind = 3) (h1 : atB l.tail [40] = false) : rd .single l = .bad l.tail := by
 show go (3 * l.length + 1) _ l = _
 rw [go, if_neg (by omega), if_neg (by omega), if_pos h, if_neg (by rw [h1]; simp)]
theorem atB_kind {l : List Tok} {s : List UInt8} (h : atB l s = true) : (hd l).kind = 4 ∧ (hd l).txt = s := by
 simpa [atB] using h
theorem rd_minus {l : List Tok} (h : atB l [45] = true) : rd .single l = (rd .single l.tail).on fun h k r => .ok negH (.cons h k .nil) r := by
 show go (3 * l.length + 1) _ l = _
 have ht := tail_lt h
 obtain ⟨hk, _⟩ := atB_kind h
 rw [go, if_neg (by omega), if_neg (by omega), if_neg (by omega), if_pos h, rd_of (c := .single) trivial (by simp only [need]; omega)]
 cases e : rd .single l.tail <;> rfl
theorem atB_two {l : List Tok} {s t : List UInt8} (h : atB l s = true) (hst : s ≠ t) : atB l t = false := by
 obtain ⟨h1, h2⟩ := atB_kind h
 simp [atB, h1, h2, hst]
theorem rd_open {l : List Tok} (h : atB l [40] = true) : rd .single l = (rd (.form 1) l.tail).on fun h k r => if atB r [41] then .ok h k r.tail else .bad r := by
 show go (3 * l.length + 1) _ l = _
 have ht := tail_lt h
 obtain ⟨hk, _⟩ := atB_kind h
 rw [go, if_neg (by omega), if_neg (by omega), if_neg (by omega), if_neg (by rw [atB_two h (by decide)]; simp), if_pos h, rd_of (c := .form 1) (by simp [fine]) (by simp only [need]; omega)]
 cases e : rd (.form 1) l.tail <;> rfl
theorem rd_none {l : List Tok} (h1 : (hd l).kind ≠ 1) (h2 : (hd l).kind ≠ 2) (h3 : (hd l).kind ≠ 3) (h4 : atB l [45] = false) (h5 : atB l [40] = false) : rd .single l = .bad l := by
 show go (3 * l.length + 1) _ l = _
 rw [go, if_neg h1, if_neg h2, if_neg h3, if_neg (by rw [h4]; simp), if_neg (by rw [h5]; simp)]
theorem rd_kids (acc : Fo) (l : List Tok) : rd (.kids acc) l = (rd (.form 1) l).on fun h k r => if atB r [44] then rd (.kids (acc.snoc h k)) r.tail else .ok zh (acc.snoc h k) r := by
  show go (3 * l.length + 3) _ l = _
  rw [go, rd_of (c := .form 1) (by simp [fine]) (by simp only [need]; omega)]
  cases e : rd (.form 1) l with
  | bad r => rfl
  | ok h k r =>
    have a := rd_len (c := .form 1) (by simp [fine]) e
    simp only [takes] at a
    show (if _ then _ else _) = (if _ then _ else _)
    split
    · rename_i h3
      have ht3 := tail_lt h3
      exact rd_of (c := .kids _) trivial (by simp only [need]; omega)
    · rfl
theorem loop_head : ∀ (n m : Nat) (h : Hd) (k : Fo) (l : List Tok), 1 ≤ m → l.length ≤ n → ∀ h' k' r, rd (.loop m h k) l = .ok h' k' r → bindN (hd r).txt < m := by
  intro n
  induction n with
  | zero =>
    intro m h k l hm hl h' k' r e
    have : l = [] := List.length_eq_zero_iff.1 (by omega)
    subst this
    have hb : bindN (hd ([] : List Tok)).txt < m := by
      have : bindN (hd ([] : List Tok)).txt = 0 := bind_nil
      omega
    rw [rd_stop h k hb] at e
    cases e
    exact hb
  | succ n ih =>
    intro m h k l hm hl h' k' r e
    by_cases hb : bindN (hd l).txt < m
    · rw [rd_stop h k hb] at e
      cases e; exact hb
    · rw [rd_loop hm h k (by omega)] at e
      have ht := tail_bind (l := l) (by omega)
      cases e1 : rd (.form (bindN (hd l).txt + 1)) l.tail with
      | bad r => rw [e1] at e; cases e
      | ok h1 k1 r1 =>
        rw [e1] at e
        have a := rd_len (c := .form _) (by simp [fine]) e1
        simp only [takes] at a
        exact ih m _ _ r1 hm (by omega) _ _ _ e
theorem form_head {m : Nat} (hm : 1 ≤ m) {l : List Tok} {h k r} (e : rd (.form m) l = .ok h k r) : bindN (hd r).txt < m := by
 rw [rd_form m hm] at e
 cases e1 : rd .single l with
 | bad r => rw [e1] at e; cases e
 | ok h1 k1 r1 =>
  rw [e1] at e
  exact loop_head _ m _ _ r1 hm (Nat.le_refl _) _ _ _ e
theorem loop_split : ∀ (n m : Nat) (h : Hd) (k : Fo) (l : List Tok), 1 ≤ m → l.length ≤ n → rd (.loop m h k) l = (rd (.loop (m + 1) h k) l).on fun h' k' r => rd (.loop m h' k') r := by
  intro n
  induction n with
  | zero =>
    intro m h k l hm hl
    have : l = [] := List.length_eq_zero_iff.1 (by omega)
    subst this
    have hb : bindN (hd ([] : List Tok)).txt < m := by
      have : bindN (hd ([] : List Tok)).txt = 0 := bind_nil
      omega
    rw [rd_stop (m := m + 1) h k (by omega)]
    rfl
  | succ n ih =>
    intro m h k l hm hl
    by_cases hb : bindN (hd l).txt < m + 1
    · rw [rd_stop (m := m + 1) h k hb]
      rfl
    · rw [rd_loop hm h k (by omega), rd_loop (m := m + 1) (by omega) h k (by omega)]
      have ht := tail_bind (l := l) (by omega)
      cases e1 : rd (.form (bindN (hd l).txt + 1)) l.tail with
      | bad r => rfl
      | ok h1 k1 r1 =>
        have a := rd_len (c := .form _) (by simp [fine]) e1
        simp only [takes] at a
        exact ih m _ _ r1 hm (by omega)
theorem form_split (m : Nat) (hm : 1 ≤ m) (l : List Tok) : rd (.form m) l = (rd (.form (m + 1)) l).on fun h k r => rd (.loop m h k) r := by
 rw [rd_form m hm, rd_form (m + 1) (by omega)]
 cases e : rd .single l with
 | bad r => rfl
 | ok h k r => exact loop_split _ m h k r hm (Nat.le_refl _)
theorem bind_le (s : List UInt8) : bindN s ≤ 4 := by
 unfold bindN
 repeat' split
 all_goals omega
theorem form_five (l : List Tok) : rd (.form 5) l = rd .single l := by
 rw [rd_form 5 (by omega)]
 cases e : rd .single l with
 | bad r => rfl
 | ok h k r =>
  have := bind_le (hd r).txt
  exact rd_stop h k (by omega)
def greatB (c : UInt8) : Bool := decide (65 ≤ c.toNat) && decide (c.toNat ≤ 90)
def digitB (c : UInt8) : Bool := decide (48 ≤ c.toNat) && decide (c.toNat ≤ 57)
def nameC (c : UInt8) : Bool := greatB c || digitB c || decide (c.toNat = 46) || decide (c.toNat = 95)
def nameOk (s : List UInt8) : Bool := !s.isEmpty && decide (s.length ≤ 20) && greatB (s.headD 0) && s.all nameC
def constB (h : Hd) : Bool := rightB h.vk h.vn ⟨h.vs.toArray⟩ h.vb h.vc && decide (h.vk ≠ 0) && decide (0 ≤ h.vn)
def noVal (h : Hd) : Bool := decide (h.vk = 0) && decide (h.vn = 0) && h.vs.isEmpty && !h.vb && decide (h.vc = 0)
def noCell (h : Hd) : Bool := decide (h.row = 0) && decide (h.col = 0) && !h.fr && !h.fc
def noTo (h : Hd) : Bool := decide (h.row2 = 0) && decide (h.col2 = 0) && !h.fr2 && !h.fc2
def aloneB (h : Hd) (n : Nat) : Bool :=
 if h.kind = 1 then constB h && noCell h && noTo h && h.txt.isEmpty && decide (n = 0)
 else if h.kind = 2 then Pla.placeB h.row h.col && noVal h && noTo h && h.txt.isEmpty && decide (n = 0)
 else if h.kind = 3 then Pla.placeB h.row h.col && Pla.placeB h.row2 h.col2 && noVal h && h.txt.isEmpty && decide (n = 0)
 else if h.kind = 4 then decide (n = 1) && noVal h && noCell h && noTo h && h.txt.isEmpty
 else if h.kind = 5 then decide (0 < bindN h.txt) && decide (n = 2) && noVal h && noCell h && noTo h
 else if h.kind = 6 then nameOk h.txt && noVal h && noCell h && noTo h
 else false
def allB : Fo → Bool
 | .nil => true
 | .cons h k r => aloneB h k.len && allB k && allB r
def rightN (h : Hd) (k : Fo) : Bool := aloneB h k.len && allB k
theorem alone_cases {h : Hd} {n : Nat} (e : aloneB h n = true) :
    (h = valH ⟨1, h.vk, h.vn, h.vs, h.vb, h.vc, 0, 0, false, false, [], 0⟩ ∧ constB h = true ∧ n = 0) ∨
    (h = cellH ⟨2, 0, 0, [], false, 0, h.row, h.col, h.fr, h.fc, [], 0⟩ ∧ Pla.placeB h.row h.col = true ∧ n = 0) ∨
    (h = rangeH ⟨2, 0, 0, [], false, 0, h.row, h.col, h.fr, h.fc, [], 0⟩ ⟨2, 0, 0, [], false, 0, h.row2, h.col2, h.fr2, h.fc2, [], 0⟩ ∧ Pla.placeB h.row h.col = true ∧ Pla.placeB h.row2 h.col2 = true ∧ n = 0) ∨
    (h = negH ∧ n = 1) ∨
    (h = binH h.txt ∧ 0 < bindN h.txt ∧ n = 2) ∨
    (h = callH h.txt ∧ nameOk h.txt = true) := by
  obtain ⟨kind, vk, vn, vs, vb, vc, row, col, fr, fc, row2, col2, fr2, fc2, txt⟩ := h
  unfold aloneB at e
  simp only at e
  split at e
  · rename_i hk; subst hk
    simp [noCell, noTo] at e
    obtain ⟨⟨⟨⟨h1, ⟨⟨h2, h3⟩, h4⟩, h5⟩, ⟨⟨h6, h7⟩, h8⟩, h9⟩, h10⟩, h11⟩ := e
    left; subst_vars
    exact ⟨rfl, h1, rfl⟩
  split at e
  · rename_i hk; subst hk
    simp [noVal, noTo] at e
    obtain ⟨⟨⟨⟨h1, ⟨⟨⟨h2, h3⟩, h4⟩, h5⟩, h12⟩, ⟨⟨h6, h7⟩, h8⟩, h9⟩, h10⟩, h11⟩ := e
    right; left; subst_vars
    exact ⟨rfl, h1, rfl⟩
  split at e
  · rename_i hk; subst hk
    simp [noVal] at e
    obtain ⟨⟨⟨⟨h1, h1'⟩, ⟨⟨⟨h2, h3⟩, h4⟩, h5⟩, h12⟩, h10⟩, h11⟩ := e
    right; right; left; subst_vars
    exact ⟨rfl, h1, h1', rfl⟩
  split at e
  · rename_i hk; subst hk
    simp [noVal, noTo, noCell] at e
    obtain ⟨⟨⟨⟨h1, ⟨⟨⟨h2, h3⟩, h4⟩, h5⟩, h12⟩, ⟨⟨h6, h7⟩, h8⟩, h9⟩, ⟨⟨h13, h14⟩, h15⟩, h16⟩, h11⟩ := e
    right; right; right; left; subst_vars
    exact ⟨rfl, rfl⟩
  split at e
  · rename_i hk; subst hk
    simp [noVal, noTo, noCell] at e
    obtain ⟨⟨⟨⟨h1, h1'⟩, ⟨⟨⟨h2, h3⟩, h4⟩, h5⟩, h12⟩, ⟨⟨h6, h7⟩, h8⟩, h9⟩, ⟨⟨h13, h14⟩, h15⟩, h16⟩ := e
    right; right; right; right; left; subst_vars
    exact ⟨rfl, h1, rfl⟩
  split at e
  · rename_i hk; subst hk
    simp [noVal, noTo, noCell] at e
    obtain ⟨⟨⟨h1, ⟨⟨⟨h2, h3⟩, h4⟩, h5⟩, h12⟩, ⟨⟨h6, h7⟩, h8⟩, h9⟩, ⟨⟨h13, h14⟩, h15⟩, h16⟩ := e
    right; right; right; right; right; subst_vars
    exact ⟨rfl, h1⟩
  · cases e
def brak (m : Nat) (h : Hd) (l : List Tok) : List Tok := if h.kind = 5 ∧ bindN h.txt < m then opTok [40] :: (l ++ [opTok [41]]) else l
def Fo.head : Fo → Hd
 | .nil => zh
 | .cons h _ _ => h
def Fo.next : Fo → Fo
 | .nil => .nil
 | .cons _ _ r => r
def commas : List (List Tok) → List Tok
 | [] => []
 | [l] => l
 | l :: m :: r => l ++ opTok [44] :: commas (m :: r)
def nodeT (h : Hd) (k : Fo) (L : List (List Tok)) : List Tok :=
 if h.kind = 1 then [valTok h.vk h.vn h.vs h.vb h.vc]
 else if h.kind = 2 then [cellTok h.row h.col h.fr h.fc]
 else if h.kind = 3 then [cellTok h.row h.col h.fr h.fc, opTok [58], cellTok h.row2 h.col2 h.fr2 h.fc2]
 else if h.kind = 4 then opTok [45] :: brak 5 k.head (L.headD [])
 else if h.kind = 5 then brak (bindN h.txt) k.head (L.headD []) ++ opTok h.txt :: brak (bindN h.txt + 1) k.next.head (L.tail.headD [])
 else nameTok h.txt :: opTok [40] :: (commas L ++ [opTok [41]])
def toksF : Fo → List (List Tok)
 | .nil => []
 | .cons h k r => nodeT h k (toksF k) :: toksF r
def toksN (h : Hd) (k : Fo) : List Tok := nodeT h k (toksF k)
def Behind (rest : List Tok) : Prop := atB rest [58] = false
theorem fo_one {k : Fo} (h : k.len = 1) : ∃ h' k', k = .cons h' k' .nil := by
 match k, h with
 | .cons h' k' .nil, _ => exact ⟨h', k', rfl⟩
 | .cons _ _ (.cons _ _ r), h => simp [Fo.len] at h
theorem fo_two {k : Fo} (h : k.len = 2) : ∃ h' k' h'' k'', k = .cons h' k' (.cons h'' k'' .nil) := by
 match k, h with
 | .cons h' k' (.cons h'' k'' .nil), _ => exact ⟨h', k', h'', k'', rfl⟩
 | .cons _ _ .nil, h => simp [Fo.len] at h
 | .cons _ _ (.cons _ _ (.cons _ _ r)), h => simp [Fo.len] at h
def FitT (t : Tok) : Prop := (t.kind = 1 → constB (valH t) = true) ∧ (t.kind = 2 → Pla.placeB t.row t.col = true) ∧ (t.kind = 3 → nameOk t.txt = true)
def Fits (l : List Tok) : Prop := ∀ t ∈ l, FitT t
theorem fit_zt : FitT zt := ⟨fun h => absurd h (by decide), fun h => absurd h (by decide), fun h => absurd h (by decide)⟩
theorem Fits.hd {l : List Tok} (h : Fits l) : FitT (hd l) := by
 cases l with
 | nil => exact fit_zt
 | cons a l => exact h a (by simp)
theorem Fits.tail {l : List Tok} (h : Fits l) : Fits l.tail := fun t ht => h t (List.mem_of_mem_tail ht)
theorem val_right {t : Tok} (h : constB (valH t) = true) : rightN (valH t) .nil = true := by
 simp only [rightN, aloneB, valH, allB] at *
 simp [noCell, noTo, Fo.len]; exact h
theorem cell_right {t : Tok} (h : Pla.placeB t.row t.col = true) : rightN (cellH t) .nil = true := by
 simp only [rightN, aloneB, cellH, allB] at *
 simp [noVal, noTo, Fo.len]; exact h
theorem range_right {t u : Tok} (h : Pla.placeB t.row t.col = true) (h' : Pla.placeB u.row u.col = true) : rightN (rangeH t u) .nil = true := by
 simp only [rightN, aloneB, rangeH, allB] at *
 simp [noVal, Fo.len]; exact ⟨h, h'⟩
theorem call_right {s : List UInt8} {k : Fo} (h : nameOk s = true) (hk : allB k = true) : rightN (callH s) k = true := by
 simp only [rightN, aloneB, callH, hk]
 simp [noVal, noCell, noTo]; exact h
theorem neg_right {h : Hd} {k : Fo} (e : rightN h k = true) : rightN negH (.cons h k .nil) = true := by
 simp only [rightN, Bool.and_eq_true] at e
 have h1 : aloneB negH 1 = true := by simp [aloneB, negH, noVal, noCell, noTo]
 show (aloneB negH 1 && (aloneB h k.len && allB k && true)) = true
 rw [h1, e.1, e.2]; rfl
theorem bin_right {s : List UInt8} {h h' : Hd} {k k' : Fo} (hs : 0 < bindN s) (e : rightN h k = true) (e' : rightN h' k' = true) : rightN (binH s) (.cons h k (.cons h' k' .nil)) = true := by
 simp only [rightN, Bool.and_eq_true] at e e'
 have h1 : aloneB (binH s) 2 = true := by simp [aloneB, binH, noVal, noCell, noTo, hs]
 show (aloneB (binH s) 2 && (aloneB h k.len && allB k && (aloneB h' k'.len && allB k' && true))) = true
 rw [h1, e.1, e.2, e'.1, e'.2]; rfl
theorem allB_snoc : ∀ (a : Fo) (h : Hd) (k : Fo), allB a = true → rightN h k = true → allB (a.snoc h k) = true
 | .nil, h, k, _, e => by simp only [Fo.snoc, allB]; simpa [rightN] using e
 | .cons h' k' r, h, k, ea, e => by
  simp only [allB, Bool.and_eq_true] at ea
  simp only [Fo.snoc, allB, Bool.and_eq_true]
  exact ⟨ea.1, allB_snoc r h k ea.2 e⟩
theorem many_snoc : ∀ (a : Fo) (h : Hd) (k : Fo), (a.snoc h k).many = a.many + k.many + 1
 | .nil, h, k => by simp [Fo.snoc, Fo.many]
 | .cons h' k' r, h, k => by simp only [Fo.snoc, Fo.many, many_snoc r h k]; omega
def accR : Cmd → Prop
 | .loop _ h k => rightN h k = true
 | .kids k => allB k = true
 | _ => True
def accN : Cmd → Nat
 | .loop _ _ k => k.many + 1
 | .kids k => k.many
 | _ => 0
def outR : Cmd → Hd → Fo → Prop
 | .kids _, _, k => allB k = true
 | _, h, k => rightN h k = true
def outN : Cmd → Fo → Nat
 | .kids _, k => k.many
 | _, k => k.many + 1
theorem go_right : ∀ (f : Nat) (c : Cmd) (l : List Tok), fine c → Fits l → accR c → ∀ h k r, go f c l = .ok h k r → Fits r ∧ outR c h k ∧ outN c k + r.length ≤ l.length + accN c
  | 0, _, _, _, _, _, _, _, _, e => by simp [go] at e
  | f + 1, .form m, l, hm, he, _, h, k, r, e => by
    rw [go] at e
    cases e1 : go f .single l with
    | bad r => rw [e1] at e; cases e
    | ok h1 k1 r1 =>
      rw [e1] at e
      obtain ⟨a1, a2, a3⟩ := go_right f .single l trivial he trivial _ _ _ e1
      obtain ⟨b1, b2, b3⟩ := go_right f (.loop m h1 k1) r1 hm a1 a2 _ _ _ e
      refine ⟨b1, b2, ?_⟩
      simp only [outN, accN] at a3 b3 ⊢
      omega
  | f + 1, .loop m h0 k0, l, hm, he, ha, h, k, r, e => by
    rw [go] at e
    split at e
    · cases e; exact ⟨he, ha, by simp only [outN, accN]; omega⟩
    · rename_i hb
      simp only [fine] at hm
      have ht := tail_bind (l := l) (by omega)
      cases e1 : go f (.form (bindN (hd l).txt + 1)) l.tail with
      | bad r => rw [e1] at e; cases e
      | ok h1 k1 r1 =>
        rw [e1] at e
        obtain ⟨a1, a2, a3⟩ := go_right f (.form (bindN (hd l).txt + 1)) l.tail (by simp [fine]) he.tail trivial _ _ _ e1
        obtain ⟨b1, b2, b3⟩ := go_right f (.loop m _ _) r1 hm a1 (bin_right (by omega) ha a2) _ _ _ e
        refine ⟨b1, b2, ?_⟩
        simp only [outN, accN, Fo.many] at a3 b3 ⊢
        omega
  | f + 1, .single, l, hm, he, _, h, k, r, e => by
    simp only [outN, outR, accN]
    rw [go] at e
    split at e
    · rename_i h1
      have ht := tail_kind (l := l) (by omega)
      cases e; exact ⟨he.tail, val_right (he.hd.1 h1), by simp only [Fo.many]; omega⟩
    · split at e
      · rename_i h1
        have ht := tail_kind (l := l) (by omega)
        split at e
        · rename_i h2
          have ht2 := tail_lt h2
          split at e
          · rename_i h3
            have ht3 := tail_kind (l := l.tail.tail) (by omega)
            cases e; exact ⟨he.tail.tail.tail, range_right (he.hd.2.1 h1) (he.tail.tail.hd.2.1 h3), by simp only [Fo.many]; omega⟩
          · cases e
        · cases e; exact ⟨he.tail, cell_right (he.hd.2.1 h1), by simp only [Fo.many]; omega⟩
      · split at e
        · rename_i h1
          have ht := tail_kind (l := l) (by omega)
          split at e
          · rename_i h2
            have ht2 := tail_lt h2
            split at e
            · rename_i h3
              have ht3 := tail_lt h3
              cases e; exact ⟨he.tail.tail.tail, call_right (he.hd.2.2 h1) rfl, by simp only [Fo.many]; omega⟩
            · cases e1 : go f (.kids .nil) l.tail.tail with
              | bad r => rw [e1] at e; cases e
              | ok h1' k1 r1 =>
                rw [e1] at e
                obtain ⟨a1, a2, a3⟩ := go_right f (.kids .nil) l.tail.tail trivial he.tail.tail rfl _ _ _ e1
                simp only [outN, accN, Fo.many] at a3
                simp only at e
                split at e
                · rename_i h3
                  have ht3 := tail_lt h3
                  cases e; exact ⟨a1.tail, call_right (he.hd.2.2 h1) a2, by omega⟩
                · cases e
          · cases e
        · split at e
          · rename_i h2
            have ht2 := tail_lt h2
            cases e1 : go f .single l.tail with
            | bad r => rw [e1] at e; cases e
            | ok h1 k1 r1 =>
              rw [e1] at e
              obtain ⟨a1, a2, a3⟩ := go_right f .single l.tail trivial he.tail trivial _ _ _ e1
              simp only [outN, accN] at a3
              cases e; exact ⟨a1, neg_right a2, by simp only [Fo.many]; omega⟩
          · split at e
            · rename_i h2
              have ht2 := tail_lt h2
              cases e1 : go f (.form 1) l.tail with
              | bad r => rw [e1] at e; cases e
              | ok h1 k1 r1 =>
                rw [e1] at e
                obtain ⟨a1, a2, a3⟩ := go_right f (.form 1) l.tail (by simp [fine]) he.tail trivial _ _ _ e1
                simp only [outN, accN] at a3
                simp only at e
                split at e
                · rename_i h3
                  have ht3 := tail_lt h3
                  cases e; exact ⟨a1.tail, a2, by omega⟩
                · cases e
            · cases e
  | f + 1, .kids acc, l, hm, he, ha, h, k, r, e => by
    rw [go] at e
    cases e1 : go f (.form 1) l with
    | bad r => rw [e1] at e; cases e
    | ok h1 k1 r1 =>
      rw [e1] at e
      obtain ⟨a1, a2, a3⟩ := go_right f (.form 1) l (by simp [fine]) he trivial _ _ _ e1
      simp only [outN, accN] at a3
      simp only at e
      split at e
      · rename_i h3
        have ht3 := tail_lt h3
        obtain ⟨b1, b2, b3⟩ := go_right f (.kids (acc.snoc h1 k1)) r1.tail trivial a1.tail (allB_snoc acc h1 k1 ha a2) _ _ _ e
        refine ⟨b1, b2, ?_⟩
        simp only [outN, accN, many_snoc] at b3 ⊢
        omega
      · cases e
        refine ⟨a1, allB_snoc acc h1 k1 ha a2, ?_⟩
        simp only [outN, accN, many_snoc]
        omega
end Go.Proofs.YtiaoaifoecmemaaGreatDoor
