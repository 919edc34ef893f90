/-
  Out of TrDef, TrM1, TrM2, TrA, TrB, TrE, what is asked for (laid by pack9.py).
-/
import Derived.Test.YtklldmidcmfbdaaGreatDoorVNum
import Derived.Test.YtklldmidcmfbdaaGreatDoorVPla
import Derived.Test.YtklldmidcmfbdaaGreatDoorVVal
import Derived.Test.YtklldmidcmfbdaaGreatDoorVVal3
import Derived.Test.YtklldmidcmfbdaaGreatDoorVVal4
import Derived.Test.YtklldmidcmfbdaaGreatDoorZ1
import Derived.BigCall
import Derived.BigGuard
import Derived.BigQuiet
import Derived.ChangeArms
import Derived.Deep.MidRow
import Derived.Deep.QuietTactic
import Derived.Deep.RegionHeld3
import Derived.Deep.RegionWith
import Derived.Deep.WholeRow
import Derived.Defers
import Derived.Great.BuildSlice
import Derived.Laws.Cover1
import Derived.Laws.EntriesVeiled
import Derived.Laws.IdiomStrings
import Derived.Lib.AppendIntMem
import Derived.Lib.AtoiErrMem
import Derived.Lib.IndexMore
import Derived.Lib.ItoaMem
import Derived.Lib.LaidTab
import Derived.Lib.MinMax
import Derived.Lib.OthersKept
import Derived.Lib.Replace
import Derived.Lib.ReplaceLaws
import Derived.Lib.SmallJoins
import Derived.Lib.Walk
import Derived.LoopIn
import Derived.LoopNIn
import Derived.LoopTactic
import Derived.Maps.AppendAt
import Derived.OwnWalkIn
import Derived.RangeFuncBound
import Derived.RangeFuncBox
import Derived.RangeFuncCalls
import Derived.RangeFuncLeaves
import Derived.RangeFuncNested
import Derived.Recover
import Derived.Shelf.Abstract
import Derived.Shelf.RegionOpen
import Derived.TacticsInMore
import Derived.WalkKit
import Derived.WalkLawsBesides
import Derived.WalkSmall
import Derived.WalkSpells
import Derived.WideShapes
namespace Go.Proofs.YtklldmidcmfbdaaGreatDoor
section
open Go.RowKit
/-- A node but for its kids: its kind, its value, its cell, its other cell, its text. -/
structure Hd where
  kind : Int
  vk : Int
  vn : Int
  vs : List UInt8
  vb : Bool
  vc : Int
  row : Int
  col : Int
  fr : Bool
  fc : Bool
  row2 : Int
  col2 : Int
  fr2 : Bool
  fc2 : Bool
  txt : List UInt8
/-- Kids: the first one's head, its kids, the other ones. -/
inductive Fo where
  | nil : Fo
  | cons : Hd → Fo → Fo → Fo
def Fo.len : Fo → Nat
  | .nil => 0
  | .cons _ _ r => r.len + 1
def Fo.deep : Fo → Nat
  | .nil => 0
  | .cons _ k r => max (k.deep + 1) r.deep
def Fo.many : Fo → Nat
  | .nil => 0
  | .cons _ k r => k.many + 1 + r.many
def Fo.snoc : Fo → Hd → Fo → Fo
  | .nil, h, k => .cons h k .nil
  | .cons h' k' r, h, k => .cons h' k' (r.snoc h k)
/-- No node. -/
def zh : Hd := ⟨0, 0, 0, [], false, 0, 0, 0, false, false, 0, 0, false, false, []⟩
def valH (t : Tok) : Hd := ⟨1, t.vk, t.vn, t.vs, t.vb, t.vc, 0, 0, false, false, 0, 0, false, false, []⟩
def cellH (t : Tok) : Hd := ⟨2, 0, 0, [], false, 0, t.row, t.col, t.fr, t.fc, 0, 0, false, false, []⟩
def rangeH (t u : Tok) : Hd := ⟨3, 0, 0, [], false, 0, t.row, t.col, t.fr, t.fc, u.row, u.col, u.fr, u.fc, []⟩
def negH : Hd := ⟨4, 0, 0, [], false, 0, 0, 0, false, false, 0, 0, false, false, []⟩
def binH (s : List UInt8) : Hd := ⟨5, 0, 0, [], false, 0, 0, 0, false, false, 0, 0, false, false, s⟩
def callH (s : List UInt8) : Hd := ⟨6, 0, 0, [], false, 0, 0, 0, false, false, 0, 0, false, false, s⟩
/-- How tightly a sign binds; 0: it is none. -/
def bindN (s : List UInt8) : Nat :=
  if s = [61] ∨ s = [60, 62] ∨ s = [60] ∨ s = [62] ∨ s = [60, 61] ∨ s = [62, 61] then 1
  else if s = [38] then 2
  else if s = [43] ∨ s = [45] then 3
  else if s = [42] ∨ s = [47] then 4 else 0
/-- What a reader tells: a node and the tokens behind it; or the tokens from that one on that can't go on. -/
inductive Rs where
  | ok : Hd → Fo → List Tok → Rs
  | bad : List Tok → Rs
/-- What is read: signs that bind so tightly at least; a single one; what goes on behind a node; a list behind some kids. -/
inductive Cmd where
  | form : Nat → Cmd
  | single : Cmd
  | loop : Nat → Hd → Fo → Cmd
  | kids : Fo → Cmd
/-- The first token (the end, where there is none). -/
def hd (l : List Tok) : Tok := l.headD zt
/-- Is the first token such a sign? -/
def atB (l : List Tok) (s : List UInt8) : Bool := decide ((hd l).kind = 4) && decide ((hd l).txt = s)
/-- The reader, so many steps deep. -/
def go : Nat → Cmd → List Tok → Rs
  | 0, _, l => .bad l
  | f + 1, .form m, l =>
    match go f .single l with
    | .ok h k r => go f (.loop m h k) r
    | .bad r => .bad r
  | f + 1, .loop m h k, l =>
    if bindN (hd l).txt < m then .ok h k l
    else match go f (.form (bindN (hd l).txt + 1)) l.tail with
      | .ok h' k' r => go f (.loop m (binH (hd l).txt) (.cons h k (.cons h' k' .nil))) r
      | .bad r => .bad r
  | f + 1, .single, l =>
    if (hd l).kind = 1 then .ok (valH (hd l)) .nil l.tail
    else if (hd l).kind = 2 then
      (if atB l.tail [58] then (if (hd l.tail.tail).kind = 2 then .ok (rangeH (hd l) (hd l.tail.tail)) .nil l.tail.tail.tail else .bad l.tail.tail)
      else .ok (cellH (hd l)) .nil l.tail)
    else if (hd l).kind = 3 then
      (if atB l.tail [40] then
        (if atB l.tail.tail [41] then .ok (callH (hd l).txt) .nil l.tail.tail.tail
        else match go f (.kids .nil) l.tail.tail with
          | .ok _ k r => if atB r [41] then .ok (callH (hd l).txt) k r.tail else .bad r
          | .bad r => .bad r)
      else .bad l.tail)
    else if atB l [45] then
      (match go f .single l.tail with
        | .ok h k r => .ok negH (.cons h k .nil) r
        | .bad r => .bad r)
    else if atB l [40] then
      (match go f (.form 1) l.tail with
        | .ok h k r => if atB r [41] then .ok h k r.tail else .bad r
        | .bad r => .bad r)
    else .bad l
  | f + 1, .kids acc, l =>
    match go f (.form 1) l with
    | .ok h k r => if atB r [44] then go f (.kids (acc.snoc h k)) r.tail else .ok zh (acc.snoc h k) r
    | .bad r => .bad r
/-- So many steps are enough. -/
def need : Cmd → List Tok → Nat
  | .form _, l => 3 * l.length + 2
  | .single, l => 3 * l.length + 1
  | .loop _ _ _, l => 3 * l.length + 1
  | .kids _, l => 3 * l.length + 3
/-- What is read, with no bound. -/
def rd (c : Cmd) (l : List Tok) : Rs := go (need c l) c l
end
section
open Go.RowKit
/-- At least so many tokens are taken where there is an answer. -/
def takes : Cmd → Nat
  | .loop _ _ _ => 0
  | _ => 1
theorem atB_nil (s : List UInt8) : atB [] s = false := by simp [atB, hd, zt]
theorem tail_lt {l : List Tok} {s : List UInt8} (h : atB l s = true) : l.tail.length + 1 = l.length := by
  cases l with
  | nil => rw [atB_nil] at h; cases h
  | cons a l => simp
theorem tail_kind {l : List Tok} (h : (hd l).kind ≠ 0) : l.tail.length + 1 = l.length := by
  cases l with
  | nil => exact absurd rfl h
  | cons a l => simp
theorem bind_nil : bindN [] = 0 := by decide
theorem tail_bind {l : List Tok} (h : bindN (hd l).txt ≠ 0) : l.tail.length + 1 = l.length := by
  cases l with
  | nil => exact absurd bind_nil h
  | cons a l => simp
/-- A 'loop' asks for 1 at least. -/
def fine : Cmd → Prop
  | .form m => 1 ≤ m
  | .loop m _ _ => 1 ≤ m
  | _ => True
theorem go_len : ∀ (f : Nat) (c : Cmd) (l : List Tok), fine c → ∀ h k r, go f c l = .ok h k r → r.length + takes c ≤ l.length
  | 0, _, _, _, _, _, _, e => by simp [go] at e
  | f + 1, .form m, l, hm, h, k, r, e => by
    rw [go] at e
    cases e1 : go f .single l with
    | bad r => rw [e1] at e; cases e
    | ok h1 k1 r1 =>
      rw [e1] at e
      have a := go_len f .single l trivial _ _ _ e1
      have b := go_len f (.loop m h1 k1) r1 hm _ _ _ e
      simp [takes] at a b ⊢
      omega
  | f + 1, .loop m h0 k0, l, hm, h, k, r, e => by
    rw [go] at e
    split at e
    · cases e; simp [takes]
    · rename_i hb
      simp only [fine] at hm
      have ht := tail_bind (l := l) (by omega)
      cases e1 : go f (.form (bindN (hd l).txt + 1)) l.tail with
      | bad r => rw [e1] at e; cases e
      | ok h1 k1 r1 =>
        rw [e1] at e
        have a := go_len f (.form (bindN (hd l).txt + 1)) l.tail (by simp [fine]) _ _ _ e1
        have b := go_len f _ r1 (by simpa [fine] using hm) _ _ _ e
        simp [takes] at a b ⊢
        simp at ht
        omega
  | f + 1, .single, l, hm, h, k, r, e => by
    simp only [takes]
    rw [go] at e
    split at e
    · rename_i h1
      have := tail_kind (l := l) (by omega)
      cases e; omega
    · split at e
      · rename_i h1
        have ht := tail_kind (l := l) (by omega)
        split at e
        · rename_i h2
          have ht2 := tail_lt h2
          split at e
          · rename_i h3
            have ht3 := tail_kind (l := l.tail.tail) (by omega)
            cases e; omega
          · cases e
        · cases e; omega
      · split at e
        · rename_i h1
          have ht := tail_kind (l := l) (by omega)
          split at e
          · rename_i h2
            have ht2 := tail_lt h2
            split at e
            · rename_i h3
              have ht3 := tail_lt h3
              cases e; omega
            · cases e1 : go f (.kids .nil) l.tail.tail with
              | bad r => rw [e1] at e; cases e
              | ok h1 k1 r1 =>
                rw [e1] at e
                have a := go_len f (.kids .nil) l.tail.tail trivial _ _ _ e1
                simp only [takes] at a
                simp only at e
                split at e
                · rename_i h3
                  have ht3 := tail_lt h3
                  cases e; omega
                · cases e
          · cases e
        · split at e
          · rename_i h2
            have ht2 := tail_lt h2
            cases e1 : go f .single l.tail with
            | bad r => rw [e1] at e; cases e
            | ok h1 k1 r1 =>
              rw [e1] at e
              have a := go_len f .single l.tail trivial _ _ _ e1
              simp only [takes] at a
              cases e; omega
          · split at e
            · rename_i h2
              have ht2 := tail_lt h2
              cases e1 : go f (.form 1) l.tail with
              | bad r => rw [e1] at e; cases e
              | ok h1 k1 r1 =>
                rw [e1] at e
                have a := go_len f (.form 1) l.tail (by simp [fine]) _ _ _ e1
                simp only [takes] at a
                simp only at e
                split at e
                · rename_i h3
                  have ht3 := tail_lt h3
                  cases e; omega
                · cases e
            · cases e
  | f + 1, .kids acc, l, hm, h, k, r, e => by
    rw [go] at e
    simp only [takes]
    cases e1 : go f (.form 1) l with
    | bad r => rw [e1] at e; cases e
    | ok h1 k1 r1 =>
      rw [e1] at e
      have a := go_len f (.form 1) l (by simp [fine]) _ _ _ e1
      simp only [takes] at a
      simp only at e
      split at e
      · rename_i h3
        have ht3 := tail_lt h3
        have b := go_len f (.kids (acc.snoc h1 k1)) r1.tail trivial _ _ _ e
        simp only [takes] at b
        omega
      · cases e; omega
theorem go_fuel : ∀ (f g : Nat) (c : Cmd) (l : List Tok), fine c → need c l ≤ f → need c l ≤ g → go f c l = go g c l
  | 0, _, c, _, _, h, _ => by cases c <;> simp [need] at h
  | _ + 1, 0, c, _, _, _, h => by cases c <;> simp [need] at h
  | f + 1, g + 1, .form m, l, hm, h1, h2 => by
    simp only [need] at h1 h2
    rw [go, go, go_fuel f g .single l trivial (by simp only [need]; omega) (by simp only [need]; omega)]
    cases e1 : go g .single l with
    | bad r => rfl
    | ok h' k' r =>
      have a := go_len g .single l trivial _ _ _ e1
      simp only [takes] at a
      exact go_fuel f g (.loop m h' k') r hm (by simp only [need]; omega) (by simp only [need]; omega)
  | f + 1, g + 1, .loop m h0 k0, l, hm, h1, h2 => by
    simp only [need] at h1 h2
    rw [go, go]
    split
    · rfl
    · rename_i hb
      simp only [fine] at hm
      have ht := tail_bind (l := l) (by omega)
      rw [go_fuel f g (.form (bindN (hd l).txt + 1)) l.tail (by simp [fine]) (by simp only [need]; omega) (by simp only [need]; omega)]
      cases e1 : go g (.form (bindN (hd l).txt + 1)) l.tail with
      | bad r => rfl
      | ok h' k' r =>
        have a := go_len g _ l.tail (by simp [fine]) _ _ _ e1
        simp only [takes] at a
        exact go_fuel f g _ r hm (by simp only [need]; omega) (by simp only [need]; omega)
  | f + 1, g + 1, .single, l, hm, h1, h2 => by
    simp only [need] at h1 h2
    rw [go, go]
    split
    · rfl
    · split
      · rfl
      · split
        · rename_i h3
          have ht := tail_kind (l := l) (by omega)
          split
          · rename_i h4
            have ht2 := tail_lt h4
            rw [go_fuel f g (.kids .nil) l.tail.tail trivial (by simp only [need]; omega) (by simp only [need]; omega)]
          · rfl
        · split
          · rename_i h4
            have ht2 := tail_lt h4
            rw [go_fuel f g .single l.tail trivial (by simp only [need]; omega) (by simp only [need]; omega)]
          · split
            · rename_i h4
              have ht2 := tail_lt h4
              rw [go_fuel f g (.form 1) l.tail (by simp [fine]) (by simp only [need]; omega) (by simp only [need]; omega)]
            · rfl
  | f + 1, g + 1, .kids acc, l, hm, h1, h2 => by
    simp only [need] at h1 h2
    rw [go, go, go_fuel f g (.form 1) l (by simp [fine]) (by simp only [need]; omega) (by simp only [need]; omega)]
    cases e1 : go g (.form 1) l with
    | bad r => rfl
    | ok h' k' r =>
      have a := go_len g (.form 1) l (by simp [fine]) _ _ _ e1
      simp only [takes] at a
      simp only
      split
      · rename_i h3
        have ht3 := tail_lt h3
        exact go_fuel f g (.kids (acc.snoc h' k')) r.tail trivial (by simp only [need]; omega) (by simp only [need]; omega)
      · rfl
theorem rd_of {f : Nat} {c : Cmd} {l : List Tok} (hc : fine c) (h : need c l ≤ f) : go f c l = rd c l := go_fuel _ _ _ _ hc h (Nat.le_refl _)
theorem rd_len {c : Cmd} {l : List Tok} (hc : fine c) {h k r} (e : rd c l = .ok h k r) : r.length + takes c ≤ l.length := go_len _ _ _ hc _ _ _ e
/-- Behind a node, or not. -/
def Rs.on : Rs → (Hd → Fo → List Tok → Rs) → Rs
  | .ok h k r, f => f h k r
  | .bad r, _ => .bad r
theorem rd_form (m : Nat) (hm : 1 ≤ m) (l : List Tok) : rd (.form m) l = (rd .single l).on fun h k r => rd (.loop m h k) r := by
  show go (3 * l.length + 2) (.form m) l = _
  rw [go, rd_of (c := .single) trivial (by simp only [need]; omega)]
  cases e : rd .single l with
  | bad r => rfl
  | ok h k r =>
    have a := rd_len (c := .single) trivial e
    simp only [takes] at a
    exact rd_of (c := .loop m h k) hm (by simp only [need]; omega)
theorem rd_stop {m : Nat} (h : Hd) (k : Fo) {l : List Tok} (hb : bindN (hd l).txt < m) : rd (.loop m h k) l = .ok h k l := by
  show go (3 * l.length + 1) _ l = _
  rw [go, if_pos hb]
theorem rd_loop {m : Nat} (hm : 1 ≤ m) (h : Hd) (k : Fo) {l : List Tok} (hb : m ≤ bindN (hd l).txt) :
    rd (.loop m h k) l = (rd (.form (bindN (hd l).txt + 1)) l.tail).on fun h' k' r => rd (.loop m (binH (hd l).txt) (.cons h k (.cons h' k' .nil))) r := by
  show go (3 * l.length + 1) _ l = _
  have ht := tail_bind (l := l) (by omega)
  rw [go, if_neg (by omega), rd_of (c := .form _) (by simp [fine]) (by simp only [need]; omega)]
  cases e : rd (.form (bindN (hd l).txt + 1)) l.tail with
  | bad r => rfl
  | ok h' k' r =>
    have a := rd_len (c := .form _) (by simp [fine]) e
    simp only [takes] at a
    exact rd_of (c := .loop m _ _) hm (by simp only [need]; omega)
theorem rd_value {l : List Tok} (h : (hd l).kind = 1) : rd .single l = .ok (valH (hd l)) .nil l.tail := by
  show go (3 * l.length + 1) _ l = _
  rw [go, if_pos h]
theorem rd_cell {l : List Tok} (h : (hd l).kind = 2) : rd .single l = (if atB l.tail [58] then (if (hd l.tail.tail).kind = 2 then .ok (rangeH (hd l) (hd l.tail.tail)) .nil l.tail.tail.tail else .bad l.tail.tail) else .ok (cellH (hd l)) .nil l.tail) := by
  show go (3 * l.length + 1) _ l = _
  rw [go, if_neg (by omega), if_pos h]
theorem rd_call {l : List Tok} (h : (hd l).kind = 3) (h1 : atB l.tail [40] = true) : rd .single l = if atB l.tail.tail [41] then .ok (callH (hd l).txt) .nil l.tail.tail.tail else (rd (.kids .nil) l.tail.tail).on fun _ k r => if atB r [41] then .ok (callH (hd l).txt) k r.tail else .bad r := by
  show go (3 * l.length + 1) _ l = _
  have ht := tail_kind (l := l) (by omega)
  have ht2 := tail_lt h1
  rw [go, if_neg (by omega), if_neg (by omega), if_pos h, if_pos h1, rd_of (c := .kids .nil) trivial (by simp only [need]; omega)]
  split
  · rfl
  · cases e : rd (.kids .nil) l.tail.tail <;> rfl
theorem atB_kind {l : List Tok} {s : List UInt8} (h : atB l s = true) : (hd l).kind = 4 ∧ (hd l).txt = s := by
  simpa [atB] using h
theorem rd_minus {l : List Tok} (h : atB l [45] = true) : rd .single l = (rd .single l.tail).on fun h k r => .ok negH (.cons h k .nil) r := by
  show go (3 * l.length + 1) _ l = _
  have ht := tail_lt h
  obtain ⟨hk, _⟩ := atB_kind h
  rw [go, if_neg (by omega), if_neg (by omega), if_neg (by omega), if_pos h, rd_of (c := .single) trivial (by simp only [need]; omega)]
  cases e : rd .single l.tail <;> rfl
theorem atB_two {l : List Tok} {s t : List UInt8} (h : atB l s = true) (hst : s ≠ t) : atB l t = false := by
  obtain ⟨h1, h2⟩ := atB_kind h
  simp [atB, h1, h2, hst]
theorem rd_open {l : List Tok} (h : atB l [40] = true) : rd .single l = (rd (.form 1) l.tail).on fun h k r => if atB r [41] then .ok h k r.tail else .bad r := by
  show go (3 * l.length + 1) _ l = _
  have ht := tail_lt h
  obtain ⟨hk, _⟩ := atB_kind h
  rw [go, if_neg (by omega), if_neg (by omega), if_neg (by omega), if_neg (by rw [atB_two h (by decide)]; simp), if_pos h, rd_of (c := .form 1) (by simp [fine]) (by simp only [need]; omega)]
  cases e : rd (.form 1) l.tail <;> rfl
theorem rd_none {l : List Tok} (h1 : (hd l).kind ≠ 1) (h2 : (hd l).kind ≠ 2) (h3 : (hd l).kind ≠ 3) (h4 : atB l [45] = false) (h5 : atB l [40] = false) : rd .single l = .bad l := by
  show go (3 * l.length + 1) _ l = _
  rw [go, if_neg h1, if_neg h2, if_neg h3, if_neg (by rw [h4]; simp), if_neg (by rw [h5]; simp)]
theorem rd_kids (acc : Fo) (l : List Tok) : rd (.kids acc) l = (rd (.form 1) l).on fun h k r => if atB r [44] then rd (.kids (acc.snoc h k)) r.tail else .ok zh (acc.snoc h k) r := by
  show go (3 * l.length + 3) _ l = _
  rw [go, rd_of (c := .form 1) (by simp [fine]) (by simp only [need]; omega)]
  cases e : rd (.form 1) l with
  | bad r => rfl
  | ok h k r =>
    have a := rd_len (c := .form 1) (by simp [fine]) e
    simp only [takes] at a
    show (if _ then _ else _) = (if _ then _ else _)
    split
    · rename_i h3
      have ht3 := tail_lt h3
      exact rd_of (c := .kids _) trivial (by simp only [need]; omega)
    · rfl
/-- A reading that binds so tightly ends ahead of what binds less. -/
theorem loop_head : ∀ (n m : Nat) (h : Hd) (k : Fo) (l : List Tok), 1 ≤ m → l.length ≤ n → ∀ h' k' r, rd (.loop m h k) l = .ok h' k' r → bindN (hd r).txt < m := by
  intro n
  induction n with
  | zero =>
    intro m h k l hm hl h' k' r e
    have : l = [] := List.length_eq_zero_iff.1 (by omega)
    subst this
    have hb : bindN (hd ([] : List Tok)).txt < m := by
      have : bindN (hd ([] : List Tok)).txt = 0 := bind_nil
      omega
    rw [rd_stop h k hb] at e
    cases e
    exact hb
  | succ n ih =>
    intro m h k l hm hl h' k' r e
    by_cases hb : bindN (hd l).txt < m
    · rw [rd_stop h k hb] at e
      cases e; exact hb
    · rw [rd_loop hm h k (by omega)] at e
      have ht := tail_bind (l := l) (by omega)
      cases e1 : rd (.form (bindN (hd l).txt + 1)) l.tail with
      | bad r => rw [e1] at e; cases e
      | ok h1 k1 r1 =>
        rw [e1] at e
        have a := rd_len (c := .form _) (by simp [fine]) e1
        simp only [takes] at a
        exact ih m _ _ r1 hm (by omega) _ _ _ e
theorem form_head {m : Nat} (hm : 1 ≤ m) {l : List Tok} {h k r} (e : rd (.form m) l = .ok h k r) : bindN (hd r).txt < m := by
  rw [rd_form m hm] at e
  cases e1 : rd .single l with
  | bad r => rw [e1] at e; cases e
  | ok h1 k1 r1 =>
    rw [e1] at e
    exact loop_head _ m _ _ r1 hm (Nat.le_refl _) _ _ _ e
/-- What goes on at a line goes on at the next one first. -/
theorem loop_split : ∀ (n m : Nat) (h : Hd) (k : Fo) (l : List Tok), 1 ≤ m → l.length ≤ n → rd (.loop m h k) l = (rd (.loop (m + 1) h k) l).on fun h' k' r => rd (.loop m h' k') r := by
  intro n
  induction n with
  | zero =>
    intro m h k l hm hl
    have : l = [] := List.length_eq_zero_iff.1 (by omega)
    subst this
    have hb : bindN (hd ([] : List Tok)).txt < m := by
      have : bindN (hd ([] : List Tok)).txt = 0 := bind_nil
      omega
    rw [rd_stop (m := m + 1) h k (by omega)]
    rfl
  | succ n ih =>
    intro m h k l hm hl
    by_cases hb : bindN (hd l).txt < m + 1
    · rw [rd_stop (m := m + 1) h k hb]
      rfl
    · rw [rd_loop hm h k (by omega), rd_loop (m := m + 1) (by omega) h k (by omega)]
      have ht := tail_bind (l := l) (by omega)
      cases e1 : rd (.form (bindN (hd l).txt + 1)) l.tail with
      | bad r => rfl
      | ok h1 k1 r1 =>
        have a := rd_len (c := .form _) (by simp [fine]) e1
        simp only [takes] at a
        exact ih m _ _ r1 hm (by omega)
theorem form_split (m : Nat) (hm : 1 ≤ m) (l : List Tok) : rd (.form m) l = (rd (.form (m + 1)) l).on fun h k r => rd (.loop m h k) r := by
  rw [rd_form m hm, rd_form (m + 1) (by omega)]
  cases e : rd .single l with
  | bad r => rfl
  | ok h k r => exact loop_split _ m h k r hm (Nat.le_refl _)
theorem bind_le (s : List UInt8) : bindN s ≤ 4 := by
  unfold bindN
  repeat' split
  all_goals omega
/-- Nothing binds so tightly. -/
theorem form_five (l : List Tok) : rd (.form 5) l = rd .single l := by
  rw [rd_form 5 (by omega)]
  cases e : rd .single l with
  | bad r => rfl
  | ok h k r =>
    have := bind_le (hd r).txt
    exact rd_stop h k (by omega)
end
section
open Go.RowKit
def greatB (c : UInt8) : Bool := decide (65 ≤ c.toNat) && decide (c.toNat ≤ 90)
def digitB (c : UInt8) : Bool := decide (48 ≤ c.toNat) && decide (c.toNat ≤ 57)
def nameC (c : UInt8) : Bool := greatB c || digitB c || decide (c.toNat = 46) || decide (c.toNat = 95)
/-- A name, in great letters. -/
def nameOk (s : List UInt8) : Bool := !s.isEmpty && decide (s.length ≤ 20) && greatB (s.headD 0) && s.all nameC
/-- A value that a formula's text may have. -/
def constB (h : Hd) : Bool := rightB h.vk h.vn ⟨h.vs.toArray⟩ h.vb h.vc && decide (h.vk ≠ 0) && decide (0 ≤ h.vn)
def noVal (h : Hd) : Bool := decide (h.vk = 0) && decide (h.vn = 0) && h.vs.isEmpty && !h.vb && decide (h.vc = 0)
def noCell (h : Hd) : Bool := decide (h.row = 0) && decide (h.col = 0) && !h.fr && !h.fc
def noTo (h : Hd) : Bool := decide (h.row2 = 0) && decide (h.col2 = 0) && !h.fr2 && !h.fc2
/-- Is a node right but for its kids' own parts? -/
def aloneB (h : Hd) (n : Nat) : Bool :=
  if h.kind = 1 then constB h && noCell h && noTo h && h.txt.isEmpty && decide (n = 0)
  else if h.kind = 2 then Pla.placeB h.row h.col && noVal h && noTo h && h.txt.isEmpty && decide (n = 0)
  else if h.kind = 3 then Pla.placeB h.row h.col && Pla.placeB h.row2 h.col2 && noVal h && h.txt.isEmpty && decide (n = 0)
  else if h.kind = 4 then decide (n = 1) && noVal h && noCell h && noTo h && h.txt.isEmpty
  else if h.kind = 5 then decide (0 < bindN h.txt) && decide (n = 2) && noVal h && noCell h && noTo h
  else if h.kind = 6 then nameOk h.txt && noVal h && noCell h && noTo h
  else false
/-- All nodes of a forest are. -/
def allB : Fo → Bool
  | .nil => true
  | .cons h k r => aloneB h k.len && allB k && allB r
def rightN (h : Hd) (k : Fo) : Bool := aloneB h k.len && allB k
def Fo.head : Fo → Hd
  | .nil => zh
  | .cons h _ _ => h
/-- What may stand behind a node. -/
def Behind (rest : List Tok) : Prop := atB rest [58] = false
end
section
open Go.RowKit
theorem binding_61 (w : World) : Calls Tryz.prog 82 #[.string ⟨#[61]⟩] w fun e w' => e = .returned (.int .i64 1) ∧ w' = w := by
  have e61 : ((⟨#[61]⟩ : ByteArray).toList == [61]) = true := by kernel_rfl
  have e60_62 : ((⟨#[61]⟩ : ByteArray).toList == [60, 62]) = false := by kernel_rfl
  have e60 : ((⟨#[61]⟩ : ByteArray).toList == [60]) = false := by kernel_rfl
  have e62 : ((⟨#[61]⟩ : ByteArray).toList == [62]) = false := by kernel_rfl
  have e60_61 : ((⟨#[61]⟩ : ByteArray).toList == [60, 61]) = false := by kernel_rfl
  have e62_61 : ((⟨#[61]⟩ : ByteArray).toList == [62, 61]) = false := by kernel_rfl
  have e38 : ((⟨#[61]⟩ : ByteArray).toList == [38]) = false := by kernel_rfl
  have e43 : ((⟨#[61]⟩ : ByteArray).toList == [43]) = false := by kernel_rfl
  have e45 : ((⟨#[61]⟩ : ByteArray).toList == [45]) = false := by kernel_rfl
  have e42 : ((⟨#[61]⟩ : ByteArray).toList == [42]) = false := by kernel_rfl
  have e47 : ((⟨#[61]⟩ : ByteArray).toList == [47]) = false := by kernel_rfl
  go_enter Tryz.func82, Tryz.ntmps82
  go_wp2
  go_ret
  exact ⟨rfl, rfl⟩
theorem binding_60_62 (w : World) : Calls Tryz.prog 82 #[.string ⟨#[60, 62]⟩] w fun e w' => e = .returned (.int .i64 1) ∧ w' = w := by
  have e61 : ((⟨#[60, 62]⟩ : ByteArray).toList == [61]) = false := by kernel_rfl
  have e60_62 : ((⟨#[60, 62]⟩ : ByteArray).toList == [60, 62]) = true := by kernel_rfl
  have e60 : ((⟨#[60, 62]⟩ : ByteArray).toList == [60]) = false := by kernel_rfl
  have e62 : ((⟨#[60, 62]⟩ : ByteArray).toList == [62]) = false := by kernel_rfl
  have e60_61 : ((⟨#[60, 62]⟩ : ByteArray).toList == [60, 61]) = false := by kernel_rfl
  have e62_61 : ((⟨#[60, 62]⟩ : ByteArray).toList == [62, 61]) = false := by kernel_rfl
  have e38 : ((⟨#[60, 62]⟩ : ByteArray).toList == [38]) = false := by kernel_rfl
  have e43 : ((⟨#[60, 62]⟩ : ByteArray).toList == [43]) = false := by kernel_rfl
  have e45 : ((⟨#[60, 62]⟩ : ByteArray).toList == [45]) = false := by kernel_rfl
  have e42 : ((⟨#[60, 62]⟩ : ByteArray).toList == [42]) = false := by kernel_rfl
  have e47 : ((⟨#[60, 62]⟩ : ByteArray).toList == [47]) = false := by kernel_rfl
  go_enter Tryz.func82, Tryz.ntmps82
  go_wp2
  go_ret
  exact ⟨rfl, rfl⟩
theorem binding_60 (w : World) : Calls Tryz.prog 82 #[.string ⟨#[60]⟩] w fun e w' => e = .returned (.int .i64 1) ∧ w' = w := by
  have e61 : ((⟨#[60]⟩ : ByteArray).toList == [61]) = false := by kernel_rfl
  have e60_62 : ((⟨#[60]⟩ : ByteArray).toList == [60, 62]) = false := by kernel_rfl
  have e60 : ((⟨#[60]⟩ : ByteArray).toList == [60]) = true := by kernel_rfl
  have e62 : ((⟨#[60]⟩ : ByteArray).toList == [62]) = false := by kernel_rfl
  have e60_61 : ((⟨#[60]⟩ : ByteArray).toList == [60, 61]) = false := by kernel_rfl
  have e62_61 : ((⟨#[60]⟩ : ByteArray).toList == [62, 61]) = false := by kernel_rfl
  have e38 : ((⟨#[60]⟩ : ByteArray).toList == [38]) = false := by kernel_rfl
  have e43 : ((⟨#[60]⟩ : ByteArray).toList == [43]) = false := by kernel_rfl
  have e45 : ((⟨#[60]⟩ : ByteArray).toList == [45]) = false := by kernel_rfl
  have e42 : ((⟨#[60]⟩ : ByteArray).toList == [42]) = false := by kernel_rfl
  have e47 : ((⟨#[60]⟩ : ByteArray).toList == [47]) = false := by kernel_rfl
  go_enter Tryz.func82, Tryz.ntmps82
  go_wp2
  go_ret
  exact ⟨rfl, rfl⟩
theorem binding_62 (w : World) : Calls Tryz.prog 82 #[.string ⟨#[62]⟩] w fun e w' => e = .returned (.int .i64 1) ∧ w' = w := by
  have e61 : ((⟨#[62]⟩ : ByteArray).toList == [61]) = false := by kernel_rfl
  have e60_62 : ((⟨#[62]⟩ : ByteArray).toList == [60, 62]) = false := by kernel_rfl
  have e60 : ((⟨#[62]⟩ : ByteArray).toList == [60]) = false := by kernel_rfl
  have e62 : ((⟨#[62]⟩ : ByteArray).toList == [62]) = true := by kernel_rfl
  have e60_61 : ((⟨#[62]⟩ : ByteArray).toList == [60, 61]) = false := by kernel_rfl
  have e62_61 : ((⟨#[62]⟩ : ByteArray).toList == [62, 61]) = false := by kernel_rfl
  have e38 : ((⟨#[62]⟩ : ByteArray).toList == [38]) = false := by kernel_rfl
  have e43 : ((⟨#[62]⟩ : ByteArray).toList == [43]) = false := by kernel_rfl
  have e45 : ((⟨#[62]⟩ : ByteArray).toList == [45]) = false := by kernel_rfl
  have e42 : ((⟨#[62]⟩ : ByteArray).toList == [42]) = false := by kernel_rfl
  have e47 : ((⟨#[62]⟩ : ByteArray).toList == [47]) = false := by kernel_rfl
  go_enter Tryz.func82, Tryz.ntmps82
  go_wp2
  go_ret
  exact ⟨rfl, rfl⟩
theorem binding_60_61 (w : World) : Calls Tryz.prog 82 #[.string ⟨#[60, 61]⟩] w fun e w' => e = .returned (.int .i64 1) ∧ w' = w := by
  have e61 : ((⟨#[60, 61]⟩ : ByteArray).toList == [61]) = false := by kernel_rfl
  have e60_62 : ((⟨#[60, 61]⟩ : ByteArray).toList == [60, 62]) = false := by kernel_rfl
  have e60 : ((⟨#[60, 61]⟩ : ByteArray).toList == [60]) = false := by kernel_rfl
  have e62 : ((⟨#[60, 61]⟩ : ByteArray).toList == [62]) = false := by kernel_rfl
  have e60_61 : ((⟨#[60, 61]⟩ : ByteArray).toList == [60, 61]) = true := by kernel_rfl
  have e62_61 : ((⟨#[60, 61]⟩ : ByteArray).toList == [62, 61]) = false := by kernel_rfl
  have e38 : ((⟨#[60, 61]⟩ : ByteArray).toList == [38]) = false := by kernel_rfl
  have e43 : ((⟨#[60, 61]⟩ : ByteArray).toList == [43]) = false := by kernel_rfl
  have e45 : ((⟨#[60, 61]⟩ : ByteArray).toList == [45]) = false := by kernel_rfl
  have e42 : ((⟨#[60, 61]⟩ : ByteArray).toList == [42]) = false := by kernel_rfl
  have e47 : ((⟨#[60, 61]⟩ : ByteArray).toList == [47]) = false := by kernel_rfl
  go_enter Tryz.func82, Tryz.ntmps82
  go_wp2
  go_ret
  exact ⟨rfl, rfl⟩
theorem binding_62_61 (w : World) : Calls Tryz.prog 82 #[.string ⟨#[62, 61]⟩] w fun e w' => e = .returned (.int .i64 1) ∧ w' = w := by
  have e61 : ((⟨#[62, 61]⟩ : ByteArray).toList == [61]) = false := by kernel_rfl
  have e60_62 : ((⟨#[62, 61]⟩ : ByteArray).toList == [60, 62]) = false := by kernel_rfl
  have e60 : ((⟨#[62, 61]⟩ : ByteArray).toList == [60]) = false := by kernel_rfl
  have e62 : ((⟨#[62, 61]⟩ : ByteArray).toList == [62]) = false := by kernel_rfl
  have e60_61 : ((⟨#[62, 61]⟩ : ByteArray).toList == [60, 61]) = false := by kernel_rfl
  have e62_61 : ((⟨#[62, 61]⟩ : ByteArray).toList == [62, 61]) = true := by kernel_rfl
  have e38 : ((⟨#[62, 61]⟩ : ByteArray).toList == [38]) = false := by kernel_rfl
  have e43 : ((⟨#[62, 61]⟩ : ByteArray).toList == [43]) = false := by kernel_rfl
  have e45 : ((⟨#[62, 61]⟩ : ByteArray).toList == [45]) = false := by kernel_rfl
  have e42 : ((⟨#[62, 61]⟩ : ByteArray).toList == [42]) = false := by kernel_rfl
  have e47 : ((⟨#[62, 61]⟩ : ByteArray).toList == [47]) = false := by kernel_rfl
  go_enter Tryz.func82, Tryz.ntmps82
  go_wp2
  go_ret
  exact ⟨rfl, rfl⟩
theorem binding_38 (w : World) : Calls Tryz.prog 82 #[.string ⟨#[38]⟩] w fun e w' => e = .returned (.int .i64 2) ∧ w' = w := by
  have e61 : ((⟨#[38]⟩ : ByteArray).toList == [61]) = false := by kernel_rfl
  have e60_62 : ((⟨#[38]⟩ : ByteArray).toList == [60, 62]) = false := by kernel_rfl
  have e60 : ((⟨#[38]⟩ : ByteArray).toList == [60]) = false := by kernel_rfl
  have e62 : ((⟨#[38]⟩ : ByteArray).toList == [62]) = false := by kernel_rfl
  have e60_61 : ((⟨#[38]⟩ : ByteArray).toList == [60, 61]) = false := by kernel_rfl
  have e62_61 : ((⟨#[38]⟩ : ByteArray).toList == [62, 61]) = false := by kernel_rfl
  have e38 : ((⟨#[38]⟩ : ByteArray).toList == [38]) = true := by kernel_rfl
  have e43 : ((⟨#[38]⟩ : ByteArray).toList == [43]) = false := by kernel_rfl
  have e45 : ((⟨#[38]⟩ : ByteArray).toList == [45]) = false := by kernel_rfl
  have e42 : ((⟨#[38]⟩ : ByteArray).toList == [42]) = false := by kernel_rfl
  have e47 : ((⟨#[38]⟩ : ByteArray).toList == [47]) = false := by kernel_rfl
  go_enter Tryz.func82, Tryz.ntmps82
  go_wp2
  go_ret
  exact ⟨rfl, rfl⟩
theorem binding_43 (w : World) : Calls Tryz.prog 82 #[.string ⟨#[43]⟩] w fun e w' => e = .returned (.int .i64 3) ∧ w' = w := by
  have e61 : ((⟨#[43]⟩ : ByteArray).toList == [61]) = false := by kernel_rfl
  have e60_62 : ((⟨#[43]⟩ : ByteArray).toList == [60, 62]) = false := by kernel_rfl
  have e60 : ((⟨#[43]⟩ : ByteArray).toList == [60]) = false := by kernel_rfl
  have e62 : ((⟨#[43]⟩ : ByteArray).toList == [62]) = false := by kernel_rfl
  have e60_61 : ((⟨#[43]⟩ : ByteArray).toList == [60, 61]) = false := by kernel_rfl
  have e62_61 : ((⟨#[43]⟩ : ByteArray).toList == [62, 61]) = false := by kernel_rfl
  have e38 : ((⟨#[43]⟩ : ByteArray).toList == [38]) = false := by kernel_rfl
  have e43 : ((⟨#[43]⟩ : ByteArray).toList == [43]) = true := by kernel_rfl
  have e45 : ((⟨#[43]⟩ : ByteArray).toList == [45]) = false := by kernel_rfl
  have e42 : ((⟨#[43]⟩ : ByteArray).toList == [42]) = false := by kernel_rfl
  have e47 : ((⟨#[43]⟩ : ByteArray).toList == [47]) = false := by kernel_rfl
  go_enter Tryz.func82, Tryz.ntmps82
  go_wp2
  go_ret
  exact ⟨rfl, rfl⟩
theorem binding_45 (w : World) : Calls Tryz.prog 82 #[.string ⟨#[45]⟩] w fun e w' => e = .returned (.int .i64 3) ∧ w' = w := by
  have e61 : ((⟨#[45]⟩ : ByteArray).toList == [61]) = false := by kernel_rfl
  have e60_62 : ((⟨#[45]⟩ : ByteArray).toList == [60, 62]) = false := by kernel_rfl
  have e60 : ((⟨#[45]⟩ : ByteArray).toList == [60]) = false := by kernel_rfl
  have e62 : ((⟨#[45]⟩ : ByteArray).toList == [62]) = false := by kernel_rfl
  have e60_61 : ((⟨#[45]⟩ : ByteArray).toList == [60, 61]) = false := by kernel_rfl
  have e62_61 : ((⟨#[45]⟩ : ByteArray).toList == [62, 61]) = false := by kernel_rfl
  have e38 : ((⟨#[45]⟩ : ByteArray).toList == [38]) = false := by kernel_rfl
  have e43 : ((⟨#[45]⟩ : ByteArray).toList == [43]) = false := by kernel_rfl
  have e45 : ((⟨#[45]⟩ : ByteArray).toList == [45]) = true := by kernel_rfl
  have e42 : ((⟨#[45]⟩ : ByteArray).toList == [42]) = false := by kernel_rfl
  have e47 : ((⟨#[45]⟩ : ByteArray).toList == [47]) = false := by kernel_rfl
  go_enter Tryz.func82, Tryz.ntmps82
  go_wp2
  go_ret
  exact ⟨rfl, rfl⟩
theorem binding_42 (w : World) : Calls Tryz.prog 82 #[.string ⟨#[42]⟩] w fun e w' => e = .returned (.int .i64 4) ∧ w' = w := by
  have e61 : ((⟨#[42]⟩ : ByteArray).toList == [61]) = false := by kernel_rfl
  have e60_62 : ((⟨#[42]⟩ : ByteArray).toList == [60, 62]) = false := by kernel_rfl
  have e60 : ((⟨#[42]⟩ : ByteArray).toList == [60]) = false := by kernel_rfl
  have e62 : ((⟨#[42]⟩ : ByteArray).toList == [62]) = false := by kernel_rfl
  have e60_61 : ((⟨#[42]⟩ : ByteArray).toList == [60, 61]) = false := by kernel_rfl
  have e62_61 : ((⟨#[42]⟩ : ByteArray).toList == [62, 61]) = false := by kernel_rfl
  have e38 : ((⟨#[42]⟩ : ByteArray).toList == [38]) = false := by kernel_rfl
  have e43 : ((⟨#[42]⟩ : ByteArray).toList == [43]) = false := by kernel_rfl
  have e45 : ((⟨#[42]⟩ : ByteArray).toList == [45]) = false := by kernel_rfl
  have e42 : ((⟨#[42]⟩ : ByteArray).toList == [42]) = true := by kernel_rfl
  have e47 : ((⟨#[42]⟩ : ByteArray).toList == [47]) = false := by kernel_rfl
  go_enter Tryz.func82, Tryz.ntmps82
  go_wp2
  go_ret
  exact ⟨rfl, rfl⟩
theorem binding_47 (w : World) : Calls Tryz.prog 82 #[.string ⟨#[47]⟩] w fun e w' => e = .returned (.int .i64 4) ∧ w' = w := by
  have e61 : ((⟨#[47]⟩ : ByteArray).toList == [61]) = false := by kernel_rfl
  have e60_62 : ((⟨#[47]⟩ : ByteArray).toList == [60, 62]) = false := by kernel_rfl
  have e60 : ((⟨#[47]⟩ : ByteArray).toList == [60]) = false := by kernel_rfl
  have e62 : ((⟨#[47]⟩ : ByteArray).toList == [62]) = false := by kernel_rfl
  have e60_61 : ((⟨#[47]⟩ : ByteArray).toList == [60, 61]) = false := by kernel_rfl
  have e62_61 : ((⟨#[47]⟩ : ByteArray).toList == [62, 61]) = false := by kernel_rfl
  have e38 : ((⟨#[47]⟩ : ByteArray).toList == [38]) = false := by kernel_rfl
  have e43 : ((⟨#[47]⟩ : ByteArray).toList == [43]) = false := by kernel_rfl
  have e45 : ((⟨#[47]⟩ : ByteArray).toList == [45]) = false := by kernel_rfl
  have e42 : ((⟨#[47]⟩ : ByteArray).toList == [42]) = false := by kernel_rfl
  have e47 : ((⟨#[47]⟩ : ByteArray).toList == [47]) = true := by kernel_rfl
  go_enter Tryz.func82, Tryz.ntmps82
  go_wp2
  go_ret
  exact ⟨rfl, rfl⟩
theorem binding_none (s : ByteArray) (w : World) (e61 : (s.toList == [61]) = false) (e60_62 : (s.toList == [60, 62]) = false) (e60 : (s.toList == [60]) = false) (e62 : (s.toList == [62]) = false) (e60_61 : (s.toList == [60, 61]) = false) (e62_61 : (s.toList == [62, 61]) = false) (e38 : (s.toList == [38]) = false) (e43 : (s.toList == [43]) = false) (e45 : (s.toList == [45]) = false) (e42 : (s.toList == [42]) = false) (e47 : (s.toList == [47]) = false) : Calls Tryz.prog 82 #[.string s] w fun e w' => e = .returned (.int .i64 0) ∧ w' = w := by
  go_enter Tryz.func82, Tryz.ntmps82
  go_wp2
  go_ret
  exact ⟨rfl, rfl⟩
theorem toList_data (s : ByteArray) : s.toList = s.data.toList := by
  exact ByteArray.toList_eq s
theorem str_of {s : ByteArray} {l : List UInt8} (h : s.data.toList = l) : s = ⟨l.toArray⟩ := by
  subst h; rfl
theorem binding_any (s : ByteArray) (w : World) : Calls Tryz.prog 82 #[.string s] w fun e w' => e = .returned (.int .i64 (bindN s.data.toList : Int)) ∧ w' = w := by
  by_cases h61 : s.data.toList = [61]
  · rw [h61, show (bindN [61] : Int) = 1 by decide, str_of h61]; exact binding_61 w
  by_cases h60_62 : s.data.toList = [60, 62]
  · rw [h60_62, show (bindN [60, 62] : Int) = 1 by decide, str_of h60_62]; exact binding_60_62 w
  by_cases h60 : s.data.toList = [60]
  · rw [h60, show (bindN [60] : Int) = 1 by decide, str_of h60]; exact binding_60 w
  by_cases h62 : s.data.toList = [62]
  · rw [h62, show (bindN [62] : Int) = 1 by decide, str_of h62]; exact binding_62 w
  by_cases h60_61 : s.data.toList = [60, 61]
  · rw [h60_61, show (bindN [60, 61] : Int) = 1 by decide, str_of h60_61]; exact binding_60_61 w
  by_cases h62_61 : s.data.toList = [62, 61]
  · rw [h62_61, show (bindN [62, 61] : Int) = 1 by decide, str_of h62_61]; exact binding_62_61 w
  by_cases h38 : s.data.toList = [38]
  · rw [h38, show (bindN [38] : Int) = 2 by decide, str_of h38]; exact binding_38 w
  by_cases h43 : s.data.toList = [43]
  · rw [h43, show (bindN [43] : Int) = 3 by decide, str_of h43]; exact binding_43 w
  by_cases h45 : s.data.toList = [45]
  · rw [h45, show (bindN [45] : Int) = 3 by decide, str_of h45]; exact binding_45 w
  by_cases h42 : s.data.toList = [42]
  · rw [h42, show (bindN [42] : Int) = 4 by decide, str_of h42]; exact binding_42 w
  by_cases h47 : s.data.toList = [47]
  · rw [h47, show (bindN [47] : Int) = 4 by decide, str_of h47]; exact binding_47 w
  have hb : bindN s.data.toList = 0 := by simp [bindN, h61, h60_62, h60, h62, h60_61, h62_61, h38, h43, h45, h42, h47]
  rw [hb]
  exact binding_none s w (by rw [toList_data]; simpa using h61) (by rw [toList_data]; simpa using h60_62) (by rw [toList_data]; simpa using h60) (by rw [toList_data]; simpa using h62) (by rw [toList_data]; simpa using h60_61) (by rw [toList_data]; simpa using h62_61) (by rw [toList_data]; simpa using h38) (by rw [toList_data]; simpa using h43) (by rw [toList_data]; simpa using h45) (by rw [toList_data]; simpa using h42) (by rw [toList_data]; simpa using h47)
/-- A reader in its block, and the tokens that are left. -/
def Rdr (w : World) (R : Nat) (l : List Tok) : Prop :=
  R < w.heap.size ∧ w.frozen? ⟨R, 0, none⟩ = false ∧ l ≠ [] ∧ ∃ g o cap, w.cell? ⟨R, 0, none⟩ = some (.slice (some ⟨g, o, none⟩) l.length cap) ∧ l.length ≤ cap ∧ cap ≤ maxLen ∧ g < R ∧ ∀ i t, l[i]? = some t → ∀ j, j < 12 → w.cell? ⟨g, o + 12 * i + j, none⟩ = (tokC t)[j]?
/-- One block may have turned, no other one. -/
structure Bar (R : Nat) (w w' : World) : Prop where
  os : w'.os = w.os
  tape : w'.tape = w.tape
  output : w'.output = w.output
  size : w.heap.size ≤ w'.heap.size
  block : ∀ k, k < w.heap.size → k ≠ R → w'.heap[k]? = w.heap[k]?
theorem Bar.refl (R : Nat) (w : World) : Bar R w w := ⟨rfl, rfl, rfl, Nat.le_refl _, fun _ _ _ => rfl⟩
theorem Bar.trans {R : Nat} {a b c : World} (h : Bar R a b) (k : Bar R b c) : Bar R a c :=
  ⟨k.os.trans h.os, k.tape.trans h.tape, k.output.trans h.output, Nat.le_trans h.size k.size, fun i hi hn => (k.block i (Nat.lt_of_lt_of_le hi h.size) hn).trans (h.block i hi hn)⟩
theorem Bar.of {R : Nat} {w w' : World} (h : Below w.heap.size w w') : Bar R w w' := ⟨h.os, h.tape, h.output, h.size, fun k hk _ => h.block k hk⟩
theorem Bar.below {R : Nat} {w w' : World} (h : Bar R w w') (hR : R ≤ w.heap.size) : Below R w w' := ⟨h.os, h.tape, h.output, h.size, fun k hk => h.block k (Nat.lt_of_lt_of_le hk hR) (Nat.ne_of_lt hk)⟩
theorem Bar.alloc {R : Nat} {a w : World} (h : Bar R a w) (o : Obj) : Bar R a (w.alloc o) := h.trans (Bar.of ((Below.refl _ _).alloc (Nat.le_refl _) o))
theorem Bar.drew {R : Nat} {a w : World} (h : Bar R a w) : Bar R a w.drew := ⟨h.os, h.tape, h.output, h.size, h.block⟩
theorem Bar.set {R : Nat} {a w : World} (h : Bar R a w) (i : Nat) (u : Value) : Bar R a (w.setCell ⟨R, i, none⟩ u) :=
  ⟨h.os, h.tape, h.output, by simpa using h.size, fun k hk hn => by rw [Below.heap_setCell _ _ _ _ hn]; exact h.block k hk hn⟩
theorem Bar.cell {R : Nat} {w w' : World} (h : Bar R w w') {b o : Nat} (hb : b < w.heap.size) (hn : b ≠ R) : w'.cell? ⟨b, o, none⟩ = w.cell? ⟨b, o, none⟩ := World.cell?_of_block (w := w) (h.block b hb hn)
theorem Bar.frozen {R : Nat} {w w' : World} (h : Bar R w w') {b o : Nat} (hb : b < w.heap.size) (hn : b ≠ R) : w'.frozen? ⟨b, o, none⟩ = w.frozen? ⟨b, o, none⟩ := World.frozen?_of_block (w := w) (h.block b hb hn)
/-- A reader stays one, and its tokens are taken. -/
theorem Rdr.below {w w' : World} {R : Nat} {l : List Tok} (h : Rdr w R l) (k : Below w.heap.size w w') : Rdr w' R l := by
  obtain ⟨hR, hf, hne, g, o, cap, hc, hc1, hc2, hg, ht⟩ := h
  exact ⟨Nat.lt_of_lt_of_le hR k.size, by rw [k.frozen (p := ⟨R, 0, none⟩) hR]; exact hf, hne, g, o, cap, by rw [k.cell (p := ⟨R, 0, none⟩) hR]; exact hc, hc1, hc2, hg, fun i t hi j hj => by rw [k.cell (p := ⟨g, o + 12 * i + j, none⟩) (Nat.lt_trans hg hR)]; exact ht i t hi j hj⟩
end
section
open Go.RowKit
/-- A node's cells, its kids' slice being given. -/
def hdC (h : Hd) (v : Value) : List Value := [.int .i64 h.kind, .int .i64 h.vk, .int .i64 h.vn, .string ⟨h.vs.toArray⟩, .bool h.vb, .int .i64 h.vc, .int .i64 h.row, .int .i64 h.col, .bool h.fr, .bool h.fc, .int .i64 h.row2, .int .i64 h.col2, .bool h.fr2, .bool h.fc2, .string ⟨h.txt.toArray⟩, v]
theorem hdC_len' (h : Hd) (v : Value) : (hdC h v).length = 16 := rfl
def nodeV (h : Hd) (v : Value) : Value := .agg (hdC h v).toArray
/-- Nodes one behind the other in a block from a place on, all in blocks of a kind. -/
def Row (w : World) (D : Nat → Prop) : Fo → Nat → Nat → Prop
  | .nil, _, _ => True
  | .cons h k r, b, o => D b ∧ (∃ v, (∀ j, j < 16 → w.cell? ⟨b, o + j, none⟩ = (hdC h v)[j]?) ∧ ∃ a n cap, v = .slice a n cap ∧ n = k.len ∧ (k = .nil ∨ ∃ b' o', a = some ⟨b', o', none⟩ ∧ n ≤ cap ∧ cap ≤ maxLen ∧ Row w D k b' o')) ∧ Row w D r b (o + 16)
/-- A slice of kids. -/
def Kv (w : World) (D : Nat → Prop) (v : Value) (k : Fo) : Prop := ∃ a n cap, v = .slice a n cap ∧ n = k.len ∧ (k = .nil ∨ ∃ b' o', a = some ⟨b', o', none⟩ ∧ n ≤ cap ∧ cap ≤ maxLen ∧ Row w D k b' o')
theorem row_cons {w : World} {D : Nat → Prop} {h : Hd} {k r : Fo} {b o : Nat} : Row w D (.cons h k r) b o ↔ D b ∧ (∃ v, (∀ j, j < 16 → w.cell? ⟨b, o + j, none⟩ = (hdC h v)[j]?) ∧ Kv w D v k) ∧ Row w D r b (o + 16) := Iff.rfl
/-- What is read there is read in every world that has the same blocks. -/
theorem row_to {w w' : World} {D D' : Nat → Prop} (hs : ∀ b, D b → D' b ∧ w'.heap[b]? = w.heap[b]?) : ∀ (F : Fo) (b o : Nat), Row w D F b o → Row w' D' F b o
  | .nil, _, _, _ => trivial
  | .cons h k r, b, o, ⟨h1, ⟨v, hv, a, n, cap, e1, e2, e3⟩, h4⟩ => by
    refine ⟨(hs b h1).1, ⟨v, fun j hj => ?_, a, n, cap, e1, e2, ?_⟩, row_to hs r b (o + 16) h4⟩
    · rw [World.cell?_of_block (w := w) (hs b h1).2]; exact hv j hj
    · rcases e3 with e3 | ⟨b', o', e4, e5, e6, e7⟩
      · exact .inl e3
      · exact .inr ⟨b', o', e4, e5, e6, row_to hs k b' o' e7⟩
theorem kv_to {w w' : World} {D D' : Nat → Prop} {v : Value} {k : Fo} (h : Kv w D v k) (hs : ∀ b, D b → D' b ∧ w'.heap[b]? = w.heap[b]?) : Kv w' D' v k := by
  obtain ⟨a, n, cap, e1, e2, e3⟩ := h
  refine ⟨a, n, cap, e1, e2, ?_⟩
  rcases e3 with e3 | ⟨b', o', e4, e5, e6, e7⟩
  · exact .inl e3
  · exact .inr ⟨b', o', e4, e5, e6, row_to hs k b' o' e7⟩
/-- No kids. -/
theorem kv_nil (w : World) (D : Nat → Prop) (a : Option Addr) (cap : Nat) : Kv w D (.slice a 0 cap) .nil := ⟨a, 0, cap, rfl, rfl, .inl rfl⟩
/-- Blocks that a call has made. -/
def New (w w' : World) (b : Nat) : Prop := w.heap.size ≤ b ∧ b < w'.heap.size
/-- A node's cells in a block that begins with them. -/
theorem node_at {w : World} {D : Nat → Prop} {b o : Nat} {h : Hd} {k r : Fo} {v : Value} {pre rest : List Value} {t : TypeId} {fz : Nat × Nat} (hb : w.heap[b]? = some (.cells (pre ++ hdC h v ++ rest).toArray t fz)) (ho : pre.length = o) (hD : D b) (hk : Kv w D v k) (hr : Row w D r b (o + 16)) : Row w D (.cons h k r) b o := by
  refine row_cons.2 ⟨hD, ⟨v, fun j hj => ?_, hk⟩, hr⟩
  rw [cell_of_row w b (o + j) _ _ _ hb]
  subst ho
  rw [List.getElem?_toArray, List.append_assoc, List.getElem?_append_right (by omega), show pre.length + j - pre.length = j by omega, List.getElem?_append_left (by rw [hdC_len']; omega)]
/-- One kid; two. -/
theorem kv_one {w : World} {D : Nat → Prop} {c : Nat} {h : Hd} {k : Fo} {v : Value} {t : TypeId} {fz : Nat × Nat} (hc : w.heap[c]? = some (.cells (hdC h v).toArray t fz)) (hD : D c) (hk : Kv w D v k) : Kv w D (.slice (some ⟨c, 0, none⟩) 1 1) (.cons h k .nil) :=
  ⟨_, _, _, rfl, rfl, .inr ⟨c, 0, rfl, Nat.le_refl _, by unfold maxLen; omega, node_at (pre := []) (rest := []) (by simpa using hc) rfl hD hk trivial⟩⟩
theorem kv_two {w : World} {D : Nat → Prop} {c : Nat} {h h' : Hd} {k k' : Fo} {v v' : Value} {t : TypeId} {fz : Nat × Nat} (hc : w.heap[c]? = some (.cells (hdC h v ++ hdC h' v').toArray t fz)) (hD : D c) (hk : Kv w D v k) (hk' : Kv w D v' k') : Kv w D (.slice (some ⟨c, 0, none⟩) 2 2) (.cons h k (.cons h' k' .nil)) :=
  ⟨_, _, _, rfl, rfl, .inr ⟨c, 0, rfl, Nat.le_refl _, by unfold maxLen; omega, node_at (pre := []) (rest := hdC h' v') (by simpa using hc) rfl hD hk (node_at (pre := hdC h v) (rest := []) (by simpa using hc) rfl hD hk' trivial)⟩⟩
/-- A reader behind stores elsewhere. -/
theorem Rdr.set {w : World} {R : Nat} {l : List Tok} (h : Rdr w R l) {b : Nat} (hb : R < b) (i : Nat) (u : Value) : Rdr (w.setCell ⟨b, i, none⟩ u) R l := by
  obtain ⟨hR, hf, hne, g, o, cap, hc, hc1, hc2, hg, ht⟩ := h
  refine ⟨by simpa using hR, by rw [World.frozen?_setCell]; exact hf, hne, g, o, cap, ?_, hc1, hc2, hg, fun i' t hi j hj => ?_⟩
  · rw [World.cell?_setCell_other _ _ _ _ (by intro e; have := congrArg Addr.block e; simp at this; omega)]; exact hc
  · rw [World.cell?_setCell_other _ _ _ _ (by intro e; have := congrArg Addr.block e; simp at this; omega)]; exact ht i' t hi j hj
theorem Rdr.alloc {w : World} {R : Nat} {l : List Tok} (h : Rdr w R l) (o : Obj) : Rdr (w.alloc o) R l := h.below ((Below.refl _ _).alloc (Nat.le_refl _) o)
theorem Rdr.drew {w : World} {R : Nat} {l : List Tok} (h : Rdr w R l) : Rdr w.drew R l := h
theorem below_drewN0 (w : World) : ∀ (n : Nat), Below w.heap.size w (w.drewN n)
  | n => ⟨by simp [World.drewN], by simp [World.drewN], by simp [World.drewN], by simp [World.drewN], fun _ _ => by simp [World.drewN]⟩
theorem Rdr.drewN {w : World} {R : Nat} {l : List Tok} (h : Rdr w R l) (n : Nat) : Rdr (w.drewN n) R l := h.below (below_drewN0 w n)
theorem Bar.drewN {R : Nat} {a w : World} (h : Bar R a w) (n : Nat) : Bar R a (w.drewN n) := h.trans (Bar.of (below_drewN0 w n))
/-- A node in a block of its own. -/
def Box (w : World) (b : Nat) (cs : List Value) : Prop := w.heap[b]? = some (.cells cs.toArray 68 (0, 0))
theorem hdC_len (h : Hd) (v : Value) : (hdC h v).length = 16 := rfl
/-- A slice, or whatever else is one cell. -/
theorem hdC_one (h : Hd) {v : Value} (hv : v.oneCell' = true) : (hdC h v).toArray.all (·.oneCell') = true := by
  rw [Array.all_eq_true_iff_forall_mem]
  intro u hu
  simp only [hdC, List.mem_toArray, List.mem_cons, List.not_mem_nil, or_false] at hu
  rcases hu with rfl | rfl | rfl | rfl | rfl | rfl | rfl | rfl | rfl | rfl | rfl | rfl | rfl | rfl | rfl | rfl <;> first | rfl | exact hv
theorem Box.lt {w : World} {b : Nat} {cs : List Value} (h : Box w b cs) : b < w.heap.size := (Array.getElem?_eq_some_iff.1 h).1
theorem Box.below {w w' : World} {b : Nat} {cs : List Value} (h : Box w b cs) (k : Below w.heap.size w w') : Box w' b cs := by
  unfold Box; rw [k.block b h.lt]; exact h
theorem Box.alloc {w : World} {b : Nat} {cs : List Value} (h : Box w b cs) (o : Obj) : Box (w.alloc o) b cs := h.below ((Below.refl _ _).alloc (Nat.le_refl _) o)
theorem Box.new (w : World) (cs : List Value) : Box (w.alloc (.cells cs.toArray 68)) w.heap.size cs := heap_alloc_new w _
theorem Box.drewN {w : World} {b : Nat} {cs : List Value} (h : Box w b cs) (n : Nat) : Box (w.drewN n) b cs := h.below (below_drewN0 w n)
theorem setRow_heap (w : World) (g k : Nat) (cs : Array Value) (h : k ≠ g) : (w.setRow g cs).heap[k]? = w.heap[k]? := by
  show (w.heap.modify g _)[k]? = _
  rw [Array.getElem?_modify, if_neg (Ne.symm h)]
theorem setRow_size (w : World) (g : Nat) (cs : Array Value) : (w.setRow g cs).heap.size = w.heap.size := by
  show (w.heap.modify g _).size = _
  simp
theorem Box.set {w : World} {b : Nat} {cs : List Value} (h : Box w b cs) (cs' : List Value) : Box (w.setRow b cs'.toArray) b cs' := by
  show (w.heap.modify b _)[b]? = _
  rw [Array.getElem?_modify, if_pos rfl, show w.heap[b]? = _ from h]
  rfl
theorem Box.other {w : World} {b g : Nat} {cs : List Value} (h : Box w b cs) (hb : b ≠ g) (cs' : Array Value) : Box (w.setRow g cs') b cs := by
  unfold Box; rw [setRow_heap w g b cs' hb]; exact h
theorem Bar.row {R : Nat} {a w : World} (h : Bar R a w) {b : Nat} (hb : a.heap.size ≤ b) (cs : Array Value) : Bar R a (w.setRow b cs) :=
  ⟨h.os, h.tape, h.output, by rw [setRow_size]; exact h.size, fun k hk hn => by rw [setRow_heap _ _ _ _ (by omega)]; exact h.block k hk hn⟩
theorem Rdr.row {w : World} {R : Nat} {l : List Tok} (h : Rdr w R l) {b : Nat} (hb : R < b) (cs : Array Value) : Rdr (w.setRow b cs) R l := by
  obtain ⟨hR, hf, hne, g, o, cap, hc, hc1, hc2, hg, ht⟩ := h
  have hbl : ∀ k, k < b → (w.setRow b cs).heap[k]? = w.heap[k]? := fun k hk => setRow_heap _ _ _ _ (by omega)
  exact ⟨by rw [setRow_size]; exact hR, by rw [World.frozen?_of_block (w := w) (a := ⟨R, 0, none⟩) (hbl R hb)]; exact hf, hne, g, o, cap, by rw [World.cell?_of_block (w := w) (a := ⟨R, 0, none⟩) (hbl R hb)]; exact hc, hc1, hc2, hg, fun i t hi j hj => by
    rw [World.cell?_of_block (w := w) (a := ⟨g, o + 12 * i + j, none⟩) (hbl g (by omega))]; exact ht i t hi j hj⟩
theorem infoNode : (Tryz.prog.info? 68).map (fun i => (i.zero, i.size)) = some (some (.agg (hdC zh (.slice none 0 0)).toArray), 16) := by kernel_rfl
theorem sizeNode : (Tryz.prog.info? 68).map (·.size) = some 16 := by kernel_rfl
/-- As the walk meets them: a whole node read, or written. -/
theorem Box.load {w : World} {b : Nat} {h : Hd} {v : Value} (k : Box w b (hdC h v)) : (loadCellsFrom ⟨b, 0, none⟩ 0 16 #[]).run Tryz.prog w = .ok (hdC h v).toArray w := by
  have := run_loadCells_list (P := Tryz.prog) (w := w) ⟨b, 0, none⟩ (hdC h v) (fun j u hu => by
    rw [Addr.add_mid, Nat.zero_add, cell_of_row w b j _ _ _ k]; simpa using hu)
  simpa [loadCells, hdC_len] using this
theorem Box.store {w : World} {b : Nat} {cs : List Value} (k : Box w b cs) (hl : cs.length = 16) (h : Hd) {v : Value} (hv : v.oneCell' = true) : (storeCells ⟨b, 0, none⟩ (hdC h v) 0).run Tryz.prog w = .ok () (w.setRow b (hdC h v).toArray) := by
  have := run_storeVar_row (P := Tryz.prog) w b 68 68 cs.toArray (hdC h v).toArray k (by rw [sizeNode]; rfl) (by simp [hl, hdC_len]) (hdC_one h hv)
  cases hq : Tryz.prog.info? 68 with
  | none => have := sizeNode; simp [hq] at this
  | some i =>
    have hs : 16 = i.size := by have := sizeNode; simp [hq] at this; omega
    have hs' : (hdC h v).length = i.size := by rw [hdC_len]; exact hs
    simpa [storeVar, sizeOf, typeInfo, hq, Value.cells, hs'] using this
/-- What is handed back. -/
theorem Box.ret {fn : Func} {p : Tmp} (hf : fn.results = #[.cell p 68]) {tmps : Array Value} {w : World} {b : Nat} {h : Hd} {v : Value} (k : Box w b (hdC h v)) (hp : tmps.getD p undef = .pointer (some ⟨b, 0, none⟩)) : (results fn tmps).run Tryz.prog w = .ok (nodeV h v) w :=
  results_cell_row hf tmps w b 68 (hdC h v).toArray (0, 0) _ hp k Tryz.underlying68 rfl (by rw [sizeNode]; rfl)
/-- Kids made: one, and two. -/
theorem build1 (h : Hd) (v : Value) (w : World) : (Instr.buildSlice 66 1 #[(0, .agg (hdC h v).toArray)]).run Tryz.prog w = .ok (.slice (some ⟨w.heap.size, 0, none⟩) 1 1) (w.alloc (.cells (hdC h v).toArray 68)) := by
  obtain ⟨ie, hie, hz, hs⟩ : ∃ ie, Tryz.prog.info? 68 = some ie ∧ ie.zero = some (.agg (hdC zh (.slice none 0 0)).toArray) ∧ ie.size = 16 := by
    have := infoNode
    cases hq : Tryz.prog.info? 68 with
    | none => simp [hq] at this
    | some i => simp [hq] at this; exact ⟨i, rfl, this.1, this.2⟩
  refine run_buildSlice w 66 68 1 _ _ ie _ Tryz.underlying66 hie hz (by rw [hs]; decide) (by rw [hs]; decide) ?_
  rw [hs]
  kernel_rfl
theorem build2 (h h' : Hd) (v v' : Value) (w : World) : (Instr.buildSlice 66 2 #[(0, .agg (hdC h v).toArray), (1, .agg (hdC h' v').toArray)]).run Tryz.prog w = .ok (.slice (some ⟨w.heap.size, 0, none⟩) 2 2) (w.alloc (.cells (hdC h v ++ hdC h' v').toArray 68)) := by
  obtain ⟨ie, hie, hz, hs⟩ : ∃ ie, Tryz.prog.info? 68 = some ie ∧ ie.zero = some (.agg (hdC zh (.slice none 0 0)).toArray) ∧ ie.size = 16 := by
    have := infoNode
    cases hq : Tryz.prog.info? 68 with
    | none => simp [hq] at this
    | some i => simp [hq] at this; exact ⟨i, rfl, this.1, this.2⟩
  refine run_buildSlice w 66 68 2 _ _ ie _ Tryz.underlying66 hie hz (by rw [hs]; decide) (by rw [hs]; decide) ?_
  rw [hs]
  kernel_rfl
theorem Box.drew {w : World} {b : Nat} {cs : List Value} (h : Box w b cs) : Box w.drew b cs := h
/-- Is a list of operations ahead? -/
theorem wpl_id {ops : Array Oper} {l : List Oper} {a : Act} {w : World} {Q : Exit → Act → World → Prop} (h : wpList Tryz.prog ops Q l a w) : wpList Tryz.prog ops Q l a w := h
/-- At the list of a region's operations: a whole node read, or written. -/
theorem wpl_load {ops : Array Oper} {rest : List Oper} {o : Oper} {a : Act} {w : World} {Q : Exit → Act → World → Prop} (hgd : o.guard = none) (x : Operand) (ho : o.op = .load 68 x)
    (g : Nat) (hx : a.eval x = .pointer (some ⟨g, 0, none⟩)) {h : Hd} {v : Value} (hb : Box w g (hdC h v))
    (hk : wpList Tryz.prog ops Q rest (a.put o.dst (.agg (hdC h v).toArray)) w) : wpList Tryz.prog ops Q (o :: rest) a w :=
  wpList_load_row hgd 68 x ho g hx 68 _ (0, 0) _ hb Tryz.underlying68 rfl (by rw [sizeNode]; rfl) hk
theorem wpl_store {ops : Array Oper} {rest : List Oper} {o : Oper} {a : Act} {w : World} {Q : Exit → Act → World → Prop} (hgd : o.guard = none) (x y : Operand) (ho : o.op = .store 68 x y)
    (g : Nat) (hx : a.eval x = .pointer (some ⟨g, 0, none⟩)) {h : Hd} {p : Option Addr} {n cap : Nat} (hy : a.eval y = .agg (hdC h (.slice p n cap)).toArray) {cs : List Value} (hb : Box w g cs) (hl : cs.length = 16)
    (hk : wpList Tryz.prog ops Q rest (a.put o.dst undef) (w.setRow g (hdC h (.slice p n cap)).toArray)) : wpList Tryz.prog ops Q (o :: rest) a w :=
  wpList_store_row hgd 68 x y ho g _ hx hy 68 _ hb (by rw [sizeNode]; rfl) (by simp [hl, hdC_len]) (hdC_one h rfl) hk
/-- Nodes made. -/
theorem run_val (t : Tok) (w : World) : (Instr.build 68 #[(0, .int .i64 1), (1, .agg #[.int .i64 t.vk, .int .i64 t.vn, .string ⟨t.vs.toArray⟩, .bool t.vb, .int .i64 t.vc])]).run Tryz.prog w = .ok (.agg (hdC (valH t) (.slice none 0 0)).toArray) w := run_build w _ _ _ (by kernel_rfl)
theorem run_cell (t : Tok) (w : World) : (Instr.build 68 #[(0, .int .i64 2), (2, .agg #[.int .i64 t.row, .int .i64 t.col, .bool t.fr, .bool t.fc])]).run Tryz.prog w = .ok (.agg (hdC (cellH t) (.slice none 0 0)).toArray) w := run_build w _ _ _ (by kernel_rfl)
theorem run_range (t u : Tok) (w : World) : (Instr.build 68 #[(0, .int .i64 3), (2, .agg #[.int .i64 t.row, .int .i64 t.col, .bool t.fr, .bool t.fc]), (3, .agg #[.int .i64 u.row, .int .i64 u.col, .bool u.fr, .bool u.fc])]).run Tryz.prog w = .ok (.agg (hdC (rangeH t u) (.slice none 0 0)).toArray) w := run_build w _ _ _ (by kernel_rfl)
theorem run_neg (a : Option Addr) (n cap : Nat) (w : World) : (Instr.build 68 #[(0, .int .i64 4), (5, .slice a n cap)]).run Tryz.prog w = .ok (.agg (hdC negH (.slice a n cap)).toArray) w := run_build w _ _ _ (by kernel_rfl)
theorem run_bin (l : List UInt8) (a : Option Addr) (n cap : Nat) (w : World) : (Instr.build 68 #[(0, .int .i64 5), (4, .string ⟨l.toArray⟩), (5, .slice a n cap)]).run Tryz.prog w = .ok (.agg (hdC (binH l) (.slice a n cap)).toArray) w := run_build w _ _ _ (by kernel_rfl)
/-- By one operation: a node read, written, made; kids made. -/
theorem wp_loadN {o : Oper} {a : Act} {w : World} {K : Act → World → Prop} {Q : Exit → Act → World → Prop} (x : Operand) (ho : o.op = .load 68 x) (g : Nat) (hx : a.eval x = .pointer (some ⟨g, 0, none⟩)) {h : Hd} {v : Value} (hb : Box w g (hdC h v))
    (hk : K (a.put o.dst (.agg (hdC h v).toArray)) w) : o.wp Tryz.prog a w K Q := wp_load_row 68 x ho g hx 68 _ (0, 0) _ hb Tryz.underlying68 rfl (by rw [sizeNode]; rfl) hk
theorem wp_run {o : Oper} {a : Act} {w w' : World} {K : Act → World → Prop} {Q : Exit → Act → World → Prop} {v : Value} (he : (execOp a.eval o).run Tryz.prog w = .ok (.value v) w') (hk : K (a.put o.dst v) w') : o.wp Tryz.prog a w K Q := by
  unfold Oper.wp; rw [he]; exact hk
theorem wp_buildN {o : Oper} {a : Act} {w w' : World} {K : Act → World → Prop} {Q : Exit → Act → World → Prop} (t : TypeId) (ps : Array (Nat × Operand)) (ho : o.op = .build t ps) {qs : Array (Nat × Value)} (hq : (ps.toList.map fun (i, x) => (i, a.eval x)) = qs.toList) {v : Value} (hr : (Instr.build t qs).run Tryz.prog w = .ok v w') (hk : K (a.put o.dst v) w') : o.wp Tryz.prog a w K Q := by
  refine wp_run (v := v) ?_ hk
  have hq' : (ps.map fun (i, x) => (i, a.eval x)) = qs := by rw [← Array.toList_inj, Array.toList_map]; exact hq
  unfold execOp
  simp only [ho, hq', Sem.run_bind, hr, Result.andThen_ok]
  rfl
theorem wp_buildS {o : Oper} {a : Act} {w w' : World} {K : Act → World → Prop} {Q : Exit → Act → World → Prop} (t : TypeId) (n : Nat) (ps : Array (Nat × Operand)) (ho : o.op = .buildSlice t n ps) {qs : Array (Nat × Value)} (hq : (ps.toList.map fun (i, x) => (i, a.eval x)) = qs.toList) {v : Value} (hr : (Instr.buildSlice t n qs).run Tryz.prog w = .ok v w') (hk : K (a.put o.dst v) w') : o.wp Tryz.prog a w K Q := by
  refine wp_run (v := v) ?_ hk
  have hq' : (ps.map fun (i, x) => (i, a.eval x)) = qs := by rw [← Array.toList_inj, Array.toList_map]; exact hq
  unfold execOp
  simp only [ho, hq', Sem.run_bind, hr, Result.andThen_ok]
  rfl
theorem wpl_buildN {ops : Array Oper} {rest : List Oper} {o : Oper} {a : Act} {w w' : World} {Q : Exit → Act → World → Prop} (hgd : o.guard = none) (t : TypeId) (ps : Array (Nat × Operand)) (ho : o.op = .build t ps) {qs : Array (Nat × Value)} (hq : (ps.toList.map fun (i, x) => (i, a.eval x)) = qs.toList) {v : Value} (hr : (Instr.build t qs).run Tryz.prog w = .ok v w') (hk : wpList Tryz.prog ops Q rest (a.put o.dst v) w') : wpList Tryz.prog ops Q (o :: rest) a w :=
  wpList_plain hgd fun _ hK => wp_buildN t ps ho hq hr (hK _ _ hk)
theorem wpl_buildS {ops : Array Oper} {rest : List Oper} {o : Oper} {a : Act} {w w' : World} {Q : Exit → Act → World → Prop} (hgd : o.guard = none) (t : TypeId) (n : Nat) (ps : Array (Nat × Operand)) (ho : o.op = .buildSlice t n ps) {qs : Array (Nat × Value)} (hq : (ps.toList.map fun (i, x) => (i, a.eval x)) = qs.toList) {v : Value} (hr : (Instr.buildSlice t n qs).run Tryz.prog w = .ok v w') (hk : wpList Tryz.prog ops Q rest (a.put o.dst v) w') : wpList Tryz.prog ops Q (o :: rest) a w :=
  wpList_plain hgd fun _ hK => wp_buildS t n ps ho hq hr (hK _ _ hk)
theorem wrap_le {x : Int} (h1 : -1000000 ≤ x) (h2 : x ≤ 1000000) : IntKind.i64.wrap x = x := by
  rw [IntKind.wrap_i64]; omega
/-- An operation that is due. -/
theorem readyP {ops : Array Oper} {Q : Exit → Act → World → Prop} {md : Region.Mode} {S : World → Prop} {fuel : Nat} {listed : Array Bool} {a : Act} {w : World} {i : Nat} {o : Oper} {rs : List Nat} (ho : ops[i]? = some o) (hg : o.guard = none)
    (h : ∀ K' : Act → World → Prop, Shut (∀ a w, S w → (S w → wpAnyH Tryz.prog md ops Q S fuel (listed.setIfInBounds i true) a w) → K' a w) → Oper.wp Tryz.prog o a w K' Q)
    (hs : AllReadyH Tryz.prog md ops Q S fuel listed a w rs) : AllReadyH Tryz.prog md ops Q S fuel listed a w (i :: rs) :=
  AllReadyH.cons ho (fun K' hK => by rw [if_pos (by simp [Region.wanted, hg])]; exact h K' hK) hs
/-- Tokens that end with the end, which has no text. -/
def Ended (l : List Tok) : Prop := ∃ i e, l = i ++ [e] ∧ e.kind = 0 ∧ e.txt = []
theorem ended_ne {l : List Tok} (h : Ended l) : l ≠ [] := by
  obtain ⟨i, e, rfl, _⟩ := h; simp
theorem ended_tail {l : List Tok} (h : Ended l) (h1 : (hd l).kind ≠ 0 ∨ (hd l).txt ≠ []) : Ended l.tail := by
  obtain ⟨i, e, rfl, h2, h3⟩ := h
  cases i with
  | nil =>
    rcases h1 with h1 | h1
    · exact absurd h2 h1
    · exact absurd h3 h1
  | cons a i => exact ⟨i, e, rfl, h2, h3⟩
theorem ended_at {l : List Tok} {s : List UInt8} (h : Ended l) (h1 : atB l s = true) : Ended l.tail := ended_tail h (.inl (by have := (atB_kind h1).1; omega))
/-- What is left ends with the end, too. -/
theorem go_ended : ∀ (f : Nat) (c : Cmd) (l : List Tok), fine c → Ended l → ∀ h k r, go f c l = .ok h k r → Ended r
  | 0, _, _, _, _, _, _, _, e => by simp [go] at e
  | f + 1, .form m, l, hm, he, h, k, r, e => by
    rw [go] at e
    cases e1 : go f .single l with
    | bad r => rw [e1] at e; cases e
    | ok h1 k1 r1 =>
      rw [e1] at e
      exact go_ended f (.loop m h1 k1) r1 hm (go_ended f .single l trivial he _ _ _ e1) _ _ _ e
  | f + 1, .loop m h0 k0, l, hm, he, h, k, r, e => by
    rw [go] at e
    split at e
    · cases e; exact he
    · rename_i hb
      simp only [fine] at hm
      have ht := ended_tail he (.inr (fun x => by rw [x] at hb; exact hb (by rw [bind_nil]; omega)))
      cases e1 : go f (.form (bindN (hd l).txt + 1)) l.tail with
      | bad r => rw [e1] at e; cases e
      | ok h1 k1 r1 =>
        rw [e1] at e
        exact go_ended f (.loop m _ _) r1 hm (go_ended f (.form (bindN (hd l).txt + 1)) l.tail (by simp [fine]) ht _ _ _ e1) _ _ _ e
  | f + 1, .single, l, hm, he, h, k, r, e => by
    rw [go] at e
    split at e
    · rename_i h1
      cases e; exact ended_tail he (.inl (by omega))
    · split at e
      · rename_i h1
        have ht := ended_tail he (.inl (by omega))
        split at e
        · rename_i h2
          have ht2 := ended_at ht h2
          split at e
          · rename_i h3
            cases e; exact ended_tail ht2 (.inl (by omega))
          · cases e
        · cases e; exact ht
      · split at e
        · rename_i h1
          have ht := ended_tail he (.inl (by omega))
          split at e
          · rename_i h2
            have ht2 := ended_at ht h2
            split at e
            · rename_i h3
              cases e; exact ended_at ht2 h3
            · cases e1 : go f (.kids .nil) l.tail.tail with
              | bad r => rw [e1] at e; cases e
              | ok h1 k1 r1 =>
                rw [e1] at e
                have a := go_ended f (.kids .nil) l.tail.tail trivial ht2 _ _ _ e1
                simp only at e
                split at e
                · rename_i h3
                  cases e; exact ended_at a h3
                · cases e
          · cases e
        · split at e
          · rename_i h2
            have ht2 := ended_at he h2
            cases e1 : go f .single l.tail with
            | bad r => rw [e1] at e; cases e
            | ok h1 k1 r1 =>
              rw [e1] at e
              have a := go_ended f .single l.tail trivial ht2 _ _ _ e1
              cases e; exact a
          · split at e
            · rename_i h2
              have ht2 := ended_at he h2
              cases e1 : go f (.form 1) l.tail with
              | bad r => rw [e1] at e; cases e
              | ok h1 k1 r1 =>
                rw [e1] at e
                have a := go_ended f (.form 1) l.tail (by simp [fine]) ht2 _ _ _ e1
                simp only at e
                split at e
                · rename_i h3
                  cases e; exact ended_at a h3
                · cases e
            · cases e
  | f + 1, .kids acc, l, hm, he, h, k, r, e => by
    rw [go] at e
    cases e1 : go f (.form 1) l with
    | bad r => rw [e1] at e; cases e
    | ok h1 k1 r1 =>
      rw [e1] at e
      have a := go_ended f (.form 1) l (by simp [fine]) he _ _ _ e1
      simp only at e
      split at e
      · rename_i h3
        exact go_ended f (.kids (acc.snoc h1 k1)) r1.tail trivial (ended_at a h3) _ _ _ e
      · cases e; exact a
theorem rd_ended {c : Cmd} {l : List Tok} (hc : fine c) (he : Ended l) {h k r} (e : rd c l = .ok h k r) : Ended r := go_ended _ _ _ hc he _ _ _ e
end
section
open Go.RowKit
def fitsZ (z : Nat × Nat) : Bool := decide (z.1 ≤ 160) && decide (z.2 ≤ 4096)
/-- Kids gone through, as long as the size fits. -/
def addF : Nat × Nat → Fo → Nat → Nat × Nat
  | z, .nil, _ => z
  | z, .cons _ k r, d => if fitsZ z then addF (addF (max z.1 d, z.2 + 1) k (d + 1)) r d else z
def addN (z : Nat × Nat) (k : Fo) (d : Nat) : Nat × Nat := addF (max z.1 d, z.2 + 1) k (d + 1)
theorem addF_stop {z : Nat × Nat} (h : fitsZ z = false) : ∀ (F : Fo) (d : Nat), addF z F d = z
  | .nil, _ => rfl
  | .cons _ _ _, _ => by rw [addF, if_neg (by rw [h]; simp)]
theorem addF_ge : ∀ (F : Fo) (z : Nat × Nat) (d : Nat), z.1 ≤ (addF z F d).1
  | .nil, _, _ => Nat.le_refl _
  | .cons _ k r, z, d => by
    rw [addF]
    split
    · have h1 := addF_ge k (max z.1 d, z.2 + 1) (d + 1)
      have h2 := addF_ge r (addF (max z.1 d, z.2 + 1) k (d + 1)) d
      have h3 : z.1 ≤ max z.1 d := Nat.le_max_left _ _
      simp only at h1
      omega
    · exact Nat.le_refl _
theorem addF_bd : ∀ (F : Fo) (z : Nat × Nat) (d : Nat), z.1 ≤ 161 → z.2 ≤ 4097 → d ≤ z.1 + 1 → (addF z F d).1 ≤ 161 ∧ (addF z F d).2 ≤ 4097
  | .nil, _, _, h1, h2, _ => ⟨h1, h2⟩
  | .cons _ k r, z, d, h1, h2, h3 => by
    rw [addF]
    split
    · rename_i hf
      simp [fitsZ] at hf
      have m1 : max z.1 d ≤ 161 := by omega
      have a := addF_bd k (max z.1 d, z.2 + 1) (d + 1) m1 (by simp only; omega) (by simp only; omega)
      have g := addF_ge k (max z.1 d, z.2 + 1) (d + 1)
      simp only at g
      exact addF_bd r _ d a.1 a.2 (by omega)
    · exact ⟨h1, h2⟩
/-- A size in its block. -/
def Zed (w : World) (b : Nat) (z : Nat × Nat) : Prop := b < w.heap.size ∧ w.cell? ⟨b, 0, none⟩ = some (.int .i64 z.1) ∧ w.cell? ⟨b, 1, none⟩ = some (.int .i64 z.2) ∧ w.frozen? ⟨b, 0, none⟩ = false ∧ w.frozen? ⟨b, 1, none⟩ = false
theorem fits_any' (b : Nat) (z : Nat × Nat) (w : World) (h : Zed w b z) :
    Calls Tryz.prog 63 #[.pointer (some ⟨b, 0, none⟩)] w fun e w' => e = .returned (.bool (fitsZ z)) ∧ w' = w := by
  obtain ⟨h1, h2, h3, h4, h5⟩ := h
  obtain ⟨d, n⟩ := z
  simp only at *
  by_cases hd : d ≤ 160
  · have hd' : (d : Int) ≤ 160 := by omega
    go_enter Tryz.func63, Tryz.ntmps63
    go_wp2
    go_ret
    exact ⟨by simp [fitsZ, hd]; omega, rfl⟩
  · have hd' : ¬ (d : Int) ≤ 160 := by omega
    go_enter Tryz.func63, Tryz.ntmps63
    go_wp2
    go_ret
    exact ⟨by simp [fitsZ, hd], rfl⟩
/-- What a node is read from: the slice of its kids. -/
theorem row_kids {w : World} {D : Nat → Prop} {h : Hd} {k r : Fo} {b o : Nat} (hr : Row w D (.cons h k r) b o) : ∃ a n cap, w.cell? ⟨b, o + 15, none⟩ = some (.slice a n cap) ∧ n = k.len ∧ D b ∧ (k = .nil ∨ ∃ b' o', a = some ⟨b', o', none⟩ ∧ n ≤ cap ∧ cap ≤ maxLen ∧ Row w D k b' o') := by
  obtain ⟨h1, ⟨v, hv, a, n, cap, rfl, e2, e3⟩, _⟩ := hr
  exact ⟨a, n, cap, hv 15 (by omega), e2, h1, e3⟩
/-- The contract of add, for kids. -/
def AddC (zb : Nat) (k : Fo) : Prop :=
  ∀ (D : Nat → Prop), (∀ b, D b → b < zb) → ∀ (h : Hd) (b o : Nat) (w : World) (z : Nat × Nat) (d : Nat), Row w D (.cons h k .nil) b o → Zed w zb z → z.1 ≤ 160 → z.2 ≤ 4096 → d ≤ 161 →
    Calls Tryz.prog 62 #[.pointer (some ⟨zb, 0, none⟩), .pointer (some ⟨b, o, none⟩), .int .i64 (d : Int)] w fun e w' => e = .returned (.tuple #[]) ∧ Zed w' zb (addN z k d) ∧ Below zb w w' ∧ w'.heap.size = w.heap.size
def AddA (zb : Nat) : Fo → Prop
  | .nil => True
  | .cons _ k r => AddC zb k ∧ AddA zb r
theorem Zed.set {w : World} {b : Nat} {z : Nat × Nat} (h : Zed w b z) (d : Nat) : Zed (w.setCell ⟨b, 0, none⟩ (.int .i64 (d : Int))) b (d, z.2) := by
  obtain ⟨h1, h2, h3, h4, h5⟩ := h
  refine ⟨by simpa using h1, ?_, ?_, by rw [World.frozen?_setCell]; exact h4, by rw [World.frozen?_setCell]; exact h5⟩
  · rw [World.cell?_setCell_same _ _ _ (by rw [h2])]
  · rw [World.cell?_setCell_other _ _ _ _ (by intro e; have := congrArg Addr.off e; simp at this)]; exact h3
theorem Zed.set1 {w : World} {b : Nat} {z : Nat × Nat} (h : Zed w b z) (d : Nat) : Zed (w.setCell ⟨b, 1, none⟩ (.int .i64 (d : Int))) b (z.1, d) := by
  obtain ⟨h1, h2, h3, h4, h5⟩ := h
  refine ⟨by simpa using h1, ?_, ?_, by rw [World.frozen?_setCell]; exact h4, by rw [World.frozen?_setCell]; exact h5⟩
  · rw [World.cell?_setCell_other _ _ _ _ (by intro e; have := congrArg Addr.off e; simp at this)]; exact h2
  · rw [World.cell?_setCell_same _ _ _ (by rw [h3])]
set_option maxRecDepth 100000 in
set_option maxHeartbeats 2000000 in
theorem add_step (zb : Nat) (k : Fo) (hA : AddA zb k) : AddC zb k := by
  intro D hD h b o w z d hrow hz hz1 hz2 hd
  obtain ⟨a, n, cap, hc, hn, hDb, hk⟩ := row_kids hrow
  subst hn
  have HZ2 : Hid (Zed ((w.setCell ⟨zb, 0, none⟩ (.int .i64 ((max z.1 d : Nat) : Int))).setCell ⟨zb, 1, none⟩ (.int .i64 ((z.2 + 1 : Nat) : Int))) zb (max z.1 d, z.2 + 1)) := (hz.set (max z.1 d)).set1 (z.2 + 1)
  have hbz := hD b hDb
  have HB2 : Hid (Below zb w ((w.setCell ⟨zb, 0, none⟩ (.int .i64 ((max z.1 d : Nat) : Int))).setCell ⟨zb, 1, none⟩ (.int .i64 ((z.2 + 1 : Nat) : Int)))) := (((Below.refl zb w).setCell (p := ⟨zb, 0, none⟩) (Nat.le_refl _) _).setCell (p := ⟨zb, 1, none⟩) (Nat.le_refl _) _ : Below _ _ _)
  obtain ⟨g1, g2, g3, g4, g5⟩ := hz
  obtain ⟨z1, z2⟩ := z
  simp only at *
  have hmx : max (z1 : Int) (d : Int) = ((max z1 d : Nat) : Int) := by omega
  have hne : ¬ b = zb := by omega
  have HKi := hide hk
  have HA := hide hA
  have hm : max z1 d ≤ 161 := by omega
  have HM := hide hm
  have hdm : d ≤ max z1 d := Nat.le_max_right _ _
  have hg : addN (z1, z2) k d = addF (max z1 d, z2 + 1) k (d + 1) := rfl
  rw [hg]
  generalize max z1 d = m at *
  go_enter Tryz.func62, Tryz.ntmps62
  go_wp2
  go_loopw [28, 6] (fun u _ wr => ∃ (i : Nat) (F : Fo) (z : Nat × Nat), u = .int .i64 (i : Int) ∧ i + F.len = k.len ∧ (F = .nil ∨ ∃ b' o', a = some ⟨b', o', none⟩ ∧ k.len ≤ cap ∧ cap ≤ maxLen ∧ Row w D F b' (o' + i * 16)) ∧ AddA zb F ∧ Zed wr zb z ∧ Below zb w wr ∧ wr.heap.size = w.heap.size ∧ z.1 ≤ 161 ∧ z.2 ≤ 4097 ∧ d ≤ z.1 ∧ addF (m, z2 + 1) k (d + 1) = addF z F (d + 1)) (fun u _ _ => k.len - (intOf u).toNat)
  case atStart =>
    refine ⟨0, k, (m, z2 + 1), rfl, by omega, ?_, HA.out, HZ2.out, HB2.out, by simp, HM.out, by simp only; omega, hdm, rfl⟩
    rcases HKi.out with e | ⟨b', o', e1, e2, e3, e4⟩
    · exact .inl e
    · exact .inr ⟨b', o', e1, e2, e3, by simpa using e4⟩
  case round =>
    obtain ⟨i, F, z, rfl, hl, hF, hAF, hZ, hB, hsz, q1, q2, q3, hq⟩ := hrel
    have HQ := hide hq
    have HZ := hide hZ
    have HB := hide hB
    have hcb : wr.cell? ⟨b, o + 15, none⟩ = some (.slice a k.len cap) := by rw [hB.cell (p := ⟨b, o + 15, none⟩) hbz]; exact hc
    clear hq hB
    have HFi : Hid (∀ W : World, Zed W zb z → Calls Tryz.prog 63 #[.pointer (some ⟨zb, 0, none⟩)] W fun e w' => e = .returned (.bool (fitsZ z)) ∧ w' = W) := fun W hW => fits_any' zb z W hW
    match F, hl, hF, hAF, HQ with
    | .nil, hl, _, _, HQ =>
      have hli : ¬ (i : Int) < (k.len : Int) := by simp [Fo.len] at hl; omega
      go_wp2
      refine bodyPost_end (v := .tuple #[]) (by simp [results, Tryz.results62, go_sem]) rfl ⟨rfl, ?_, HB.out, hsz⟩
      rw [HQ.out]
      exact HZ.out
    | .cons h1 k1 r1, hl, hF, hAF, HQ =>
      have hli : (i : Int) < (k.len : Int) := by simp [Fo.len] at hl; omega
      have hl2 : i + 1 + r1.len = k.len := by simp [Fo.len] at hl; omega
      obtain ⟨b', o', rfl, hcap1, hcap2, hrw⟩ : ∃ b' o', a = some ⟨b', o', none⟩ ∧ k.len ≤ cap ∧ cap ≤ maxLen ∧ Row w D (.cons h1 k1 r1) b' (o' + i * 16) := by
        rcases hF with e | e
        · cases e
        · exact e
      have hrw' := hrw
      obtain ⟨p1, p2, p3⟩ := hrw
      have HR1 : Hid (Row wr D (.cons h1 k1 .nil) b' (o' + i * 16)) := row_to (fun c hc => ⟨hc, HB.out.block c (hD c hc)⟩) _ _ _ (show Row w D (.cons h1 k1 .nil) b' (o' + i * 16) from ⟨p1, p2, trivial⟩)
      have HR2 : Hid (Row w D r1 b' (o' + (i + 1) * 16)) := by rw [show o' + (i + 1) * 16 = o' + i * 16 + 16 by omega]; exact p3
      unfold maxLen at hcap2
      obtain ⟨hA1, hA2⟩ := hAF
      have HA2 := hide hA2
      have hwd : IntKind.i64.wrap ((d : Int) + 1) = ((d + 1 : Nat) : Int) := by rw [wrap_le (by omega) (by omega)]; omega
      clear p1 p2 p3 hrw' hF hl
      cases hf : fitsZ z with
      | false =>
        rw [hf] at HFi
        go_wp2_with (first | (go_at_call 63; refine (HFi.out _ HZ.out).mono ?_; rintro e wz ⟨rfl, hz⟩; subst wz))
        refine bodyPost_ret (v := .tuple #[]) (by simp [results, Tryz.results62, go_sem]) rfl ⟨rfl, ?_, HB.out, hsz⟩
        rw [HQ.out, addF_stop hf]
        exact HZ.out
      | true =>
        rw [hf] at HFi
        have hf2 := hf
        simp [fitsZ] at hf2
        have HC : Hid (∀ W : World, Row W D (.cons h1 k1 .nil) b' (o' + i * 16) → Zed W zb z → Calls Tryz.prog 62 #[.pointer (some ⟨zb, 0, none⟩), .pointer (some ⟨b', o' + i * 16, none⟩), .int .i64 ((d : Int) + 1)] W fun e w' => e = .returned (.tuple #[]) ∧ Zed w' zb (addN z k1 (d + 1)) ∧ Below zb W w' ∧ w'.heap.size = W.heap.size) := fun W hW hZW => by
          have := hA1 D hD h1 b' (o' + i * 16) W z (d + 1) hW hZW (by omega) (by omega) (by omega)
          simpa using this
        have HN : Hid (addF (m, z2 + 1) k (d + 1) = addF (addN z k1 (d + 1)) r1 (d + 1)) := by
          have := HQ.out
          rw [addF, if_pos hf] at this
          exact this
        have hbd := addF_bd k1 (max z.1 (d + 1), z.2 + 1) (d + 1 + 1) (by simp only; omega) (by simp only; omega) (by simp only; omega)
        have hge := addF_ge k1 (max z.1 (d + 1), z.2 + 1) (d + 1 + 1)
        have HBd : Hid ((addN z k1 (d + 1)).1 ≤ 161 ∧ (addN z k1 (d + 1)).2 ≤ 4097 ∧ d ≤ (addN z k1 (d + 1)).1) := ⟨hbd.1, hbd.2, by unfold addN; simp only at hge; omega⟩
        clear hA1 hf hbd hge HQ
        generalize addN z k1 (d + 1) = zn at *
        go_wp2_with (first | (go_at_call 63; refine (HFi.out _ HZ.out).mono ?_; rintro e wz ⟨rfl, hz⟩; subst wz) | (go_at_call 62; refine (HC.out _ HR1.out HZ.out).mono ?_; rintro e w2 ⟨rfl, hz2, hb2, hs2⟩; have HZ3 := hide hz2; have HB3 := hide hb2; clear hz2 hb2))
        go_roundw
        case rel => exact ⟨i + 1, r1, zn, by go_num, by omega, .inr ⟨b', o', rfl, hcap1, by unfold maxLen; exact hcap2, HR2.out⟩, HA2.out, HZ3.out, HB.out.trans HB3.out, by omega, HBd.out.1, HBd.out.2.1, HBd.out.2.2, HN.out⟩
        case measure => simp [intOf]; omega
theorem add_all (zb : Nat) : ∀ (F : Fo), AddA zb F
  | .nil => trivial
  | .cons _ k r => ⟨add_step zb k (add_all zb k), add_all zb r⟩
/-- How deep the deepest of some nodes is, the first ones being so deep. -/
def top : Fo → Nat → Nat
  | .nil, _ => 0
  | .cons _ k r, d => max (max d (top k (d + 1))) (top r d)
theorem top_deep : ∀ (F : Fo) (d : Nat), max d (top F (d + 1)) = d + F.deep
  | .nil, d => by simp [top, Fo.deep]
  | .cons _ k r, d => by
    have h1 := top_deep k (d + 1)
    have h2 := top_deep r d
    rw [top, Fo.deep]
    omega
theorem addF_all : ∀ (F : Fo) (z : Nat × Nat) (d : Nat), z.1 ≤ 160 → top F d ≤ 160 → z.2 + F.many ≤ 4096 → addF z F d = (max z.1 (top F d), z.2 + F.many)
  | .nil, z, _, _, _, _ => by simp [addF, top, Fo.many]
  | .cons _ k r, z, d, h1, h2, h3 => by
    rw [top] at h2
    rw [Fo.many] at h3
    rw [addF, if_pos (by simp [fitsZ]; omega), addF_all k (max z.1 d, z.2 + 1) (d + 1) (by simp only; omega) (by omega) (by simp only; omega)]
    rw [addF_all r _ d (by simp only; omega) (by omega) (by simp only; omega), top, Fo.many]
    simp only
    refine Prod.ext ?_ ?_
    · simp only; omega
    · simp only; omega
theorem addF_over : ∀ (F : Fo) (z : Nat × Nat) (d : Nat), 160 < top F d → z.2 + F.many ≤ 4096 → 160 < (addF z F d).1
  | .nil, _, _, h, _ => by simp [top] at h
  | .cons _ k r, z, d, h, h3 => by
    by_cases hz : z.1 ≤ 160
    · rw [top] at h
      rw [Fo.many] at h3
      rw [addF, if_pos (by simp [fitsZ]; omega)]
      have g := addF_ge k (max z.1 d, z.2 + 1) (d + 1)
      have g2 := addF_ge r (addF (max z.1 d, z.2 + 1) k (d + 1)) d
      simp only at g
      by_cases hd : 160 < d
      · omega
      · by_cases hk : 160 < top k (d + 1)
        · have := addF_over k (max z.1 d, z.2 + 1) (d + 1) hk (by simp only; omega)
          omega
        · rw [addF_all k (max z.1 d, z.2 + 1) (d + 1) (by simp only; omega) (by omega) (by simp only; omega)]
          exact addF_over r _ d (by omega) (by simp only; omega)
    · have := addF_ge (.cons ‹_› k r) z d
      omega
theorem add_fits {k : Fo} (h : k.many + 1 ≤ 4096) (hd : k.deep + 1 ≤ 160) : addN (0, 0) k 1 = (k.deep + 1, k.many + 1) := by
  have ht := top_deep k 1
  unfold addN
  rw [addF_all k _ 2 (by simp) (by simp only [Nat.reduceAdd] at ht; omega) (by simp only; omega)]
  simp only [Nat.reduceAdd] at ht ⊢
  refine Prod.ext ?_ ?_
  · simp only; omega
  · simp only; omega
theorem add_over {k : Fo} (h : k.many + 1 ≤ 4096) (hd : 160 < k.deep + 1) : 160 < (addN (0, 0) k 1).1 := by
  have ht := top_deep k 1
  unfold addN
  exact addF_over k _ 2 (by simp only [Nat.reduceAdd] at ht; omega) (by simp only; omega)
set_option maxHeartbeats 1000000 in
theorem measure_any (D : Nat → Prop) (h : Hd) (k : Fo) (b o : Nat) (w : World) (hD : ∀ c, D c → c < w.heap.size) (hr : Row w D (.cons h k .nil) b o) (hm : k.many + 1 ≤ 4096) :
    Calls Tryz.prog 40 #[.pointer (some ⟨b, o, none⟩)] w fun e w' => e = .returned (.tuple #[.int .i64 ((if k.deep + 1 ≤ 160 then k.deep + 1 else 0 : Nat) : Int), .int .i64 ((if k.deep + 1 ≤ 160 then 0 else 6 : Nat) : Int)]) ∧ Below w.heap.size w w' := by
  have HA : Hid (∀ W : World, Row W D (.cons h k .nil) b o → Zed W w.heap.size (0, 0) → Calls Tryz.prog 62 #[.pointer (some ⟨w.heap.size, 0, none⟩), .pointer (some ⟨b, o, none⟩), .int .i64 1] W fun e w' => e = .returned (.tuple #[]) ∧ Zed w' w.heap.size (addN (0, 0) k 1) ∧ Below w.heap.size W w' ∧ w'.heap.size = W.heap.size) := fun W hW hZ => add_step w.heap.size k (add_all _ k) D hD h b o W (0, 0) 1 hW hZ (by simp) (by simp) (by omega)
  have HR : Hid (∀ o', Row (w.alloc o') D (.cons h k .nil) b o) := fun o' => row_to (fun c hc => ⟨hc, Below.heap_alloc _ _ _ (hD c hc)⟩) _ _ _ hr
  have HZ : Hid (Zed (w.alloc (.cells #[.int .i64 0, .int .i64 0] 132)) w.heap.size (0, 0)) := ⟨by simp, by simp [go_sem], by simp [go_sem], by simp [go_sem], by simp [go_sem]⟩
  have HFi : Hid (∀ W : World, ∀ z, Zed W w.heap.size z → Calls Tryz.prog 63 #[.pointer (some ⟨w.heap.size, 0, none⟩)] W fun e w' => e = .returned (.bool (fitsZ z)) ∧ w' = W) := fun W z hW => fits_any' _ z W hW
  by_cases hd : k.deep + 1 ≤ 160
  · rw [if_pos hd, if_pos hd]
    rw [add_fits hm hd] at HA
    have hfz : fitsZ (k.deep + 1, k.many + 1) = true := by simp [fitsZ]; omega
    have HF2 : Hid (∀ W : World, Zed W w.heap.size (k.deep + 1, k.many + 1) → Calls Tryz.prog 63 #[.pointer (some ⟨w.heap.size, 0, none⟩)] W fun e w' => e = .returned (.bool true) ∧ w' = W) := fun W hW => by
      have := HFi.out W _ hW
      rw [hfz] at this
      exact this
    clear hr hm HFi hfz
    generalize k.deep + 1 = dd at *
    generalize k.many + 1 = mm at *
    go_enter Tryz.func40, Tryz.ntmps40
    go_wp2_with (first | (go_at_call 62; refine (HA.out _ (HR.out _) HZ.out).mono ?_; rintro e w2 ⟨rfl, hz2, hb2, hs2⟩; have HZ2 := hide hz2; have HB2 := hide hb2; obtain ⟨y1, y2, y3, y4, y5⟩ := hz2; clear hb2) | (go_at_call 63; refine (HF2.out _ HZ2.out).mono ?_; rintro e wz ⟨rfl, hz⟩; subst wz))
    go_ret2
    exact ⟨rfl, ((Below.refl _ _).alloc (Nat.le_refl _) _).trans HB2.out⟩
  · rw [if_neg hd, if_neg hd]
    have ho := add_over hm (by omega : 160 < k.deep + 1)
    generalize addN (0, 0) k 1 = z at *
    have hfz : fitsZ z = false := by simp [fitsZ]; omega
    have HF2 : Hid (∀ W : World, Zed W w.heap.size z → Calls Tryz.prog 63 #[.pointer (some ⟨w.heap.size, 0, none⟩)] W fun e w' => e = .returned (.bool false) ∧ w' = W) := fun W hW => by
      have := HFi.out W _ hW
      rw [hfz] at this
      exact this
    obtain ⟨za, zc⟩ := z
    have hgt : (160 : Int) < (za : Int) := by simp only at ho; omega
    clear hr hm HFi hfz ho hd
    go_enter Tryz.func40, Tryz.ntmps40
    go_wp2_with (first | (go_at_call 62; refine (HA.out _ (HR.out _) HZ.out).mono ?_; rintro e w2 ⟨rfl, hz2, hb2, hs2⟩; have HZ2 := hide hz2; have HB2 := hide hb2; obtain ⟨y1, y2, y3, y4, y5⟩ := hz2; clear hb2) | (go_at_call 63; refine (HF2.out _ HZ2.out).mono ?_; rintro e wz ⟨rfl, hz⟩; subst wz))
    go_ret2
    exact ⟨rfl, ((Below.refl _ _).alloc (Nat.le_refl _) _).trans HB2.out⟩
end
end Go.Proofs.YtklldmidcmfbdaaGreatDoor
