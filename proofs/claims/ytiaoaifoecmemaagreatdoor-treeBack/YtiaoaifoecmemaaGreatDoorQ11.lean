/-
  Plain words: the reader does not look at where tokens stand; what is behind a node does not matter, if nothing binds there.
  Plain words: blanks and brackets about a formula change nothing of what is read.
  Plain words: the token that a token's own text begins with, by what stands behind it.
  Plain words: a right node's text is read as the node.
-/
import Derived.Test.YtiaoaifoecmemaaGreatDoorQ5
namespace Go.Proofs.YtiaoaifoecmemaaGreatDoor
open Go.RowKit

/-- Tokens without their places. -/
def bares (l : List Tok) : List Tok := l.map fun t => t.put 0
def Rs.bare : Rs → Rs
  | .ok h k r => .ok h k (bares r)
  | .bad r => .bad (bares r)
theorem hd_bare (l : List Tok) : hd (bares l) = (hd l).put 0 := by cases l <;> rfl
theorem tail_bare (l : List Tok) : (bares l).tail = bares l.tail := by cases l <;> rfl
theorem at_bare (l : List Tok) (s : List UInt8) : atB (bares l) s = atB l s := by
  unfold atB; rw [hd_bare]; rfl
theorem go_bare : ∀ (f : Nat) (c : Cmd) (l : List Tok), go f c (bares l) = (go f c l).bare
  | 0, _, _ => by simp [go, Rs.bare]
  | f + 1, .form m, l => by
    rw [go, go, go_bare f .single l]
    cases go f .single l with
    | bad r => rfl
    | ok h k r => exact go_bare f (.loop m h k) r
  | f + 1, .loop m h k, l => by
    rw [go, go, hd_bare, tail_bare, show ((hd l).put 0).txt = (hd l).txt from rfl, go_bare f (.form _) l.tail]
    by_cases hb : bindN (hd l).txt < m
    · rw [if_pos hb, if_pos hb]; rfl
    · rw [if_neg hb, if_neg hb]
      cases go f (.form (bindN (hd l).txt + 1)) l.tail with
      | bad r => rfl
      | ok h' k' r => exact go_bare f _ r
  | f + 1, .single, l => by
    rw [go, go]
    simp only [hd_bare, tail_bare, at_bare]
    rw [go_bare f (.kids .nil) l.tail.tail, go_bare f .single l.tail, go_bare f (.form 1) l.tail]
    show (if (hd l).kind = 1 then Rs.ok (valH (hd l)) .nil (bares l.tail) else if (hd l).kind = 2 then (if atB l.tail [58] then (if (hd l.tail.tail).kind = 2 then Rs.ok (rangeH (hd l) (hd l.tail.tail)) .nil (bares l.tail.tail.tail) else .bad (bares l.tail.tail)) else .ok (cellH (hd l)) .nil (bares l.tail)) else if (hd l).kind = 3 then _ else _) = _
    split
    · rfl
    · split
      · split
        · split <;> rfl
        · rfl
      · split
        · split
          · split
            · rfl
            · cases go f (.kids .nil) l.tail.tail with
              | bad r => rfl
              | ok h k r =>
                simp only [Rs.bare, at_bare, tail_bare]
                split <;> rfl
          · rfl
        · split
          · cases go f .single l.tail <;> rfl
          · split
            · cases go f (.form 1) l.tail with
              | bad r => rfl
              | ok h k r =>
                simp only [Rs.bare, at_bare, tail_bare]
                split <;> rfl
            · rfl
  | f + 1, .kids acc, l => by
    rw [go, go, go_bare f (.form 1) l]
    cases go f (.form 1) l with
    | bad r => rfl
    | ok h k r =>
      simp only [Rs.bare, at_bare, tail_bare]
      split
      · exact go_bare f (.kids (acc.snoc h k)) r.tail
      · rfl
theorem bare_len (l : List Tok) : (bares l).length = l.length := by simp [bares]
theorem need_bare (c : Cmd) (l : List Tok) : need c (bares l) = need c l := by cases c <;> simp [need, bare_len]
theorem rd_bare (c : Cmd) (l : List Tok) : rd c (bares l) = (rd c l).bare := by
  unfold rd; rw [need_bare, go_bare]
/-- What bare tokens are read as, these are, too. -/
theorem rd_of_bare {c : Cmd} {l : List Tok} {h : Hd} {k : Fo} {r : List Tok} (e : rd c (bares l) = .ok h k r) : ∃ r', rd c l = .ok h k r' ∧ bares r' = r := by
  rw [rd_bare] at e
  cases hx : rd c l with
  | bad r' => rw [hx] at e; cases e
  | ok h' k' r' =>
    rw [hx] at e
    simp only [Rs.bare] at e
    cases e
    exact ⟨r', rfl, rfl⟩

/-- Tokens that end as a formula may end: nothing there goes on. -/
def Shuts (x : List Tok) : Prop := bindN (hd x).txt = 0 ∧ (hd x).kind ≠ 1 ∧ (hd x).kind ≠ 2 ∧ (hd x).kind ≠ 3 ∧ atB x [45] = false ∧ atB x [40] = false ∧ atB x [58] = false ∧ atB x [44] = false
theorem hd_app {l : List Tok} (h : l ≠ []) (x : List Tok) : hd (l ++ x) = hd l := by
  cases l with
  | nil => exact absurd rfl h
  | cons a l => rfl
theorem at_app {l : List Tok} (h : l ≠ []) (x : List Tok) (s : List UInt8) : atB (l ++ x) s = atB l s := by
  unfold atB; rw [hd_app h]
theorem tail_app {l : List Tok} (h : l ≠ []) (x : List Tok) : (l ++ x).tail = l.tail ++ x := by
  cases l with
  | nil => exact absurd rfl h
  | cons a l => rfl
/-- At the end nothing is read. -/
theorem at_end {e : Tok} (he : e.kind = 0) (s : List UInt8) (r : List Tok) : atB (e :: r) s = false := by simp [atB, hd, he]
theorem single_end {e : Tok} (he : e.kind = 0) (f : Nat) : ∃ r, go f .single [e] = .bad r := by
  cases f with
  | zero => exact ⟨_, by rw [go]⟩
  | succ f =>
    refine ⟨[e], ?_⟩
    rw [go, show hd [e] = e from rfl, at_end he, at_end he, if_neg (by omega), if_neg (by omega), if_neg (by omega)]
    simp
theorem form_end {e : Tok} (he : e.kind = 0) (f m : Nat) : ∃ r, go f (.form m) [e] = .bad r := by
  cases f with
  | zero => exact ⟨_, by rw [go]⟩
  | succ f =>
    obtain ⟨r, hr⟩ := single_end he f
    exact ⟨r, by rw [go, hr]⟩
theorem kids_end {e : Tok} (he : e.kind = 0) (f : Nat) (a : Fo) : ∃ r, go f (.kids a) [e] = .bad r := by
  cases f with
  | zero => exact ⟨_, by rw [go]⟩
  | succ f =>
    obtain ⟨r, hr⟩ := form_end he f 1
    exact ⟨r, by rw [go, hr]⟩
theorem at_yes {l : List Tok} {e : Tok} (he : e.kind = 0) {s : List UInt8} (h : atB (l ++ [e]) s = true) (x : List Tok) : l ≠ [] ∧ atB (l ++ x) s = true := by
  cases l with
  | nil => rw [List.nil_append, at_end he] at h; cases h
  | cons a l => exact ⟨by simp, h⟩
theorem at_no {l : List Tok} {e : Tok} {s : List UInt8} (h : atB (l ++ [e]) s = false) {x : List Tok} (hx : atB x s = false) : atB (l ++ x) s = false := by
  cases l with
  | nil => exact hx
  | cons a l => exact h
/-- What is read ahead of the end is read ahead of whatever else shuts. -/
theorem go_swap {e : Tok} (he : e.kind = 0) (ht : e.txt = []) {x : List Tok} (hx : Shuts x) : ∀ (f : Nat) (c : Cmd) (l : List Tok), fine c → ∀ h k r', go f c (l ++ [e]) = .ok h k r' → ∃ r, r' = r ++ [e] ∧ go f c (l ++ x) = .ok h k (r ++ x)
  | 0, _, _, _, _, _, _, e1 => by rw [go] at e1; cases e1
  | f + 1, .form m, l, hm, h, k, r', e1 => by
    rw [go] at e1
    cases e2 : go f .single (l ++ [e]) with
    | bad r => rw [e2] at e1; cases e1
    | ok h1 k1 r1 =>
      rw [e2] at e1
      obtain ⟨r2, rfl, e3⟩ := go_swap he ht hx f .single l trivial _ _ _ e2
      obtain ⟨r3, rfl, e4⟩ := go_swap he ht hx f (.loop m h1 k1) r2 hm _ _ _ e1
      exact ⟨r3, rfl, by rw [go, e3]; exact e4⟩
  | f + 1, .loop m h0 k0, l, hm, h, k, r', e1 => by
    simp only [fine] at hm
    rw [go] at e1
    cases l with
    | nil =>
      rw [List.nil_append, show hd [e] = e from rfl, ht, bind_nil, if_pos (by omega)] at e1
      cases e1
      exact ⟨[], rfl, by rw [go, List.nil_append, hx.1, if_pos (by omega)]⟩
    | cons a l =>
      have hd1 : ∀ y, hd (a :: l ++ y) = a := fun _ => rfl
      rw [hd1] at e1
      by_cases hb : bindN a.txt < m
      · rw [if_pos hb] at e1
        cases e1
        exact ⟨a :: l, rfl, by rw [go, hd1, if_pos hb]⟩
      · rw [if_neg hb, show (a :: l ++ [e]).tail = l ++ [e] from rfl] at e1
        cases e2 : go f (.form (bindN a.txt + 1)) (l ++ [e]) with
        | bad r => rw [e2] at e1; cases e1
        | ok h1 k1 r1 =>
          rw [e2] at e1
          obtain ⟨r2, rfl, e3⟩ := go_swap he ht hx f (.form (bindN a.txt + 1)) l (by simp [fine]) _ _ _ e2
          obtain ⟨r3, rfl, e4⟩ := go_swap he ht hx f _ r2 (by simpa [fine] using hm) _ _ _ e1
          exact ⟨r3, rfl, by rw [go, hd1, if_neg hb, show (a :: l ++ x).tail = l ++ x from rfl, e3]; exact e4⟩
  | f + 1, .single, [], hm, h, k, r', e1 => by
    obtain ⟨r, hr⟩ := single_end he (f + 1)
    rw [List.nil_append, hr] at e1; cases e1
  | f + 1, .single, a :: l, hm, h, k, r', e1 => by
    have hd1 : ∀ y, hd (a :: l ++ y) = a := fun _ => rfl
    have tl1 : ∀ y, (a :: l ++ y).tail = l ++ y := fun _ => rfl
    have at1 : ∀ y s, atB (a :: l ++ y) s = atB [a] s := fun _ _ => rfl
    rw [go] at e1
    simp only [hd1, tl1, at1] at e1
    rw [go]
    simp only [hd1, tl1, at1]
    by_cases k1 : a.kind = 1
    · rw [if_pos k1] at e1 ⊢
      cases e1
      exact ⟨l, rfl, rfl⟩
    rw [if_neg k1] at e1 ⊢
    by_cases k2 : a.kind = 2
    · rw [if_pos k2] at e1 ⊢
      cases h58 : atB (l ++ [e]) [58] with
      | true =>
        obtain ⟨hl, h58'⟩ := at_yes he h58 x
        rw [h58, if_pos rfl, tail_app hl] at e1
        rw [h58', if_pos rfl, tail_app hl]
        cases hl2 : l.tail with
        | nil => rw [hl2, List.nil_append, show hd [e] = e from rfl, if_neg (by omega)] at e1; cases e1
        | cons b l2 =>
          rw [hl2] at e1
          rw [show hd (b :: l2 ++ [e]) = b from rfl] at e1
          rw [show hd (b :: l2 ++ x) = b from rfl]
          by_cases k3 : b.kind = 2
          · rw [if_pos k3] at e1 ⊢
            cases e1
            exact ⟨l2, rfl, rfl⟩
          · rw [if_neg k3] at e1; cases e1
      | false =>
        rw [h58, if_neg (by simp)] at e1
        rw [at_no h58 hx.2.2.2.2.2.2.1, if_neg (by simp)]
        cases e1
        exact ⟨l, rfl, rfl⟩
    rw [if_neg k2] at e1 ⊢
    by_cases k3 : a.kind = 3
    · rw [if_pos k3] at e1 ⊢
      cases h40 : atB (l ++ [e]) [40] with
      | false => rw [h40, if_neg (by simp)] at e1; cases e1
      | true =>
        obtain ⟨hl, h40'⟩ := at_yes he h40 x
        rw [h40, if_pos rfl, tail_app hl] at e1
        rw [h40', if_pos rfl, tail_app hl]
        cases hl2 : l.tail with
        | nil =>
          rw [hl2, List.nil_append, at_end he, if_neg (by simp)] at e1
          obtain ⟨r, hr⟩ := kids_end he f .nil
          rw [hr] at e1; cases e1
        | cons b l2 =>
          rw [hl2] at e1
          have at2 : ∀ y s, atB (b :: l2 ++ y) s = atB [b] s := fun _ _ => rfl
          rw [at2] at e1 ⊢
          by_cases h41 : atB [b] [41] = true
          · rw [if_pos h41] at e1 ⊢
            cases e1
            exact ⟨l2, rfl, rfl⟩
          · rw [if_neg h41] at e1 ⊢
            cases e2 : go f (.kids .nil) (b :: l2 ++ [e]) with
            | bad r => rw [e2] at e1; cases e1
            | ok h1 k1 r1 =>
              rw [e2] at e1
              obtain ⟨r2, rfl, e3⟩ := go_swap he ht hx f (.kids .nil) (b :: l2) trivial _ _ _ e2
              rw [e3]
              simp only at e1 ⊢
              cases h42 : atB (r2 ++ [e]) [41] with
              | false => rw [h42, if_neg (by simp)] at e1; cases e1
              | true =>
                obtain ⟨hr2, h43⟩ := at_yes he h42 x
                rw [h42, if_pos rfl, tail_app hr2] at e1
                cases e1
                exact ⟨r2.tail, rfl, by rw [h43, if_pos rfl, tail_app hr2]⟩
    rw [if_neg k3] at e1 ⊢
    by_cases h45 : atB [a] [45] = true
    · rw [if_pos h45] at e1 ⊢
      cases e2 : go f .single (l ++ [e]) with
      | bad r => rw [e2] at e1; cases e1
      | ok h1 k1 r1 =>
        rw [e2] at e1
        obtain ⟨r2, rfl, e3⟩ := go_swap he ht hx f .single l trivial _ _ _ e2
        cases e1
        exact ⟨r2, rfl, by rw [e3]⟩
    rw [if_neg h45] at e1 ⊢
    by_cases h40 : atB [a] [40] = true
    · rw [if_pos h40] at e1 ⊢
      cases e2 : go f (.form 1) (l ++ [e]) with
      | bad r => rw [e2] at e1; cases e1
      | ok h1 k1 r1 =>
        rw [e2] at e1
        obtain ⟨r2, rfl, e3⟩ := go_swap he ht hx f (.form 1) l (by simp [fine]) _ _ _ e2
        rw [e3]
        simp only at e1 ⊢
        cases h42 : atB (r2 ++ [e]) [41] with
        | false => rw [h42, if_neg (by simp)] at e1; cases e1
        | true =>
          obtain ⟨hr2, h43⟩ := at_yes he h42 x
          rw [h42, if_pos rfl, tail_app hr2] at e1
          cases e1
          exact ⟨r2.tail, rfl, by rw [h43, if_pos rfl, tail_app hr2]⟩
    · rw [if_neg h40] at e1; cases e1
  | f + 1, .kids acc, l, hm, h, k, r', e1 => by
    rw [go] at e1
    cases e2 : go f (.form 1) (l ++ [e]) with
    | bad r => rw [e2] at e1; cases e1
    | ok h1 k1 r1 =>
      rw [e2] at e1
      obtain ⟨r2, rfl, e3⟩ := go_swap he ht hx f (.form 1) l (by simp [fine]) _ _ _ e2
      rw [go, e3]
      simp only at e1 ⊢
      cases h44 : atB (r2 ++ [e]) [44] with
      | true =>
        obtain ⟨hr2, h45⟩ := at_yes he h44 x
        rw [h44, if_pos rfl, tail_app hr2] at e1
        rw [h45, if_pos rfl, tail_app hr2]
        exact go_swap he ht hx f (.kids (acc.snoc h1 k1)) r2.tail trivial _ _ _ e1
      | false =>
        rw [h44, if_neg (by simp)] at e1
        cases e1
        exact ⟨r2, rfl, by rw [at_no h44 hx.2.2.2.2.2.2.2, if_neg (by simp)]⟩
theorem rd_swap {e : Tok} (he : e.kind = 0) (ht : e.txt = []) {x : List Tok} (hx : Shuts x) {c : Cmd} (hc : fine c) {l : List Tok} {h : Hd} {k : Fo} {r' : List Tok} (e1 : rd c (l ++ [e]) = .ok h k r') : ∃ r, r' = r ++ [e] ∧ rd c (l ++ x) = .ok h k (r ++ x) := by
  have h1 : go (need c (l ++ [e]) + need c (l ++ x)) c (l ++ [e]) = .ok h k r' := by rw [rd_of hc (by omega)]; exact e1
  obtain ⟨r, e2, e3⟩ := go_swap he ht hx _ c l hc _ _ _ h1
  exact ⟨r, e2, by rw [← e3]; exact (rd_of hc (by omega)).symm⟩
end Go.Proofs.YtiaoaifoecmemaaGreatDoor
namespace Go.Proofs.YtiaoaifoecmemaaGreatDoor
open Go.RowKit

/-- What is left is a tail of what was. -/
theorem go_suffix : ∀ (f : Nat) (c : Cmd) (l : List Tok) (h : Hd) (k : Fo) (r : List Tok), go f c l = .ok h k r → r <:+ l
  | 0, _, _, _, _, _, e => by rw [go] at e; cases e
  | f + 1, .form m, l, h, k, r, e => by
    rw [go] at e
    cases e1 : go f .single l with
    | bad r => rw [e1] at e; cases e
    | ok h1 k1 r1 =>
      rw [e1] at e
      exact (go_suffix f (.loop m h1 k1) r1 _ _ _ e).trans (go_suffix f .single l _ _ _ e1)
  | f + 1, .loop m h0 k0, l, h, k, r, e => by
    rw [go] at e
    split at e
    · cases e; exact List.suffix_refl _
    · cases e1 : go f (.form (bindN (hd l).txt + 1)) l.tail with
      | bad r => rw [e1] at e; cases e
      | ok h1 k1 r1 =>
        rw [e1] at e
        exact (go_suffix f _ r1 _ _ _ e).trans ((go_suffix f _ l.tail _ _ _ e1).trans (List.tail_suffix _))
  | f + 1, .single, l, h, k, r, e => by
    have t1 : l.tail <:+ l := List.tail_suffix _
    have t2 : l.tail.tail <:+ l := (List.tail_suffix _).trans t1
    have t3 : l.tail.tail.tail <:+ l := (List.tail_suffix _).trans t2
    rw [go] at e
    split at e
    · cases e; exact t1
    · split at e
      · split at e
        · split at e
          · cases e; exact t3
          · cases e
        · cases e; exact t1
      · split at e
        · split at e
          · split at e
            · cases e; exact t3
            · cases e1 : go f (.kids .nil) l.tail.tail with
              | bad r => rw [e1] at e; cases e
              | ok h1 k1 r1 =>
                rw [e1] at e
                simp only at e
                split at e
                · cases e; exact (List.tail_suffix _).trans ((go_suffix f _ _ _ _ _ e1).trans t2)
                · cases e
          · cases e
        · split at e
          · cases e1 : go f .single l.tail with
            | bad r => rw [e1] at e; cases e
            | ok h1 k1 r1 =>
              rw [e1] at e
              cases e; exact (go_suffix f _ _ _ _ _ e1).trans t1
          · split at e
            · cases e1 : go f (.form 1) l.tail with
              | bad r => rw [e1] at e; cases e
              | ok h1 k1 r1 =>
                rw [e1] at e
                simp only at e
                split at e
                · cases e; exact (List.tail_suffix _).trans ((go_suffix f _ _ _ _ _ e1).trans t1)
                · cases e
            · cases e
  | f + 1, .kids acc, l, h, k, r, e => by
    rw [go] at e
    cases e1 : go f (.form 1) l with
    | bad r => rw [e1] at e; cases e
    | ok h1 k1 r1 =>
      rw [e1] at e
      simp only at e
      split at e
      · exact (go_suffix f _ _ _ _ _ e).trans ((List.tail_suffix _).trans (go_suffix f _ _ _ _ _ e1))
      · cases e; exact go_suffix f _ _ _ _ _ e1
theorem shuts_close (r : List Tok) : Shuts (opTok [41] :: r) := ⟨by show bindN [41] = 0; decide, by show (4 : Int) ≠ 1; decide, by show (4 : Int) ≠ 2; decide, by show (4 : Int) ≠ 3; decide, rfl, rfl, rfl, rfl⟩
/-- Of a text's tokens only the last one is the end. -/
theorem run_kinds : ∀ (f p : Nat) (l : List UInt8), ∀ x ∈ (runG f p l).dropLast, x.1.kind ≠ 0
  | 0, _, _, x, h => by simp [runG] at h
  | f + 1, p, l, x, h => by
    rw [run_step f p l _ rfl _ rfl] at h
    by_cases h0 : (firstT (l.drop (runN blankB l))).1.kind = 0
    · rw [if_pos h0] at h; simp at h
    · rw [if_neg h0] at h
      cases hr : runG f (p + runN blankB l + (firstT (l.drop (runN blankB l))).2.1) ((l.drop (runN blankB l)).drop (firstT (l.drop (runN blankB l))).2.1) with
      | nil => rw [hr] at h; simp at h
      | cons y ys =>
        rw [hr, List.dropLast_cons_of_ne_nil (by simp), ← hr] at h
        rcases List.mem_cons.1 h with e | e
        · rw [e]; exact h0
        · exact run_kinds f _ _ x e
/-- A text is read as a node. -/
def Reads (t : List UInt8) (h : Hd) (k : Fo) : Prop := (∀ x ∈ allG t, x.2 = 0) ∧ ∃ i, bares ((allG t).map fun x => x.1) = i ++ [zt] ∧ rd (.form 1) (i ++ [zt]) = .ok h k [zt]
theorem parse_of_reads {t : List UInt8} {h : Hd} {k : Fo} (e : Reads t h k) (hl : t.length ≤ 1024) (hd1 : k.deep + 1 ≤ 40) : parseN t = .ok h k := by
  obtain ⟨h1, i, h2, h3⟩ := e
  unfold parseN
  rw [scan_of hl h1, if_neg (by simp)]
  simp only
  rw [← h2] at h3
  obtain ⟨r', e1, e2⟩ := rd_of_bare h3
  rw [e1, endR]
  have hk : (hd r').kind = 0 := by
    have := hd_bare r'
    rw [e2] at this
    exact (congrArg Tok.kind this).symm
  rw [if_neg (by omega), if_neg (by omega)]
theorem all_split {t : List UInt8} (h : ∀ x ∈ allG t, x.2 = 0) : ∃ p : Int, allG t = (allG t).dropLast ++ [(zt.put p, 0)] := by
  have he := run_end t.length (t.length + 1) 0 t (Nat.le_refl _) (by omega) h
  refine ⟨((0 + t.length : Nat) : Int), ?_⟩
  obtain ⟨i, hi⟩ := List.getLast?_eq_some_iff.1 he
  show runG (t.length + 1) 0 t = (runG (t.length + 1) 0 t).dropLast ++ _
  rw [hi]; simp
theorem reads_of_parse {t : List UInt8} {h : Hd} {k : Fo} (e : parseN t = .ok h k) : Reads t h k := by
  unfold parseN at e
  split at e
  · cases e
  · rename_i h0
    have h0' : (scanR t).2.2 = 0 := by simpa using h0
    obtain ⟨hl, h1, h2⟩ := scan_zero h0'
    cases hr : rd (.form 1) (scanR t).1 with
    | bad r => rw [hr] at e; cases e
    | ok h' k' r =>
      rw [hr] at e
      unfold endR at e
      simp only at e
      split at e
      · cases e
      · rename_i hk
        split at e
        · cases e
        · cases e
          obtain ⟨p, hp⟩ := all_split h1
          have hi : bares ((allG t).map fun x => x.1) = bares ((allG t).dropLast.map fun x => x.1) ++ [zt] := by
            rw [hp]; simp [bares]; rfl
          refine ⟨h1, _, hi, ?_⟩
          rw [h2] at hr
          have h3 := rd_bare (.form 1) ((allG t).map fun x => x.1)
          rw [hr] at h3
          simp only [Rs.bare] at h3
          rw [hi] at h3
          rw [h3]
          obtain ⟨r2, e2, _⟩ := rd_swap (e := zt) rfl rfl (shuts_close []) (by simp [fine]) h3
          have hs := go_suffix _ _ _ _ _ _ h3
          cases r2 with
          | nil => rw [e2]; rfl
          | cons a r2 =>
            exfalso
            rw [e2] at hs
            have hs2 : (a :: r2) <:+ bares ((allG t).dropLast.map fun x => x.1) := by
              obtain ⟨z, hz⟩ := hs
              refine ⟨z, ?_⟩
              rw [← List.append_assoc] at hz
              exact List.append_cancel_right hz
            have hm : a ∈ bares ((allG t).dropLast.map fun x => x.1) := hs2.subset (List.mem_cons_self ..)
            simp only [bares, List.mem_map] at hm
            obtain ⟨y, ⟨x, hx, rfl⟩, rfl⟩ := hm
            have hx2 := run_kinds _ _ _ x hx
            have hz : hd (bares r) = x.1.put 0 := by rw [e2]; rfl
            rw [hd_bare] at hz
            have hz2 := congrArg Tok.kind hz
            simp only [Tok.put] at hz2
            have hk' : (hd r).kind = 0 := by simpa using hk
            omega
theorem first_close (r : List UInt8) : firstT (41 :: r) = (opTok [41], 1, 0) := by
  have hd : isDig 41 = false := by decide
  have hl : letterB 41 = false := by decide
  have he : firstT (41 :: r) = if isDig 41 then numberT (41 :: r) else if (41 : UInt8).toNat = 34 then textT (41 :: r) else if (41 : UInt8).toNat = 35 then faultT (41 :: r) else if letterB 41 || decide ((41 : UInt8).toNat = 36) then wordT (41 :: r) else signT (41 :: r) := rfl
  rw [he, if_neg (by simp [hd]), if_neg (by decide), if_neg (by decide), if_neg (by simp [hl])]
  have hp : pick signL (41 :: r) 0 15 = some 12 := by
    simp [pick, Lib.hasPrefix, List.isPrefixOf, signL, signs]
  unfold signT
  rw [hp]; rfl
theorem run_close (f p : Nat) : runG (f + 2) p [41] = [((opTok [41]).put p, 0), (zt.put ((p + 1 : Nat) : Int), 0)] := by
  rw [run_more (b := 0) rfl (first_close []) (by decide)]
  rw [show ((([41] : List UInt8).drop 0).drop (opTok [41], 1, (0 : Int)).2.1) = [] from rfl, run_last (l := []) (b := 0) (x := (zt, 0, 0)) rfl rfl rfl]
  rfl
theorem wrap_reads {t : List UInt8} {h : Hd} {k : Fo} (e : Reads t h k) : Reads (32 :: 40 :: (t ++ [32, 41])) h k := by
  obtain ⟨h1, i, h2, h3⟩ := e
  have ha : allG (32 :: 40 :: (t ++ [32, 41])) = ((opTok [40]).put 1, 0) :: ((runG (t.length + 1) 2 t).dropLast ++ [((opTok [41]).put ((2 + t.length + 1 : Nat) : Int), 0), (zt.put ((2 + t.length + 1 + 1 : Nat) : Int), 0)]) := by
    show runG ((32 :: 40 :: (t ++ [32, 41])).length + 1) 0 _ = _
    rw [show (32 :: 40 :: (t ++ [32, 41])).length + 1 = (t.length + 4) + 1 by simp, run_blank, run_more (b := 0) rfl (first_open _) (by decide)]
    refine congrArg (List.cons _) ?_
    show runG (t.length + 4) 2 (t ++ 32 :: [41]) = _
    have hb : ∀ x ∈ runG (t.length + 1) 2 t, x.2 = 0 := bare_clean (run_bare (t.length + 1) 0 2 t) h1
    rw [run_join t.length t [41] 2 (t.length + 1) (t.length + 4) 2 (Nat.le_refl _) (by omega) (by simp) (by simp) hb]
    exact congrArg _ (run_close 0 _)
  have hb : (runG (t.length + 1) 2 t).map bareX = (allG t).map bareX := run_bare (t.length + 1) 2 0 t
  have hc : ∀ x ∈ runG (t.length + 1) 2 t, x.2 = 0 := bare_clean hb.symm h1
  have hi : bares (((runG (t.length + 1) 2 t).dropLast).map fun x => x.1) = i := by
    have g1 := dropLast_bare hb
    obtain ⟨p, hp⟩ := all_split h1
    rw [hp] at h2
    have h2' : bares ((allG t).dropLast.map fun x => x.1) ++ [zt] = i ++ [zt] := by
      rw [← h2]; simp [bares]; rfl
    have h2'' := List.append_cancel_right h2'
    rw [← h2'']
    simpa [bares, List.map_map, Function.comp_def] using g1
  refine ⟨?_, opTok [40] :: (i ++ [opTok [41]]), ?_, ?_⟩
  · intro x hx
    rw [ha] at hx
    simp only [List.mem_cons, List.mem_append, List.not_mem_nil, or_false] at hx
    rcases hx with rfl | hx | rfl | rfl
    · rfl
    · exact hc x (List.dropLast_subset _ hx)
    · rfl
    · rfl
  · rw [ha]
    simp only [List.map_cons, List.map_append, bares, List.map_nil]
    rw [← hi]
    simp [bares]
    exact ⟨rfl, rfl, rfl⟩
  · obtain ⟨r, e1, e2⟩ := rd_swap (e := zt) rfl rfl (shuts_close [zt]) (by simp [fine]) h3
    have hr : r = [] := by
      cases r with
      | nil => rfl
      | cons a r => simp at e1
    subst hr
    rw [rd_form 1 (Nat.le_refl _), show opTok [40] :: (i ++ [opTok [41]]) ++ [zt] = opTok [40] :: (i ++ [opTok [41], zt]) by simp, rd_open (at_op _ _), List.tail_cons, e2]
    simp only [Rs.on, List.nil_append]
    rw [if_pos (at_op _ _), List.tail_cons]
    exact rd_stop h k (by show bindN [] < 1; rw [bind_nil]; omega)
end Go.Proofs.YtiaoaifoecmemaaGreatDoor
namespace Go.Proofs.YtiaoaifoecmemaaGreatDoor
open Go.RowKit

/-- What may stand behind a value or a cell. -/
def Apart (r : List UInt8) : Prop := ∀ c, r.head? = some c → wordB c = false ∧ c.toNat ≠ 34 ∧ c.toNat ≠ 40
theorem apart_nil : Apart [] := fun _ h => by simp at h
theorem apart_cons {c : UInt8} (r : List UInt8) (h1 : wordB c = false) (h2 : c.toNat ≠ 34) (h3 : c.toNat ≠ 40) : Apart (c :: r) := fun d h => by
  simp at h; subst h; exact ⟨h1, h2, h3⟩
theorem run_stop {p : UInt8 → Bool} : ∀ (a r : List UInt8), a.all p = true → (∀ c, r.head? = some c → p c = false) → runN p (a ++ r) = a.length
  | [], [], _, _ => rfl
  | [], c :: r, _, h => by
    have := h c rfl
    simp [runN, this]
  | c :: a, r, ha, h => by
    simp only [List.all_cons, Bool.and_eq_true] at ha
    have := run_stop a r ha.2 h
    unfold runN at *
    simp [ha.1, this]
theorem first_eq (c : UInt8) (r : List UInt8) : firstT (c :: r) = if isDig c then numberT (c :: r) else if c.toNat = 34 then textT (c :: r) else if c.toNat = 35 then faultT (c :: r) else if letterB c || decide (c.toNat = 36) then wordT (c :: r) else signT (c :: r) := rfl
theorem num_word {c : UInt8} (h : wordB c = false) : numB c = false := by
  unfold wordB at h
  unfold numB
  simp only [Bool.or_eq_false_iff] at h ⊢
  exact ⟨h.1.1.1.2, h.1.2⟩
/-- A number's text: digits and a dot, a digit first. -/
theorem num_text {n : Int} (h0 : 0 ≤ n) : (∃ c l, textOf n = c :: l ∧ isDig c = true) ∧ (textOf n).all numB = true := by
  have hd : ∀ (l : List UInt8), l.all isDig = true → l.all numB = true := fun l h => by
    simp only [List.all_eq_true] at h ⊢
    intro x hx
    simp [numB, h x hx]
  have hx : textOf n = Lib.decDigits (absI n / 1000000).toNat ++ (if fracT (absI n) = [] then [] else 46 :: fracT (absI n)) := by
    unfold textOf
    rw [if_neg (by omega)]
    rfl
  have hf := (fracT_facts (absI n)).2.1
  have ha := dec_all (absI n / 1000000).toNat
  constructor
  · cases hc : Lib.decDigits (absI n / 1000000).toNat with
    | nil => exact absurd hc (dec_ne _)
    | cons c l =>
      rw [hc] at ha
      simp only [List.all_cons, Bool.and_eq_true] at ha
      exact ⟨c, _, by rw [hx, hc]; rfl, ha.1⟩
  · rw [hx, List.all_append, hd _ ha, Bool.true_and]
    split
    · rfl
    · rw [List.all_cons, hd _ hf]
      simp [numB]
theorem first_num {n : Int} (h : fitsB n = true) (h0 : 0 ≤ n) {r : List UInt8} (hr : Apart r) : firstT (textOf n ++ r) = (valTok 1 n [] false 0, (textOf n).length, 0) := by
  obtain ⟨⟨c, l, e, hc⟩, ha⟩ := num_text h0
  have hrun : runN numB (textOf n ++ r) = (textOf n).length := run_stop _ _ ha (fun d hd => num_word (hr d hd).1)
  have e1 : textOf n ++ r = c :: (l ++ r) := by rw [e]; rfl
  have e2 : firstT (textOf n ++ r) = numberT (textOf n ++ r) := by rw [e1, first_eq, if_pos hc]
  rw [e2]
  unfold numberT
  rw [hrun, List.take_left, parse_print h, if_pos rfl]
theorem txt_more : ∀ (l r : List UInt8), (∀ c, r.head? = some c → c.toNat ≠ 34) → txt (dbl l ++ 34 :: r) = some (l, (dbl l).length + 1)
  | [], [], _ => by simp [dbl, txt]
  | [], c :: r, h => by
    have := h c rfl
    simp only [dbl, List.nil_append]
    rw [txt_end r this]
    rfl
  | c :: l, r, h => by
    have ih := txt_more l r h
    simp only [dbl]
    by_cases hc : c.toNat = 34
    · rw [if_pos hc]
      have hc' := byte34.1 hc
      subst hc'
      rw [List.cons_append, List.cons_append, txt_two, ih]
      simp
    · rw [if_neg hc, List.cons_append, txt_in _ hc, ih]
      simp
theorem first_text {s : List UInt8} (h : s.length ≤ 255) {r : List UInt8} (hr : Apart r) : firstT ((34 :: (dbl s ++ [34])) ++ r) = (valTok 2 0 s false 0, (34 :: (dbl s ++ [34])).length, 0) := by
  rw [show (34 :: (dbl s ++ [34])) ++ r = 34 :: (dbl s ++ 34 :: r) by simp, first_quote, txt_more s r (fun c hc => (hr c hc).2.1), textOfT]
  simp only
  rw [if_neg (by omega)]
  simp
/-- Words. -/
theorem word_head {c : UInt8} (h : letterB c = true ∨ c.toNat = 36) : isDig c = false ∧ c.toNat ≠ 34 ∧ c.toNat ≠ 35 ∧ (letterB c || decide (c.toNat = 36)) = true := by
  rcases h with h | h
  · have h' := h
    unfold letterB at h'
    simp only [Bool.or_eq_true, decide_eq_true_eq] at h'
    exact ⟨by rw [isDig_not]; omega, by omega, by omega, by simp [h]⟩
  · exact ⟨by rw [isDig_not]; omega, by omega, by omega, by simp [h]⟩
theorem first_word {w : List UInt8} {c : UInt8} {l : List UInt8} (e : w = c :: l) (hc : letterB c = true ∨ c.toNat = 36) (ha : w.all wordB = true) {r : List UInt8} (hr : Apart r) : firstT (w ++ r) = plainT w := by
  obtain ⟨h1, h2, h3, h4⟩ := word_head hc
  have hrun : runN wordB (w ++ r) = w.length := run_stop _ _ ha (fun d hd => (hr d hd).1)
  have e1 : w ++ r = c :: (l ++ r) := by rw [e]; rfl
  have e2 : firstT (w ++ r) = wordT (w ++ r) := by rw [e1, first_eq, if_neg (by simp [h1]), if_neg h2, if_neg h3, if_pos h4]
  rw [e2]
  unfold wordT
  rw [hrun, List.drop_left, List.take_left, if_neg]
  intro hp
  obtain ⟨r', rfl⟩ := prefix_one hp
  exact (hr 40 rfl).2.2 rfl
theorem first_named {w : List UInt8} {c : UInt8} {l : List UInt8} (e : w = c :: l) (hc : letterB c = true ∨ c.toNat = 36) (ha : w.all wordB = true) (r : List UInt8) : firstT (w ++ 40 :: r) = nameT w := by
  obtain ⟨h1, h2, h3, h4⟩ := word_head hc
  have hrun : runN wordB (w ++ 40 :: r) = w.length := run_stop _ _ ha (fun d hd => by simp at hd; subst hd; decide)
  have e1 : w ++ 40 :: r = c :: (l ++ 40 :: r) := by rw [e]; rfl
  have e2 : firstT (w ++ 40 :: r) = wordT (w ++ 40 :: r) := by rw [e1, first_eq, if_neg (by simp [h1]), if_neg h2, if_neg h3, if_pos h4]
  rw [e2]
  unfold wordT
  rw [hrun, List.drop_left, List.take_left, if_pos (by simp [Lib.hasPrefix, List.isPrefixOf])]
theorem first_true {r : List UInt8} (hr : Apart r) : firstT ([84, 82, 85, 69] ++ r) = (valTok 3 0 [] true 0, 4, 0) := by
  rw [first_word (w := [84, 82, 85, 69]) rfl (Or.inl (by decide)) (by decide) hr]
  rfl
theorem first_false {r : List UInt8} (hr : Apart r) : firstT ([70, 65, 76, 83, 69] ++ r) = (valTok 3 0 [] false 0, 5, 0) := by
  rw [first_word (w := [70, 65, 76, 83, 69]) rfl (Or.inl (by decide)) (by decide) hr]
  rfl
theorem first_fault {k : Nat} (h1 : 1 ≤ k) (h2 : k ≤ 7) (r : List UInt8) : firstT (nameL k ++ r) = (valTok 4 0 [] false k, (nameL k).length, 0) := by
  have hk : k = 1 ∨ k = 2 ∨ k = 3 ∨ k = 4 ∨ k = 5 ∨ k = 6 ∨ k = 7 := by omega
  have hf : ∀ l : List UInt8, firstT (35 :: l) = faultT (35 :: l) := fun l => by
    rw [first_eq, if_neg (by decide), if_neg (by decide), if_pos (by decide)]
  rcases hk with e | e | e | e | e | e | e <;> subst e
  all_goals
    simp only [nameL, names, List.getD_cons_succ, List.getD_cons_zero, List.cons_append, List.nil_append]
    rw [hf]
    unfold faultT
    simp [pick, Lib.hasPrefix, List.isPrefixOf, nameL, names, faultOfT]
theorem dig_word {c : UInt8} (h : Pla.digB c = true) : wordB c = true := by
  have := Pla.digB_iff.1 h
  have : isDig c = true := isDig_iff.2 this
  simp [wordB, this]
theorem let_word {c : UInt8} (h : Pla.letB c = true) : wordB c = true ∧ letterB c = true := by
  have : letterB c = true := h
  exact ⟨by simp [wordB, this], this⟩
theorem all_mono {p q : UInt8 → Bool} {l : List UInt8} (h : l.all p = true) (hpq : ∀ c, p c = true → q c = true) : l.all q = true := by
  simp only [List.all_eq_true] at h ⊢
  exact fun x hx => hpq x (h x hx)
/-- A cell's text: a word that has a digit, a letter or a $ first. -/
theorem cell_text {r c : Int} {x y : Bool} (h : Pla.placeB r c = true) : (∃ d l, (Pla.printR r c x y).1 = d :: l ∧ (letterB d = true ∨ d.toNat = 36)) ∧ (Pla.printR r c x y).1.all wordB = true ∧ ∃ d ∈ (Pla.printR r c x y).1, Pla.digB d = true := by
  have hp := Pla.placeB_iff.1 h
  rw [Pla.printR_yes h]
  simp only
  have hs : ∀ b, (Pla.sgn b).all wordB = true := fun b => by cases b <;> decide
  have hl : (Pla.lettersN c.toNat).all wordB = true := all_mono (Pla.letters_all _) (fun c h => (let_word h).1)
  have hd : (Lib.decDigits r.toNat).all wordB = true := all_mono (Pla.dec_all _) (fun c h => dig_word h)
  obtain ⟨d, l, e, hdl⟩ := Pla.letters_head (n := c.toNat) (by omega) (by omega)
  obtain ⟨d2, l2, e2, _, h5, h6⟩ := Pla.dec_head r.toNat (by omega)
  refine ⟨?_, ?_, d2, ?_, Pla.digB_iff.2 ⟨h5, h6⟩⟩
  · cases y with
    | true => exact ⟨36, _, rfl, Or.inr rfl⟩
    | false => exact ⟨d, _, by rw [e]; rfl, Or.inl (let_word hdl).2⟩
  · simp [hs, hl, hd]
  · rw [e2]; simp
theorem not_named {w : List UInt8} (h : ∃ d ∈ w, Pla.digB d = true) : (namedR w).2 = false := by
  obtain ⟨d, hd, h1⟩ := h
  have h2 := Pla.digB_iff.1 h1
  have hf : foldB d = d := by unfold foldB; rw [if_neg (by omega)]
  have hm : d ∈ foldL w := by
    unfold foldL
    exact List.mem_map.2 ⟨d, hd, hf⟩
  rw [namedR_no]
  · intro e
    rw [e] at hm
    simp only [List.mem_cons, List.not_mem_nil, or_false] at hm
    rcases hm with rfl | rfl | rfl | rfl <;> exact absurd h2.2 (by decide)
  · intro e
    rw [e] at hm
    simp only [List.mem_cons, List.not_mem_nil, or_false] at hm
    rcases hm with rfl | rfl | rfl | rfl | rfl <;> exact absurd h2.2 (by decide)
theorem first_cell {r c : Int} {x y : Bool} (h : Pla.placeB r c = true) {t : List UInt8} (ht : Apart t) : firstT ((Pla.printR r c x y).1 ++ t) = (cellTok r c x y, (Pla.printR r c x y).1.length, 0) := by
  obtain ⟨⟨d, l, e, hd⟩, ha, hg⟩ := cell_text (x := x) (y := y) h
  rw [first_word e hd ha ht]
  unfold plainT
  rw [not_named hg, if_neg (by simp), Pla.parse_print h]
  simp
theorem nameC_word {c : UInt8} (h : nameC c = true) : wordB c = true ∧ c.toNat ≠ 36 ∧ foldB c = c := by
  unfold nameC greatB digitB at h
  simp only [Bool.or_eq_true, Bool.and_eq_true, decide_eq_true_eq] at h
  refine ⟨?_, by omega, by unfold foldB; rw [if_neg (by omega)]⟩
  unfold wordB letterB isDig
  simp only [Bool.or_eq_true, Bool.and_eq_true, decide_eq_true_eq]
  omega
theorem first_call {s : List UInt8} (h : nameOk s = true) (r : List UInt8) : firstT (s ++ 40 :: r) = (nameTok s, s.length, 0) := by
  unfold nameOk at h
  simp only [Bool.and_eq_true, decide_eq_true_eq, Bool.not_eq_true'] at h
  obtain ⟨⟨⟨h1, h2⟩, h3⟩, h4⟩ := h
  cases s with
  | nil => simp at h1
  | cons c l =>
    have hg : letterB c = true := by
      simp [greatB] at h3
      unfold letterB
      simp only [Bool.or_eq_true, decide_eq_true_eq]
      omega
    rw [first_named rfl (Or.inl hg) (all_mono h4 (fun c h => (nameC_word h).1))]
    unfold nameT
    have hf : foldL (c :: l) = c :: l := by
      unfold foldL
      rw [List.map_congr_left (g := id) (fun a ha => (nameC_word (List.all_eq_true.1 h4 a ha)).2.2)]
      simp
    have hn : (c :: l).any (fun c => decide (c.toNat = 36)) = false := by
      rw [List.any_eq_false]
      intro a ha
      simpa using (nameC_word (List.all_eq_true.1 h4 a ha)).2.1
    rw [hn, hf, if_neg (by simpa using h2)]
/-- Signs: < and > have none of = and > behind them. -/
def signOk (s r : List UInt8) : Prop := s ∈ signs ∧ (s = [60] ∨ s = [62] → ∀ c, r.head? = some c → c.toNat ≠ 61 ∧ c.toNat ≠ 62)
theorem first_sign {s r : List UInt8} (h : signOk s r) : firstT (s ++ r) = (opTok s, s.length, 0) := by
  obtain ⟨h1, h2⟩ := h
  have hp : (pick signL (s ++ r) 0 15).map signL = some s := by
    simp only [signs, List.mem_cons, List.not_mem_nil, or_false] at h1
    rcases h1 with rfl | rfl | rfl | rfl | rfl | rfl | rfl | rfl | rfl | rfl | rfl | rfl | rfl | rfl | rfl
    case inr.inr.inr.inl =>
      cases r with
      | nil => simp [pick, Lib.hasPrefix, List.isPrefixOf, signL, signs]
      | cons c r =>
        have h3 := h2 (Or.inl rfl) c rfl
        have h4 : c ≠ 61 := fun e => h3.1 (by rw [e]; rfl)
        have h5 : c ≠ 62 := fun e => h3.2 (by rw [e]; rfl)
        simp [pick, Lib.hasPrefix, List.isPrefixOf, signL, signs, Ne.symm h4, Ne.symm h5]
    case inr.inr.inr.inr.inl =>
      cases r with
      | nil => simp [pick, Lib.hasPrefix, List.isPrefixOf, signL, signs]
      | cons c r =>
        have h3 := h2 (Or.inr rfl) c rfl
        have h4 : c ≠ 61 := fun e => h3.1 (by rw [e]; rfl)
        simp [pick, Lib.hasPrefix, List.isPrefixOf, signL, signs, Ne.symm h4]
    all_goals simp [pick, Lib.hasPrefix, List.isPrefixOf, signL, signs]
  have hs : firstT (s ++ r) = signT (s ++ r) := by
    simp only [signs, List.mem_cons, List.not_mem_nil, or_false] at h1
    rcases h1 with rfl | rfl | rfl | rfl | rfl | rfl | rfl | rfl | rfl | rfl | rfl | rfl | rfl | rfl | rfl
    all_goals
      simp only [List.cons_append, List.nil_append]
      rw [first_eq, if_neg (by decide), if_neg (by decide), if_neg (by decide), if_neg (by decide)]
  rw [hs]
  unfold signT
  rw [hp]; rfl
end Go.Proofs.YtiaoaifoecmemaaGreatDoor
namespace Go.Proofs.YtiaoaifoecmemaaGreatDoor
open Go.RowKit

/-- Tokens whose texts, one behind the other, are read as they are. -/
def Chain : List Tok → Prop
  | [] => True
  | t :: r => (firstT (tokL t ++ toksL r) = (t, (tokL t).length, 0) ∧ t.kind ≠ 0) ∧ Chain r
theorem first_blank (l : List UInt8) : (firstT (32 :: l)).1.kind = 0 := by
  rw [first_eq, if_neg (by decide), if_neg (by decide), if_neg (by decide), if_neg (by decide)]
  have hp : pick signL (32 :: l) 0 15 = none := by simp [pick, Lib.hasPrefix, List.isPrefixOf, signL, signs]
  unfold signT
  rw [hp]; rfl
theorem head_blank {l : List UInt8} (h : (firstT l).1.kind ≠ 0) : runN blankB l = 0 := by
  cases l with
  | nil => rfl
  | cons c r =>
    cases hb : blankB c with
    | true =>
      have hc : c = 32 := by
        have : c.toNat = 32 := by simpa [blankB] using hb
        exact (byte_is (n := 32) (by decide)).1 this
      subst hc
      exact absurd (first_blank r) h
    | false => exact blank_none hb
theorem run_chain : ∀ (ts : List Tok) (f p : Nat), Chain ts → (toksL ts).length < f → (∀ x ∈ runG f p (toksL ts), x.2 = 0) ∧ bares ((runG f p (toksL ts)).map fun x => x.1) = bares ts ++ [zt]
  | _, 0, _, _, h => absurd h (by omega)
  | [], f + 1, p, _, _ => by
    rw [toksL, run_last (l := []) (b := 0) (x := (zt, 0, 0)) rfl rfl rfl]
    exact ⟨fun x hx => by simp at hx; rw [hx], rfl⟩
  | t :: r, f + 1, p, ⟨⟨h1, h2⟩, h3⟩, hl => by
    have hg := good_first (tokL t ++ toksL r)
    rw [h1] at hg
    have hpos : 1 ≤ (tokL t).length := by
      rcases hg with ⟨e, _⟩ | ⟨_, _, e, _⟩
      · exact absurd e h2
      · exact e
    have hb : runN blankB (tokL t ++ toksL r) = 0 := head_blank (by rw [h1]; exact h2)
    rw [toksL, List.length_append] at hl
    rw [toksL, run_more hb (x := (t, (tokL t).length, 0)) (by rw [List.drop_zero]; exact h1) h2]
    simp only
    rw [List.drop_zero, List.drop_left]
    have ih := run_chain r f (p + 0 + (tokL t).length) h3 (by omega)
    constructor
    · intro x hx
      rcases List.mem_cons.1 hx with e | e
      · rw [e]
      · exact ih.1 x e
    · have := ih.2
      rw [List.map_cons]
      show _ :: bares _ = _
      rw [this]
      rfl
theorem tok_op (s : List UInt8) : tokL (opTok s) = s := by simp [tokL, opTok]
theorem tok_name (s : List UInt8) : tokL (nameTok s) = s := by simp [tokL, nameTok]
theorem tok_cell (r c : Int) (x y : Bool) : tokL (cellTok r c x y) = (Pla.printR r c x y).1 := by simp [tokL, cellTok]
theorem tok_val (k n : Int) (s : List UInt8) (b : Bool) (c : Int) : tokL (valTok k n s b c) = constL k n s b c := by simp [tokL, valTok]
theorem chain_op {s : List UInt8} {r : List Tok} (h : signOk s (toksL r)) (hr : Chain r) : Chain (opTok s :: r) := ⟨⟨by rw [tok_op]; exact first_sign h, by show (4 : Int) ≠ 0; decide⟩, hr⟩
theorem sign_ok {s : List UInt8} (h : s ∈ signs) (h1 : s ≠ [60]) (h2 : s ≠ [62]) (r : List UInt8) : signOk s r := ⟨h, fun e => by rcases e with e | e; exact absurd e h1; exact absurd e h2⟩
/-- A text that may stand behind < and >. -/
def Starts (l : List UInt8) : Prop := ∃ c r, l = c :: r ∧ c.toNat ≠ 61 ∧ c.toNat ≠ 62
theorem starts_app {l : List UInt8} (h : Starts l) (r : List UInt8) : Starts (l ++ r) := by
  obtain ⟨c, l', rfl, h1, h2⟩ := h
  exact ⟨c, _, rfl, h1, h2⟩
theorem sign_starts {s r : List UInt8} (h : s ∈ signs) (hr : Starts r) : signOk s r := by
  refine ⟨h, fun _ c hc => ?_⟩
  obtain ⟨d, l, rfl, h1, h2⟩ := hr
  simp at hc
  subst hc
  exact ⟨h1, h2⟩
theorem bind_sign {s : List UInt8} (h : 0 < bindN s) : s ∈ signs ∧ ∀ r, Apart (s ++ r) := by
  have hs : s = [61] ∨ s = [60, 62] ∨ s = [60] ∨ s = [62] ∨ s = [60, 61] ∨ s = [62, 61] ∨ s = [38] ∨ s = [43] ∨ s = [45] ∨ s = [42] ∨ s = [47] := by
    unfold bindN at h
    split at h
    · rename_i e; rcases e with e | e | e | e | e | e <;> simp [e]
    · split at h
      · rename_i e; simp [e]
      · split at h
        · rename_i e; rcases e with e | e <;> simp [e]
        · split at h
          · rename_i e; rcases e with e | e <;> simp [e]
          · exact absurd h (by omega)
  rcases hs with rfl | rfl | rfl | rfl | rfl | rfl | rfl | rfl | rfl | rfl | rfl
  all_goals exact ⟨by decide, fun r => apart_cons _ (by decide) (by decide) (by decide)⟩
/-- A value's text begins with its token. -/
theorem first_const {h : Hd} (hc : constB h = true) {r : List UInt8} (hr : Apart r) : firstT (constL h.vk h.vn h.vs h.vb h.vc ++ r) = (valTok h.vk h.vn h.vs h.vb h.vc, (constL h.vk h.vn h.vs h.vb h.vc).length, 0) ∧ Starts (constL h.vk h.vn h.vs h.vb h.vc) := by
  have hz : (⟨h.vs.toArray⟩ : ByteArray).size = h.vs.length := by show h.vs.toArray.size = _; simp
  have hs0 : ∀ l : List UInt8, decide ((⟨l.toArray⟩ : ByteArray) = ⟨#[]⟩) = true → l = [] := fun l e => by
    have := congrArg ByteArray.data (of_decide_eq_true e)
    simpa using this
  obtain ⟨kind, vk, vn, vs, vb, vc, _, _, _, _, _, _, _, _, _⟩ := h
  simp only at hz ⊢
  unfold constB at hc
  simp only [Bool.and_eq_true, decide_eq_true_eq] at hc
  obtain ⟨⟨h1, h2⟩, h3⟩ := hc
  have h1' := h1
  by_cases k1 : vk = 1
  · subst k1
    unfold rightB at h1
    rw [if_neg (by decide), if_pos rfl] at h1
    simp only [Bool.and_eq_true, Bool.not_eq_true', decide_eq_true_eq] at h1
    obtain ⟨⟨⟨g1, g2⟩, g3⟩, g4⟩ := h1
    obtain rfl := hs0 vs (decide_eq_true g2)
    subst g3 g4
    have hl : constL 1 vn [] false 0 = textOf vn := by simp [constL]
    rw [hl]
    refine ⟨first_num g1 h3 hr, ?_⟩
    obtain ⟨⟨c, l, e, hd⟩, _⟩ := num_text h3
    have := isDig_iff.1 hd
    exact ⟨c, l, e, by omega, by omega⟩
  by_cases k2 : vk = 2
  · subst k2
    unfold rightB at h1
    rw [if_neg (by decide), if_neg (by decide), if_pos rfl] at h1
    simp only [Bool.and_eq_true, Bool.not_eq_true', decide_eq_true_eq] at h1
    obtain ⟨⟨⟨g1, g2⟩, g3⟩, g4⟩ := h1
    subst g1 g3 g4
    have hl : constL 2 0 vs false 0 = 34 :: (dbl vs ++ [34]) := by simp [constL]
    rw [hl]
    exact ⟨first_text (by omega) hr, 34, _, rfl, by decide, by decide⟩
  by_cases k3 : vk = 3
  · subst k3
    unfold rightB at h1
    rw [if_neg (by decide), if_neg (by decide), if_neg (by decide), if_pos rfl] at h1
    simp only [Bool.and_eq_true, decide_eq_true_eq] at h1
    obtain ⟨⟨g1, g2⟩, g4⟩ := h1
    obtain rfl := hs0 vs (decide_eq_true g2)
    subst g1 g4
    have hl : constL 3 0 [] vb 0 = if vb then [84, 82, 85, 69] else [70, 65, 76, 83, 69] := by
      unfold constL showV
      rw [if_neg (by decide), if_neg (by decide), if_neg (by simp [h1']), if_neg (by decide)]
      unfold wordsV
      rw [if_neg (by simp [h1']), if_neg (by decide), if_neg (by decide), if_pos rfl]
    rw [hl]
    cases vb with
    | true => exact ⟨first_true hr, 84, _, rfl, by decide, by decide⟩
    | false => exact ⟨first_false hr, 70, _, rfl, by decide, by decide⟩
  by_cases k4 : vk = 4
  · subst k4
    unfold rightB at h1
    rw [if_neg (by decide), if_neg (by decide), if_neg (by decide), if_neg (by decide), if_pos rfl] at h1
    simp only [Bool.and_eq_true, Bool.not_eq_true', decide_eq_true_eq] at h1
    obtain ⟨⟨⟨⟨g1, g2⟩, g3⟩, g4⟩, g5⟩ := h1
    obtain rfl := hs0 vs (decide_eq_true g2)
    subst g1 g3
    have hl : constL 4 0 [] false vc = nameL vc.toNat := by
      unfold constL showV
      rw [if_neg (by decide), if_neg (by decide), if_neg (by simp [h1']), if_pos rfl]
    rw [hl]
    have hv : ((vc.toNat : Nat) : Int) = vc := by omega
    have := first_fault (k := vc.toNat) (by omega) (by omega) r
    rw [hv] at this
    refine ⟨this, ?_⟩
    have hk : vc.toNat = 1 ∨ vc.toNat = 2 ∨ vc.toNat = 3 ∨ vc.toNat = 4 ∨ vc.toNat = 5 ∨ vc.toNat = 6 ∨ vc.toNat = 7 := by omega
    rcases hk with e | e | e | e | e | e | e <;> rw [e] <;> exact ⟨35, _, rfl, by decide, by decide⟩
  · unfold rightB at h1
    rw [if_neg h2, if_neg k1, if_neg k2, if_neg k3, if_neg k4] at h1
    cases h1
/-- It is read as it was. -/
def Ck (h : Hd) (k : Fo) : Prop := rightN h k = true → Starts (textN h k) ∧ ∀ rest, Chain rest → Apart (toksL rest) → Chain (toksN h k ++ rest)
def Cks : Fo → Prop
  | .nil => True
  | .cons h k r => Ck h k ∧ Cks r
theorem apart_close (r : List UInt8) : Apart (41 :: r) := apart_cons _ (by decide) (by decide) (by decide)
theorem ck_kid {h : Hd} {k : Fo} (hk : Ck h k) (hr : rightN h k = true) (b : Nat) : Starts (toksL (brak b h (toksN h k))) ∧ ∀ rest, Chain rest → Apart (toksL rest) → Chain (brak b h (toksN h k) ++ rest) := by
  unfold brak
  split
  · refine ⟨⟨40, _, by rw [toksL, tok_op]; rfl, by decide, by decide⟩, fun rest h1 h2 => ?_⟩
    rw [List.cons_append, List.append_assoc, List.singleton_append]
    refine chain_op (sign_ok (by decide) (by decide) (by decide) _) ((hk hr).2 _ (chain_op (sign_ok (by decide) (by decide) (by decide) _) h1) ?_)
    rw [toksL, tok_op]
    exact apart_close _
  · exact ⟨(hk hr).1, (hk hr).2⟩
theorem ck_args : ∀ (F : Fo), Cks F → allB F = true → ∀ rest, Chain rest → Apart (toksL rest) → Chain (commas (toksF F) ++ rest)
  | .nil, _, _, rest, h1, _ => h1
  | .cons h k .nil, hk, ha, rest, h1, h2 => by
    rw [allB] at ha
    simp only [Bool.and_eq_true] at ha
    exact (hk.1 (by simp [rightN, ha.1.1, ha.1.2])).2 rest h1 h2
  | .cons h k (.cons h' k' r), hk, ha, rest, h1, h2 => by
    rw [allB] at ha
    simp only [Bool.and_eq_true] at ha
    show Chain ((toksN h k ++ opTok [44] :: commas (toksF (.cons h' k' r))) ++ rest)
    rw [List.append_assoc, List.cons_append]
    refine (hk.1 (by simp [rightN, ha.1.1, ha.1.2])).2 _ (chain_op (sign_ok (by decide) (by decide) (by decide) _) (ck_args _ hk.2 ha.2 rest h1 h2)) ?_
    rw [toksL, tok_op]
    exact apart_cons _ (by decide) (by decide) (by decide)
theorem ck_node (h : Hd) (k : Fo) (hk : Cks k) : Ck h k := by
  intro hr
  have hr' := hr
  simp only [rightN, Bool.and_eq_true] at hr
  obtain ⟨ha, hal⟩ := hr
  rcases alone_cases ha with ⟨e, hc, hn⟩ | ⟨e, hc, hn⟩ | ⟨e, hc, hc2, hn⟩ | ⟨e, hn⟩ | ⟨e, hb, hn⟩ | ⟨e, hc⟩
  · have hk1 : h.kind = 1 := by rw [e]; rfl
    have ht : toksN h k = [valTok h.vk h.vn h.vs h.vb h.vc] := by unfold toksN nodeT; rw [if_pos hk1]
    rw [text_val hk1]
    refine ⟨(first_const hc apart_nil).2, fun rest h1 h2 => ?_⟩
    rw [ht]
    exact ⟨⟨by rw [tok_val]; exact (first_const hc h2).1, by show (1 : Int) ≠ 0; decide⟩, h1⟩
  · have hk1 : h.kind = 2 := by rw [e]; rfl
    have ht : toksN h k = [cellTok h.row h.col h.fr h.fc] := by unfold toksN nodeT; rw [if_neg (by omega), if_pos hk1]
    rw [text_cell hk1]
    obtain ⟨⟨d, l, e1, hd⟩, _, _⟩ := cell_text (x := h.fr) (y := h.fc) hc
    refine ⟨⟨d, l, e1, ?_⟩, fun rest h1 h2 => ?_⟩
    · rcases hd with hd | hd
      · unfold letterB at hd
        simp only [Bool.or_eq_true, decide_eq_true_eq] at hd
        omega
      · omega
    · rw [ht]
      exact ⟨⟨by rw [tok_cell]; exact first_cell hc h2, by show (2 : Int) ≠ 0; decide⟩, h1⟩
  · have hk1 : h.kind = 3 := by rw [e]; rfl
    have ht : toksN h k = [cellTok h.row h.col h.fr h.fc, opTok [58], cellTok h.row2 h.col2 h.fr2 h.fc2] := by unfold toksN nodeT; rw [if_neg (by omega), if_neg (by omega), if_pos hk1]
    rw [text_range hk1]
    obtain ⟨⟨d, l, e1, hd⟩, _, _⟩ := cell_text (x := h.fr) (y := h.fc) hc
    refine ⟨starts_app ⟨d, l, e1, ?_⟩ _, fun rest h1 h2 => ?_⟩
    · rcases hd with hd | hd
      · unfold letterB at hd
        simp only [Bool.or_eq_true, decide_eq_true_eq] at hd
        omega
      · omega
    · rw [ht]
      refine ⟨⟨?_, by show (2 : Int) ≠ 0; decide⟩, chain_op (sign_ok (by decide) (by decide) (by decide) _) ⟨⟨by rw [tok_cell]; exact first_cell hc2 h2, by show (2 : Int) ≠ 0; decide⟩, h1⟩⟩
      rw [tok_cell]
      refine first_cell hc ?_
      show Apart (toksL (opTok [58] :: _))
      rw [toksL, tok_op]
      exact apart_cons _ (by decide) (by decide) (by decide)
  · have hk1 : h.kind = 4 := by rw [e]; rfl
    obtain ⟨h1, k1, rfl⟩ := fo_one hn
    rw [allB] at hal
    simp only [Bool.and_eq_true] at hal
    have hk2 := ck_kid hk.1 (by simp [rightN, hal.1.1, hal.1.2]) 5
    have ht : toksN h (.cons h1 k1 .nil) = opTok [45] :: brak 5 h1 (toksN h1 k1) := by unfold toksN nodeT; rw [if_neg (by omega), if_neg (by omega), if_neg (by omega), if_pos hk1]; rfl
    rw [text_neg hk1]
    refine ⟨⟨45, _, rfl, by decide, by decide⟩, fun rest g1 g2 => ?_⟩
    rw [ht, List.cons_append]
    exact chain_op (sign_ok (by decide) (by decide) (by decide) _) (hk2.2 rest g1 g2)
  · have hk1 : h.kind = 5 := by rw [e]; rfl
    obtain ⟨h1, k1, h2, k2, rfl⟩ := fo_two hn
    rw [allB, allB] at hal
    simp only [Bool.and_eq_true] at hal
    have q1 := ck_kid hk.1 (by simp [rightN, hal.1.1, hal.1.2]) (bindN h.txt)
    have q2 := ck_kid hk.2.1 (by simp [rightN, hal.2.1.1, hal.2.1.2]) (bindN h.txt + 1)
    have hs : toksN h (.cons h1 k1 (.cons h2 k2 .nil)) = brak (bindN h.txt) h1 (toksN h1 k1) ++ opTok h.txt :: brak (bindN h.txt + 1) h2 (toksN h2 k2) := by unfold toksN nodeT; rw [if_neg (by omega), if_neg (by omega), if_neg (by omega), if_neg (by omega), if_pos hk1]; rfl
    obtain ⟨s1, s2⟩ := bind_sign hb
    refine ⟨?_, fun rest g1 g2 => ?_⟩
    · unfold textN
      rw [hs, toksL_app]
      exact starts_app q1.1 _
    · rw [hs, List.append_assoc, List.cons_append]
      refine q1.2 _ (chain_op (sign_starts s1 ?_) (q2.2 rest g1 g2)) ?_
      · rw [toksL_app]; exact starts_app q2.1 _
      · rw [toksL, tok_op]; exact s2 _
  · have hk1 : h.kind = 6 := by rw [e]; rfl
    have ht : toksN h k = nameTok h.txt :: opTok [40] :: (commas (toksF k) ++ [opTok [41]]) := by unfold toksN nodeT; rw [if_neg (by omega), if_neg (by omega), if_neg (by omega), if_neg (by omega), if_neg (by omega)]
    rw [text_call hk1]
    have hc' := hc
    unfold nameOk at hc'
    simp only [Bool.and_eq_true, decide_eq_true_eq, Bool.not_eq_true'] at hc'
    constructor
    · cases hx : h.txt with
      | nil => rw [hx] at hc'; simp at hc'
      | cons c l =>
        refine starts_app ⟨c, l, rfl, ?_⟩ _
        have := hc'.1.2
        rw [hx] at this
        simp [greatB] at this
        omega
    · intro rest g1 g2
      rw [ht]
      rw [List.cons_append, List.cons_append, List.append_assoc, List.singleton_append]
      refine ⟨⟨?_, by show (3 : Int) ≠ 0; decide⟩, chain_op (sign_ok (by decide) (by decide) (by decide) _) (ck_args k hk hal _ (chain_op (sign_ok (by decide) (by decide) (by decide) _) g1) ?_)⟩
      · rw [tok_name, toksL, tok_op]
        exact first_call hc _
      · rw [toksL, tok_op]
        exact apart_close _
theorem ck_all : ∀ (F : Fo), Cks F
  | .nil => trivial
  | .cons h k r => ⟨ck_node h k (ck_all k), ck_all r⟩
/-- A right node's text is read as it. -/
theorem text_reads {h : Hd} {k : Fo} (hr : rightN h k = true) : Reads (textN h k) h k := by
  have hc : Chain (toksN h k) := by
    have := (ck_node h k (ck_all k) hr).2 [] trivial apart_nil
    rwa [List.append_nil] at this
  have hx := run_chain (toksN h k) ((textN h k).length + 1) 0 hc (Nat.lt_succ_self _)
  refine ⟨hx.1, _, hx.2, ?_⟩
  have := rd_bare (.form 1) (toksN h k ++ [zt])
  rw [rd_print hr zt rfl rfl] at this
  have hb : bares (toksN h k ++ [zt]) = bares (toksN h k) ++ [zt] := by simp [bares]; rfl
  rw [hb] at this
  exact this
theorem text_parse {h : Hd} {k : Fo} (hr : rightN h k = true) (hl : (textN h k).length ≤ 1024) (hd : k.deep + 1 ≤ 40) : parseN (textN h k) = .ok h k := parse_of_reads (text_reads hr) hl hd
end Go.Proofs.YtiaoaifoecmemaaGreatDoor
