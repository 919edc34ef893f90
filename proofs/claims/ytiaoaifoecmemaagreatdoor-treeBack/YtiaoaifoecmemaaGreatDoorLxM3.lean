/-
  Plain words for LexParts and LexPlaces: a run of tokens, behind blanks, ahead of a blank, from a place on.
-/
import Derived.Test.YtiaoaifoecmemaaGreatDoorLxTextsMath
namespace Go.Proofs.YtiaoaifoecmemaaGreatDoor
open Go.RowKit

/-- A token without its place. -/
def bareX (x : Tok × Int) : Tok × Int := (x.1.put 0, x.2)
theorem put_put (t : Tok) (p q : Int) : (t.put p).put q = t.put q := rfl
theorem first_kind {l : List UInt8} (h : l ≠ []) (h0 : (firstT l).1.kind = 0) : (firstT l).2.2 ≠ 0 := by
  match l, h with
  | c :: r, _ =>
    have hf : firstT (c :: r) = if isDig c then numberT (c :: r) else if c.toNat = 34 then textT (c :: r) else if c.toNat = 35 then faultT (c :: r) else if letterB c || decide (c.toNat = 36) then wordT (c :: r) else signT (c :: r) := rfl
    rw [hf] at h0 ⊢
    split at h0
    · rw [if_pos (by assumption)]
      unfold numberT at h0 ⊢
      split at h0
      · simp [valTok] at h0
      · rw [if_neg (by assumption)]; assumption
    · rw [if_neg (by assumption)]
      split at h0
      · rw [if_pos (by assumption)]
        unfold textT at h0 ⊢
        cases e : txt (c :: r).tail with
        | none => simp [textOfT]
        | some x =>
          rw [e] at h0
          simp only [textOfT] at h0 ⊢
          split at h0
          · rw [if_pos (by assumption)]; simp
          · simp [valTok] at h0
      · rw [if_neg (by assumption)]
        split at h0
        · rw [if_pos (by assumption)]
          unfold faultT at h0 ⊢
          cases e : pick nameL (c :: r) 1 7 with
          | none => simp [faultOfT]
          | some x => rw [e] at h0; simp [faultOfT, valTok] at h0
        · rw [if_neg (by assumption)]
          split at h0
          · rw [if_pos (by assumption)]
            unfold wordT at h0 ⊢
            split at h0
            · rw [if_pos (by assumption)]
              unfold nameT at h0 ⊢
              split at h0
              · rw [if_pos (by assumption)]; simp
              · simp [nameTok] at h0
            · rw [if_neg (by assumption)]
              unfold plainT at h0 ⊢
              split at h0
              · simp [valTok] at h0
              · rw [if_neg (by assumption)]
                split at h0
                · simp [cellTok] at h0
                · rw [if_neg (by assumption)]; assumption
          · rw [if_neg (by assumption)]
            unfold signT at h0 ⊢
            cases e : pick signL (c :: r) 0 15 with
            | none => simp [signOfT]
            | some x => rw [e] at h0; simp [signOfT, opTok] at h0

/-- How much fuel does not matter, if there is enough. -/
theorem run_fuel : ∀ (f g p : Nat) (l : List UInt8), l.length < f → l.length < g → runG f p l = runG g p l
  | 0, _, _, _, h, _ => absurd h (by omega)
  | _, 0, _, _, _, h => absurd h (by omega)
  | f + 1, g + 1, p, l, hf, hg => by
    rw [run_step f p l _ rfl _ rfl, run_step g p l _ rfl _ rfl]
    split
    · rfl
    · rename_i hk
      rcases good_first (l.drop (runN blankB l)) with ⟨h, _⟩ | ⟨_, _, h1, h2, _⟩
      · exact absurd h hk
      · rw [List.length_drop] at h2
        rw [run_fuel f g _ _ (by rw [List.length_drop, List.length_drop]; omega) (by rw [List.length_drop, List.length_drop]; omega)]
/-- Where the run begins does not matter but for places. -/
theorem run_bare : ∀ (f p q : Nat) (l : List UInt8), (runG f p l).map bareX = (runG f q l).map bareX
  | 0, _, _, _ => rfl
  | f + 1, p, q, l => by
    rw [run_step f p l _ rfl _ rfl, run_step f q l _ rfl _ rfl]
    have ih := run_bare f (p + runN blankB l + (firstT (l.drop (runN blankB l))).2.1) (q + runN blankB l + (firstT (l.drop (runN blankB l))).2.1) ((l.drop (runN blankB l)).drop (firstT (l.drop (runN blankB l))).2.1)
    split
    · rfl
    · simp only [List.map_cons, ih]
      rfl
theorem bare_fst {xs ys : List (Tok × Int)} (h : xs.map bareX = ys.map bareX) : xs.map (fun x => x.1.put 0) = ys.map (fun x => x.1.put 0) := by
  have := congrArg (List.map fun x : Tok × Int => x.1) h
  rw [List.map_map, List.map_map] at this
  exact this
theorem bare_clean {xs ys : List (Tok × Int)} (h : xs.map bareX = ys.map bareX) (hx : ∀ x ∈ xs, x.2 = 0) : ∀ y ∈ ys, y.2 = 0 := by
  have e : xs.map (fun x => x.2) = ys.map (fun x => x.2) := by
    have := congrArg (List.map fun x : Tok × Int => x.2) h
    rw [List.map_map, List.map_map] at this
    exact this
  intro y hy
  have : y.2 ∈ xs.map (fun x => x.2) := by rw [e]; exact List.mem_map.2 ⟨y, hy, rfl⟩
  obtain ⟨x, hx1, hx2⟩ := List.mem_map.1 this
  rw [← hx2]; exact hx x hx1
/-- A blank ahead. -/
theorem run_blank (f p : Nat) (l : List UInt8) : runG (f + 1) p (32 :: l) = runG (f + 1) (p + 1) l := by
  have hb : runN blankB (32 :: l) = runN blankB l + 1 := by
    unfold runN; rw [List.takeWhile_cons, if_pos (by decide)]; rfl
  rw [run_step f p (32 :: l) _ hb _ rfl, run_step f (p + 1) l _ rfl _ rfl, List.drop_succ_cons]
  have e1 : p + (runN blankB l + 1) = p + 1 + runN blankB l := by omega
  rw [e1]
/-- A blank behind changes no kind's row. -/
theorem run_ext {p : UInt8 → Bool} (hp : p 32 = false) : ∀ (r u : List UInt8), runN p (r ++ 32 :: u) = runN p r
  | [], u => by unfold runN; rw [List.nil_append, List.takeWhile_cons, if_neg (by rw [hp]; simp)]; rfl
  | c :: r, u => by
    have ih := run_ext hp r u
    unfold runN at *
    rw [List.cons_append, List.takeWhile_cons, List.takeWhile_cons]
    split
    · simp only [List.length_cons, ih]
    · rfl
theorem prefix_ext : ∀ (p r u : List UInt8), (∀ c ∈ p, c ≠ 32) → Lib.hasPrefix (r ++ 32 :: u) p = Lib.hasPrefix r p
  | [], r, u, _ => by simp [Lib.hasPrefix]
  | c :: p, [], u, h => by
    have : (c == 32) = false := by simpa using h c (by simp)
    simp [Lib.hasPrefix, List.isPrefixOf, this]
  | c :: p, d :: r, u, h => by
    have ih := prefix_ext p r u (fun x hx => h x (by simp [hx]))
    unfold Lib.hasPrefix at *
    rw [List.cons_append, List.isPrefixOf, List.isPrefixOf, ih]
theorem pick_ext {f : Nat → List UInt8} (hf : ∀ k, ∀ c ∈ f k, c ≠ 32) (r u : List UInt8) : ∀ (k n : Nat), pick f (r ++ 32 :: u) k n = pick f r k n
  | _, 0 => rfl
  | k, n + 1 => by rw [pick, pick, prefix_ext _ _ _ (hf k), pick_ext hf r u (k + 1) n]
theorem no_blank {L : List (List UInt8)} (h : (L.all fun x => x.all fun c => c != 32) = true) (k : Nat) : ∀ c ∈ L.getD k [], c ≠ 32 := by
  intro c hc
  rw [List.getD_eq_getElem?_getD] at hc
  cases e : L[k]? with
  | none => rw [e] at hc; simp at hc
  | some x =>
    rw [e] at hc
    have hx := List.all_eq_true.1 h x (List.mem_of_getElem? e)
    simpa using List.all_eq_true.1 hx c hc
theorem names_blank (k : Nat) : ∀ c ∈ nameL k, c ≠ 32 := no_blank (L := names) (by decide) k
theorem signs_blank (k : Nat) : ∀ c ∈ signL k, c ≠ 32 := no_blank (L := signs) (by decide) k
theorem txt_ext : ∀ (n : Nat) (r u : List UInt8) (x : List UInt8 × Nat), r.length ≤ n → txt r = some x → txt (r ++ 32 :: u) = some x
  | _, [], u, x, _, h => by simp [txt] at h
  | 0, c :: r, u, x, hn, h => by simp at hn
  | n + 1, c :: r, u, x, hn, h => by
    by_cases hc : c.toNat = 34
    · have hc' := byte34.1 hc
      subst hc'
      match r with
      | [] =>
        have : txt [34] = some ([], 1) := by simp [txt]
        rw [this] at h
        rw [List.cons_append, List.nil_append, txt_end u (by decide)]
        exact h
      | d :: r' =>
        by_cases hd : d.toNat = 34
        · have hd' := byte34.1 hd
          subst hd'
          rw [txt_two] at h
          rw [List.cons_append, List.cons_append, txt_two]
          cases e : txt r' with
          | none => rw [e] at h; simp at h
          | some y => rw [txt_ext n r' u y (by simp at hn; omega) e]; rw [e] at h; exact h
        · rw [txt_end _ hd] at h
          rw [List.cons_append, List.cons_append, txt_end _ hd]
          exact h
    · rw [txt_in _ hc] at h
      rw [List.cons_append, txt_in _ hc]
      cases e : txt r with
      | none => rw [e] at h; simp at h
      | some y => rw [txt_ext n r u y (by simpa using hn) e]; rw [e] at h; exact h
/-- A token ahead of a blank. -/
theorem first_ext {r : List UInt8} (u : List UInt8) (hr : r ≠ []) (h : (firstT r).1.kind ≠ 0) : firstT (r ++ 32 :: u) = firstT r := by
  match r, hr with
  | c :: r, _ =>
    have hf : ∀ v : List UInt8, firstT (c :: v) = if isDig c then numberT (c :: v) else if c.toNat = 34 then textT (c :: v) else if c.toNat = 35 then faultT (c :: v) else if letterB c || decide (c.toNat = 36) then wordT (c :: v) else signT (c :: v) := fun _ => rfl
    have hn := run_ext (p := numB) (by decide) (c :: r) u
    have hw := run_ext (p := wordB) (by decide) (c :: r) u
    have ln := run_le numB (c :: r)
    have lw := run_le wordB (c :: r)
    rw [hf r] at h
    rw [List.cons_append, hf, hf, ← List.cons_append]
    split
    · unfold numberT; rw [hn, List.take_append_of_le_length ln]
    · rename_i h1
      rw [if_neg h1] at h
      split
      · rename_i h2
        rw [if_pos h2] at h
        have e1 : textT (c :: r ++ 32 :: u) = textOfT (txt (r ++ 32 :: u)) := rfl
        have e2 : textT (c :: r) = textOfT (txt r) := rfl
        rw [e2] at h
        rw [e1, e2]
        cases e : txt r with
        | none => rw [e] at h; exact absurd rfl h
        | some x => rw [txt_ext _ r u x (Nat.le_refl _) e]
      · split
        · unfold faultT; rw [pick_ext names_blank]
        · split
          · unfold wordT
            rw [hw, List.take_append_of_le_length lw, List.drop_append_of_le_length lw, prefix_ext _ _ _ (by decide)]
          · unfold signT; rw [pick_ext signs_blank]
theorem run_ne {f p : Nat} {l : List UInt8} (h : 0 < f) : runG f p l ≠ [] := by
  obtain ⟨g, rfl⟩ : ∃ g, f = g + 1 := ⟨f - 1, by omega⟩
  rw [run_step g p l _ rfl _ rfl]; simp
theorem drop_blank {l : List UInt8} : ∀ (h : runN blankB l < l.length), blankB l[runN blankB l] = false := by
  induction l with
  | nil => intro h; simp at h
  | cons c l ih =>
    intro h
    by_cases hc : blankB c = true
    · have e : runN blankB (c :: l) = runN blankB l + 1 := by unfold runN; rw [List.takeWhile_cons, if_pos hc]; rfl
      have h' : runN blankB l < l.length := by rw [e] at h; simpa using h
      have := ih h'
      simp only [e, List.getElem_cons_succ]
      exact this
    · have hc' : blankB c = false := by simpa using hc
      have e : runN blankB (c :: l) = 0 := blank_none hc'
      simp only [e, List.getElem_cons_zero]
      exact hc'
theorem run_front (l u : List UInt8) (h : runN blankB l < l.length) : runN blankB (l ++ u) = runN blankB l := by
  induction l with
  | nil => simp at h
  | cons c l ih =>
    by_cases hc : blankB c = true
    · have e : ∀ v, runN blankB (c :: v) = runN blankB v + 1 := fun v => by unfold runN; rw [List.takeWhile_cons, if_pos hc]; rfl
      rw [List.cons_append, e, e, ih (by rw [e] at h; simpa using h)]
    · have hc' : blankB c = false := by simpa using hc
      rw [List.cons_append, blank_none hc', blank_none hc']
theorem run_blanks : ∀ (l u : List UInt8) (f p : Nat), runN blankB l = l.length → runG (f + 1) p (l ++ u) = runG (f + 1) (p + l.length) u
  | [], u, f, p, _ => rfl
  | c :: l, u, f, p, h => by
    have hc : blankB c = true := by
      cases hb : blankB c
      · rw [blank_none hb] at h; simp at h
      · rfl
    have e : runN blankB (c :: l) = runN blankB l + 1 := by unfold runN; rw [List.takeWhile_cons, if_pos hc]; rfl
    rw [e] at h
    have c32 : c = 32 := by unfold blankB at hc; simp at hc; exact (byte_is (n := 32) (by omega)).1 hc
    subst c32
    rw [List.cons_append, run_blank, run_blanks l u f (p + 1) (by simpa using h)]
    congr 1
    simp; omega
/-- Two texts with a blank between. -/
theorem run_join : ∀ (n : Nat) (l u : List UInt8) (p F G H : Nat), l.length ≤ n → l.length < F → l.length + 1 + u.length < G → u.length < H → (∀ x ∈ runG F p l, x.2 = 0) →
    runG G p (l ++ 32 :: u) = (runG F p l).dropLast ++ runG H (p + l.length + 1) u := by
  intro n
  induction n with
  | zero =>
    intro l u p F G H hn hF hG hH _
    obtain rfl : l = [] := List.eq_nil_of_length_eq_zero (by omega)
    obtain ⟨F', rfl⟩ : ∃ F', F = F' + 1 := ⟨F - 1, by omega⟩
    obtain ⟨G', rfl⟩ : ∃ G', G = G' + 1 := ⟨G - 1, by omega⟩
    rw [List.nil_append, run_blank, run_last (l := []) (b := 0) (x := (zt, 0, 0)) rfl rfl rfl]
    show _ = runG H (p + 1) u
    exact run_fuel _ _ _ _ (by simp at hG; omega) hH
  | succ n ih =>
    intro l u p F G H hn hF hG hH hc
    obtain ⟨F', rfl⟩ : ∃ F', F = F' + 1 := ⟨F - 1, by omega⟩
    obtain ⟨G', rfl⟩ : ∃ G', G = G' + 1 := ⟨G - 1, by omega⟩
    have hbl := run_le blankB l
    by_cases hall : runN blankB l = l.length
    · rw [run_blanks l (32 :: u) G' p hall, run_blank, run_last (b := l.length) (x := (zt, 0, 0)) hall (by rw [List.drop_length]; rfl) rfl]
      show _ = runG H (p + l.length + 1) u
      exact run_fuel _ _ _ _ (by omega) hH
    · have hlt : runN blankB l < l.length := by omega
      obtain ⟨b, hb⟩ : ∃ b, runN blankB l = b := ⟨_, rfl⟩
      have hb' : runN blankB (l ++ 32 :: u) = b := by rw [run_front l _ hlt, hb]
      obtain ⟨x, hx⟩ : ∃ x, firstT (l.drop b) = x := ⟨_, rfl⟩
      have hne : l.drop b ≠ [] := fun e => by have := congrArg List.length e; rw [List.length_drop] at this; simp at this; omega
      have hk : x.1.kind ≠ 0 := fun e => by
        have h1 := first_kind hne (by rw [hx]; exact e)
        rw [hx] at h1
        rw [run_last hb hx e] at hc
        exact h1 (hc _ (List.mem_singleton.2 rfl))
      have hg := good_first (l.drop b)
      rw [hx] at hg
      rcases hg with ⟨h, _⟩ | ⟨_, _, h1, h2, _⟩
      · exact absurd h hk
      rw [List.length_drop] at h2
      have hx' : firstT ((l ++ 32 :: u).drop b) = x := by
        rw [List.drop_append_of_le_length (by omega), first_ext u hne (by rw [hx]; exact hk), hx]
      rw [run_more hb hx hk] at hc ⊢
      rw [run_more hb' hx' hk, List.drop_append_of_le_length (l₁ := l) (i := b) (by omega), List.drop_append_of_le_length (by rw [List.length_drop]; omega)]
      have hl' : ((l.drop b).drop x.2.1).length = l.length - b - x.2.1 := by rw [List.length_drop, List.length_drop]
      rw [ih ((l.drop b).drop x.2.1) u (p + b + x.2.1) F' G' H (by omega) (by omega) (by omega) hH (fun y hy => hc y (List.mem_cons_of_mem _ hy)), List.dropLast_cons_of_ne_nil (run_ne (by omega)), List.cons_append]
      congr 3
      omega
end Go.Proofs.YtiaoaifoecmemaaGreatDoor
