/-
  Plain words for LexParts and LexPlaces, on what Scan tells.
-/
import Derived.Test.YtiaoaifoecmemaaGreatDoorLxM3
import Derived.Test.YtiaoaifoecmemaaGreatDoorLxBare
namespace Go.Proofs.YtiaoaifoecmemaaGreatDoor
open Go.RowKit

theorem bad_err {xs : List (Tok × Int)} {x : Int × Int} (h : badG xs = some x) : x.2 ≠ 0 := by
  unfold badG at h
  obtain ⟨y, hy, rfl⟩ := Option.map_eq_some_iff.1 h
  have := List.find?_some hy
  simpa using this
theorem bad_all {xs : List (Tok × Int)} (h : badG xs = none) : ∀ y ∈ xs, y.2 = 0 := by
  unfold badG at h
  rw [Option.map_eq_none_iff, List.find?_eq_none] at h
  intro y hy
  have := h y hy
  simpa using this
theorem scan_zero {l : List UInt8} (h : (scanR l).2.2 = 0) : l.length ≤ 1024 ∧ (∀ x ∈ allG l, x.2 = 0) ∧ scanR l = ((allG l).map (fun x => x.1), 0, 0) := by
  unfold scanR at h ⊢
  by_cases h1 : 1024 < l.length
  · rw [if_pos h1] at h; simp at h
  · rw [if_neg h1] at h ⊢
    cases e : badG (allG l) with
    | none => exact ⟨by omega, bad_all e, rfl⟩
    | some x => rw [e] at h; exact absurd h (bad_err e)
theorem scan_bad {l : List UInt8} (h : (scanR l).2.2 ≠ 0) : (scanR l).1 = [] := by
  unfold scanR at h ⊢
  by_cases h1 : 1024 < l.length
  · rw [if_pos h1]
  · rw [if_neg h1] at h ⊢
    cases e : badG (allG l) with
    | none => rw [e] at h; exact absurd rfl h
    | some x => rfl
theorem scan_of {l : List UInt8} (h : l.length ≤ 1024) (h1 : ∀ x ∈ allG l, x.2 = 0) : scanR l = ((allG l).map (fun x => x.1), 0, 0) := by
  unfold scanR; rw [if_neg (by omega), bad_none h1]; rfl
theorem bareT_map (xs : List (Tok × Int)) : bareT (xs.map fun x => x.1) = xs.dropLast.map (fun x => x.1.put 0) := by
  unfold bareT
  rw [List.length_map, ← List.map_take, ← List.dropLast_eq_take, List.map_map]
  rfl
theorem all_len (l : List UInt8) : (allG l).length ≤ l.length + 1 := run_len _ _ _
theorem dropLast_bare {xs ys : List (Tok × Int)} (h : xs.map bareX = ys.map bareX) : xs.dropLast.map (fun x => x.1.put 0) = ys.dropLast.map (fun x => x.1.put 0) := by
  refine bare_fst ?_
  rw [List.map_dropLast, List.map_dropLast, h]
/-- P7.2, P7.3: blanks about, a blank between. -/
theorem scan_parts {s t : List UInt8} (hs : s.length ≤ 400) (ht : t.length ≤ 400) (h1 : (scanR s).2.2 = 0) (h2 : (scanR t).2.2 = 0) :
    (scanR (32 :: 32 :: (s ++ 32 :: (t ++ 32 :: [32, 32])))).2.2 = 0 ∧ bareT (scanR (32 :: 32 :: (s ++ 32 :: (t ++ 32 :: [32, 32])))).1 = bareT (scanR s).1 ++ bareT (scanR t).1 := by
  obtain ⟨_, c1, e1⟩ := scan_zero h1
  obtain ⟨_, c2, e2⟩ := scan_zero h2
  have hX : (32 :: 32 :: (s ++ 32 :: (t ++ 32 :: [32, 32])) : List UInt8).length = s.length + t.length + 6 := by simp; omega
  have hv : (t ++ 32 :: [32, 32] : List UInt8).length = t.length + 3 := by simp
  have ha : allG (32 :: 32 :: (s ++ 32 :: (t ++ 32 :: [32, 32]))) = (runG (s.length + 1) 2 s).dropLast ++ ((runG (t.length + 1) (2 + s.length + 1) t).dropLast ++ [(zt.put ((2 + s.length + 1 + t.length + 1 + 2 : Nat) : Int), 0)]) := by
    unfold allG
    rw [hX, run_blank, run_blank]
    show runG _ 2 _ = _
    rw [run_join s.length s (t ++ 32 :: [32, 32]) 2 (s.length + 1) (s.length + t.length + 6 + 1) (t.length + 4) (Nat.le_refl _) (by omega) (by omega) (by omega) (bare_clean (run_bare (s.length + 1) 0 2 s) c1)]
    rw [run_join t.length t [32, 32] (2 + s.length + 1) (t.length + 1) (t.length + 4) 3 (Nat.le_refl _) (by omega) (by simp) (by simp) (bare_clean (run_bare (t.length + 1) 0 (2 + s.length + 1) t) c2)]
    congr 2
  have d1 := bare_clean (run_bare (s.length + 1) 0 2 s) c1
  have d2 := bare_clean (run_bare (t.length + 1) 0 (2 + s.length + 1) t) c2
  have hcl : ∀ x ∈ allG (32 :: 32 :: (s ++ 32 :: (t ++ 32 :: [32, 32]))), x.2 = 0 := by
    rw [ha]
    intro x hx
    rcases List.mem_append.1 hx with hx | hx
    · exact d1 x ((List.dropLast_sublist _).subset hx)
    · rcases List.mem_append.1 hx with hx | hx
      · exact d2 x ((List.dropLast_sublist _).subset hx)
      · rw [List.mem_singleton.1 hx]
  have e3 := scan_of (l := 32 :: 32 :: (s ++ 32 :: (t ++ 32 :: [32, 32]))) (by omega) hcl
  rw [e3, e1, e2]
  refine ⟨rfl, ?_⟩
  rw [bareT_map, bareT_map, bareT_map, ha, ← List.append_assoc, List.dropLast_concat, List.map_append]
  rw [dropLast_bare (run_bare (s.length + 1) 2 0 s), dropLast_bare (run_bare (t.length + 1) (2 + s.length + 1) 0 t)]
  rfl
/-- P7.4: each token but the end. -/
theorem run_place : ∀ (i F p : Nat) (l : List UInt8), l.length < F → i + 1 < (runG F p l).length → ∃ (q : Nat) (x y : Tok × Int), q < l.length ∧ (runG F p l)[i]? = some x ∧ (runG F p l)[i + 1]? = some y ∧ x.1.pos = ((p + q : Nat) : Int) ∧ x.1.kind ≠ 0 ∧ x.1.pos < y.1.pos ∧
    (∀ h : q < l.length, blankB l[q] = false) ∧ ∀ G, (l.drop q).length < G → (runG G 0 (l.drop q)).map bareX = ((runG F p l).drop i).map bareX
  | i, F, p, l, hF, hi => by
    obtain ⟨F', rfl⟩ : ∃ F', F = F' + 1 := ⟨F - 1, by omega⟩
    obtain ⟨b, hb⟩ : ∃ b, runN blankB l = b := ⟨_, rfl⟩
    obtain ⟨x, hx⟩ : ∃ x, firstT (l.drop b) = x := ⟨_, rfl⟩
    have hk : x.1.kind ≠ 0 := fun e => by rw [run_last hb hx e] at hi; simp at hi
    have hg := good_first (l.drop b)
    rw [hx] at hg
    rcases hg with ⟨h, _⟩ | ⟨_, _, h1, h2, _⟩
    · exact absurd h hk
    have h2' := h2
    rw [List.length_drop] at h2
    have hlt : b < l.length := by omega
    have hbl : ∀ h : b < l.length, blankB l[b] = false := by subst hb; exact fun h => drop_blank h
    rw [run_more hb hx hk] at hi ⊢
    have hl' : ((l.drop b).drop x.2.1).length = l.length - b - x.2.1 := by rw [List.length_drop, List.length_drop]
    match i with
    | 0 =>
      obtain ⟨F'', rfl⟩ : ∃ F'', F' = F'' + 1 := ⟨F' - 1, by omega⟩
      obtain ⟨b2, hb2⟩ : ∃ b2, runN blankB ((l.drop b).drop x.2.1) = b2 := ⟨_, rfl⟩
      obtain ⟨x2, hx2⟩ : ∃ x2, firstT (((l.drop b).drop x.2.1).drop b2) = x2 := ⟨_, rfl⟩
      refine ⟨b, _, (x2.1.put ((p + b + x.2.1 + b2 : Nat) : Int), x2.2.2), hlt, rfl, ?_, rfl, hk, ?_, hbl, fun G hG => ?_⟩
      · rw [List.getElem?_cons_succ, run_step F'' _ _ b2 hb2 x2 hx2]; rfl
      · show ((p + b : Nat) : Int) < ((p + b + x.2.1 + b2 : Nat) : Int); omega
      · obtain ⟨G', rfl⟩ : ∃ G', G = G' + 1 := ⟨G - 1, by omega⟩
        have hd : l.drop b = l[b] :: l.drop (b + 1) := List.drop_eq_getElem_cons hlt
        have hb0 : runN blankB (l.drop b) = 0 := by rw [hd]; exact blank_none (hbl hlt)
        rw [run_more hb0 (by rw [List.drop_zero, hx]) hk, List.drop_zero, List.drop_zero, List.map_cons, List.map_cons]
        congr 1
        rw [run_bare G' _ (p + b + x.2.1), run_fuel G' (F'' + 1) _ _ (by rw [List.length_drop]; omega) (by omega)]
    | i + 1 =>
      obtain ⟨q, y, z, hq, hy, hz, e1, e2, e3, e4, e5⟩ := run_place i F' (p + b + x.2.1) ((l.drop b).drop x.2.1) (by omega) (by simpa using hi)
      have hdr : ((l.drop b).drop x.2.1).drop q = l.drop (b + x.2.1 + q) := by rw [List.drop_drop, List.drop_drop]; congr 1; omega
      refine ⟨b + x.2.1 + q, y, z, by omega, by rw [List.getElem?_cons_succ]; exact hy, by rw [List.getElem?_cons_succ]; exact hz, ?_, e2, e3, fun h => ?_, fun G hG => ?_⟩
      · rw [e1]; omega
      · have := e4 hq
        simp only [List.getElem_drop] at this
        have e6 : b + (x.2.1 + q) = b + x.2.1 + q := by omega
        simpa only [e6] using this
      · rw [List.drop_succ_cons, ← hdr]
        exact e5 G (by rw [hdr]; exact hG)
/-- The last one is the end. -/
theorem run_end : ∀ (n F p : Nat) (l : List UInt8), l.length ≤ n → l.length < F → (∀ x ∈ runG F p l, x.2 = 0) → (runG F p l).getLast? = some (zt.put ((p + l.length : Nat) : Int), 0)
  | n, F, p, l, hn, hF, hc => by
    obtain ⟨F', rfl⟩ : ∃ F', F = F' + 1 := ⟨F - 1, by omega⟩
    obtain ⟨b, hb⟩ : ∃ b, runN blankB l = b := ⟨_, rfl⟩
    obtain ⟨x, hx⟩ : ∃ x, firstT (l.drop b) = x := ⟨_, rfl⟩
    have hbl := run_le blankB l
    rw [hb] at hbl
    by_cases hk : x.1.kind = 0
    · have he : l.drop b = [] := by
        by_cases h : l.drop b = []
        · exact h
        · have h1 := first_kind h (by rw [hx]; exact hk)
          rw [hx] at h1
          rw [run_last hb hx hk] at hc
          exact absurd (hc _ (List.mem_singleton.2 rfl)) h1
      have hbe : b = l.length := by have := congrArg List.length he; rw [List.length_drop] at this; simp at this; omega
      rw [he] at hx
      have hx' : x = (zt, 0, 0) := hx.symm
      rw [run_last hb (by rw [he]; exact hx) hk, hx', hbe]
      rfl
    · have hg := good_first (l.drop b)
      rw [hx] at hg
      rcases hg with ⟨h, _⟩ | ⟨_, _, h1, h2, _⟩
      · exact absurd h hk
      rw [List.length_drop] at h2
      have hl' : ((l.drop b).drop x.2.1).length = l.length - b - x.2.1 := by rw [List.length_drop, List.length_drop]
      match n with
      | 0 => omega
      | n + 1 =>
        rw [run_more hb hx hk] at hc ⊢
        have ih := run_end n F' (p + b + x.2.1) ((l.drop b).drop x.2.1) (by omega) (by omega) (fun y hy => hc y (List.mem_cons_of_mem _ hy))
        rw [List.getLast?_cons_of_ne_nil (run_ne (by omega)), ih]
        congr 3
        omega
end Go.Proofs.YtiaoaifoecmemaaGreatDoor
