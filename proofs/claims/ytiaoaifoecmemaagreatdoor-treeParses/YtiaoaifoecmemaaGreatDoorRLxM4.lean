/-
  Plain words for LexParts and LexPlaces, on what Scan tells.
-/
import Derived.Test.YtiaoaifoecmemaaGreatDoorRLxM3
import Derived.Test.YtiaoaifoecmemaaGreatDoorRLxBare
namespace Go.Proofs.YtiaoaifoecmemaaGreatDoor
open Go.RowKit
theorem bad_err {xs : List (Tok × Int)} {x : Int × Int} (h : badG xs = some x) : x.2 ≠ 0 := by
 unfold badG at h
 obtain ⟨y, hy, rfl⟩ := Option.map_eq_some_iff.1 h
 have := List.find?_some hy
 simpa using this
theorem bad_all {xs : List (Tok × Int)} (h : badG xs = none) : ∀ y ∈ xs, y.2 = 0 := by
 unfold badG at h
 rw [Option.map_eq_none_iff, List.find?_eq_none] at h
 intro y hy
 have := h y hy
 simpa using this
theorem scan_zero {l : List UInt8} (h : (scanR l).2.2 = 0) : l.length ≤ 1024 ∧ (∀ x ∈ allG l, x.2 = 0) ∧ scanR l = ((allG l).map (fun x => x.1), 0, 0) := by
  unfold scanR at h ⊢
  by_cases h1 : 1024 < l.length
  · rw [if_pos h1] at h; simp at h
  · rw [if_neg h1] at h ⊢
    cases e : badG (allG l) with
    | none => exact ⟨by omega, bad_all e, rfl⟩
    | some x => rw [e] at h; exact absurd h (bad_err e)
theorem scan_bad {l : List UInt8} (h : (scanR l).2.2 ≠ 0) : (scanR l).1 = [] := by
  unfold scanR at h ⊢
  by_cases h1 : 1024 < l.length
  · rw [if_pos h1]
  · rw [if_neg h1] at h ⊢
    cases e : badG (allG l) with
    | none => rw [e] at h; exact absurd rfl h
    | some x => rfl
theorem all_len (l : List UInt8) : (allG l).length ≤ l.length + 1 := run_len _ _ _
theorem run_end : ∀ (n F p : Nat) (l : List UInt8), l.length ≤ n → l.length < F → (∀ x ∈ runG F p l, x.2 = 0) → (runG F p l).getLast? = some (zt.put ((p + l.length : Nat) : Int), 0)
  | n, F, p, l, hn, hF, hc => by
    obtain ⟨F', rfl⟩ : ∃ F', F = F' + 1 := ⟨F - 1, by omega⟩
    obtain ⟨b, hb⟩ : ∃ b, runN blankB l = b := ⟨_, rfl⟩
    obtain ⟨x, hx⟩ : ∃ x, firstT (l.drop b) = x := ⟨_, rfl⟩
    have hbl := run_le blankB l
    rw [hb] at hbl
    by_cases hk : x.1.kind = 0
    · have he : l.drop b = [] := by
        by_cases h : l.drop b = []
        · exact h
        · have h1 := first_kind h (by rw [hx]; exact hk)
          rw [hx] at h1
          rw [run_last hb hx hk] at hc
          exact absurd (hc _ (List.mem_singleton.2 rfl)) h1
      have hbe : b = l.length := by have := congrArg List.length he; rw [List.length_drop] at this; simp at this; omega
      rw [he] at hx
      have hx' : x = (zt, 0, 0) := hx.symm
      rw [run_last hb (by rw [he]; exact hx) hk, hx', hbe]
      rfl
    · have hg := good_first (l.drop b)
      rw [hx] at hg
      rcases hg with ⟨h, _⟩ | ⟨_, _, h1, h2, _⟩
      · exact absurd h hk
      rw [List.length_drop] at h2
      have hl' : ((l.drop b).drop x.2.1).length = l.length - b - x.2.1 := by rw [List.length_drop, List.length_drop]
      match n with
      | 0 => omega
      | n + 1 =>
        rw [run_more hb hx hk] at hc ⊢
        have ih := run_end n F' (p + b + x.2.1) ((l.drop b).drop x.2.1) (by omega) (by omega) (fun y hy => hc y (List.mem_cons_of_mem _ hy))
        rw [List.getLast?_cons_of_ne_nil (run_ne (by omega)), ih]
        congr 3
        omega
end Go.Proofs.YtiaoaifoecmemaaGreatDoor
