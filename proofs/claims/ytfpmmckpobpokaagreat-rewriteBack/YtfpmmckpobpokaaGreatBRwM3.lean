/-
  The rectangles that a formula names: each stands once, is right; those of a kid are among those of its node.
-/
import Derived.Test.YtfpmmckpobpokaaGreatBRwM2
namespace Go.Proofs.YtfpmmckpobpokaaGreat
open Go.RowKit Go.Shelf
theorem addR_mem {l : List (Int × Int × Int × Int)} {r s : Int × Int × Int × Int} : s ∈ addRc l r ↔ s ∈ l ∨ s = r := by
 unfold addRc
 by_cases h : r ∈ l
 ·
  rw [if_pos h]
  constructor
  ·
   exact .inl
  ·
   rintro (h1 | rfl)
   ·
    exact h1
   ·
    exact h
 ·
  rw [if_neg h]
  simp
theorem addR_nodup {l : List (Int × Int × Int × Int)} {r : Int × Int × Int × Int} (h : l.Nodup) : (addRc l r).Nodup := by
 unfold addRc
 by_cases hr : r ∈ l
 ·
  rw [if_pos hr]
  exact h
 ·
  rw [if_neg hr, List.nodup_append]
  exact ⟨h, by simp, fun a ha b hb e => hr (by rw [← List.mem_singleton.1 hb, ← e]; exact ha)⟩
theorem rects_fold : ∀ (q : List (Hd × Fo)) (acc : List (Int × Int × Int × Int)), acc.Nodup →
  (q.foldl (fun acc x => if (rectH x.1).2 = true then addRc acc (rectH x.1).1 else acc) acc).Nodup ∧ ∀ s, s ∈ (q.foldl (fun acc x => if (rectH x.1).2 = true then addRc acc (rectH x.1).1 else acc) acc) ↔ s ∈ acc ∨ ∃ x ∈ q, (rectH x.1).2 = true ∧ (rectH x.1).1 = s
 | [], acc, h => ⟨h, fun s => by simp⟩
 | x :: q, acc, h => by
  rw [List.foldl_cons]
  by_cases hx : (rectH x.1).2 = true
  ·
   rw [if_pos hx]
   obtain ⟨h1, h2⟩ := rects_fold q (addRc acc (rectH x.1).1) (addR_nodup h)
   refine ⟨h1, fun s => (h2 s).trans ?_⟩
   rw [addR_mem]
   constructor
   ·
    rintro ((h3 | rfl) | ⟨y, hy, h4⟩)
    ·
     exact .inl h3
    ·
     exact .inr ⟨x, by simp, hx, rfl⟩
    ·
     exact .inr ⟨y, by simp [hy], h4⟩
   ·
    rintro (h3 | ⟨y, hy, h4, h5⟩)
    ·
     exact .inl (.inl h3)
    ·
     rcases List.mem_cons.1 hy with rfl | hy
     ·
      exact .inl (.inr h5.symm)
     ·
      exact .inr ⟨y, hy, h4, h5⟩
  ·
   rw [if_neg hx]
   obtain ⟨h1, h2⟩ := rects_fold q acc h
   refine ⟨h1, fun s => (h2 s).trans ?_⟩
   constructor
   ·
    rintro (h3 | ⟨y, hy, h4⟩)
    ·
     exact .inl h3
    ·
     exact .inr ⟨y, by simp [hy], h4⟩
   ·
    rintro (h3 | ⟨y, hy, h4, h5⟩)
    ·
     exact .inl h3
    ·
     rcases List.mem_cons.1 hy with rfl | hy
     ·
      exact absurd h4 hx
     ·
      exact .inr ⟨y, hy, h4, h5⟩
theorem rectsL_mem (q : List (Hd × Fo)) (s : Int × Int × Int × Int) : s ∈ rectsL q ↔ ∃ x ∈ q, (rectH x.1).2 = true ∧ (rectH x.1).1 = s := by
 have := (rects_fold q [] (by simp)).2 s
 unfold rectsL
 simpa using this
theorem rectsN_len (h : Hd) (k : Fo) : (rectsN h k).length ≤ k.many + 1 := by
 unfold rectsN
 split
 ·
  have hg : ∀ (q : List (Hd × Fo)) (acc : List (Int × Int × Int × Int)), (q.foldl (fun acc x => if (rectH x.1).2 = true then addRc acc (rectH x.1).1 else acc) acc).length ≤ acc.length + q.length := by
   intro q
   induction q with
   | nil => intro acc; simp
   | cons x q ih =>
    intro acc
    rw [List.foldl_cons]
    refine Nat.le_trans (ih _) ?_
    have : (if (rectH x.1).2 = true then addRc acc (rectH x.1).1 else acc).length ≤ acc.length + 1 := by
     split
     ·
      unfold addRc
      split <;> simp
     ·
      omega
    simp only [List.length_cons]
    omega
  have h1 := hg (preF (.cons h k .nil)) []
  have h2 := preF_len (.cons h k .nil)
  simp only [Fo.many] at h2
  unfold rectsL
  simp only [List.length_nil] at h1
  omega
 ·
  simp
end Go.Proofs.YtfpmmckpobpokaaGreat
