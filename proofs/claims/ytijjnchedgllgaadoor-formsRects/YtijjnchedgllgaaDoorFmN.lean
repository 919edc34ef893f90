/-
  The rectangles that a formula names: each stands once, is right; those of a kid are among those of its node.
-/
import Derived.Test.YtijjnchedgllgaaDoorFmD
namespace Go.Proofs.YtijjnchedgllgaaDoor
open Go.RowKit Go.Shelf

theorem addR_mem {l : List (Int × Int × Int × Int)} {r s : Int × Int × Int × Int} : s ∈ addR l r ↔ s ∈ l ∨ s = r := by
  unfold addR
  by_cases h : r ∈ l
  · rw [if_pos h]
    constructor
    · exact .inl
    · rintro (h1 | rfl)
      · exact h1
      · exact h
  · rw [if_neg h]
    simp
theorem addR_nodup {l : List (Int × Int × Int × Int)} {r : Int × Int × Int × Int} (h : l.Nodup) : (addR l r).Nodup := by
  unfold addR
  by_cases hr : r ∈ l
  · rw [if_pos hr]
    exact h
  · rw [if_neg hr, List.nodup_append]
    exact ⟨h, by simp, fun a ha b hb e => hr (by rw [← List.mem_singleton.1 hb, ← e]; exact ha)⟩
theorem rects_fold : ∀ (q : List (Hd × Fo)) (acc : List (Int × Int × Int × Int)), acc.Nodup →
    (q.foldl (fun acc x => if (rectH x.1).2 = true then addR acc (rectH x.1).1 else acc) acc).Nodup ∧ ∀ s, s ∈ (q.foldl (fun acc x => if (rectH x.1).2 = true then addR acc (rectH x.1).1 else acc) acc) ↔ s ∈ acc ∨ ∃ x ∈ q, (rectH x.1).2 = true ∧ (rectH x.1).1 = s
  | [], acc, h => ⟨h, fun s => by simp⟩
  | x :: q, acc, h => by
    rw [List.foldl_cons]
    by_cases hx : (rectH x.1).2 = true
    · rw [if_pos hx]
      obtain ⟨h1, h2⟩ := rects_fold q (addR acc (rectH x.1).1) (addR_nodup h)
      refine ⟨h1, fun s => (h2 s).trans ?_⟩
      rw [addR_mem]
      constructor
      · rintro ((h3 | rfl) | ⟨y, hy, h4⟩)
        · exact .inl h3
        · exact .inr ⟨x, by simp, hx, rfl⟩
        · exact .inr ⟨y, by simp [hy], h4⟩
      · rintro (h3 | ⟨y, hy, h4, h5⟩)
        · exact .inl (.inl h3)
        · rcases List.mem_cons.1 hy with rfl | hy
          · exact .inl (.inr h5.symm)
          · exact .inr ⟨y, hy, h4, h5⟩
    · rw [if_neg hx]
      obtain ⟨h1, h2⟩ := rects_fold q acc h
      refine ⟨h1, fun s => (h2 s).trans ?_⟩
      constructor
      · rintro (h3 | ⟨y, hy, h4⟩)
        · exact .inl h3
        · exact .inr ⟨y, by simp [hy], h4⟩
      · rintro (h3 | ⟨y, hy, h4, h5⟩)
        · exact .inl h3
        · rcases List.mem_cons.1 hy with rfl | hy
          · exact absurd h4 hx
          · exact .inr ⟨y, hy, h4, h5⟩
theorem rectsL_nodup (q : List (Hd × Fo)) : (rectsL q).Nodup := (rects_fold q [] (by simp)).1
theorem rectsL_mem (q : List (Hd × Fo)) (s : Int × Int × Int × Int) : s ∈ rectsL q ↔ ∃ x ∈ q, (rectH x.1).2 = true ∧ (rectH x.1).1 = s := by
  have := (rects_fold q [] (by simp)).2 s
  unfold rectsL
  simpa using this
theorem rectsN_nodup (h : Hd) (k : Fo) : (rectsN h k).Nodup := by
  unfold rectsN
  split
  · exact rectsL_nodup _
  · simp
theorem rectsN_len (h : Hd) (k : Fo) : (rectsN h k).length ≤ k.many + 1 := by
  unfold rectsN
  split
  · have hg : ∀ (q : List (Hd × Fo)) (acc : List (Int × Int × Int × Int)), (q.foldl (fun acc x => if (rectH x.1).2 = true then addR acc (rectH x.1).1 else acc) acc).length ≤ acc.length + q.length := by
      intro q
      induction q with
      | nil => intro acc; simp
      | cons x q ih =>
        intro acc
        rw [List.foldl_cons]
        refine Nat.le_trans (ih _) ?_
        have : (if (rectH x.1).2 = true then addR acc (rectH x.1).1 else acc).length ≤ acc.length + 1 := by
          split
          · unfold addR
            split <;> simp
          · omega
        simp only [List.length_cons]
        omega
    have h1 := hg (preF (.cons h k .nil)) []
    have h2 := preF_len (.cons h k .nil)
    simp only [Fo.many] at h2
    unfold rectsL
    simp only [List.length_nil] at h1
    omega
  · simp
/-- A kid of a node that is right is right. -/
theorem kid_check {h : Hd} {k : Fo} {x : Hd × Fo} (hx : x ∈ kidsL k) (hc : checkN h k = 0) : checkN x.1 x.2 = 0 := by
  have hd := kid_deep k x hx
  unfold checkN at hc ⊢
  by_cases h1 : 160 < k.deep + 1
  · rw [if_pos h1] at hc; exact absurd hc (by decide)
  · rw [if_neg h1] at hc
    by_cases h2 : rightN h k = false
    · rw [if_pos h2] at hc; exact absurd hc (by decide)
    · rw [if_neg h2] at hc
      by_cases h3 : 40 < k.deep + 1
      · rw [if_pos h3] at hc; exact absurd hc (by decide)
      · have h2' : rightN h k = true := by simpa using h2
        simp only [rightN, Bool.and_eq_true] at h2'
        have := kid_all k x hx h2'.2
        rw [if_neg (by omega), if_neg (by simp [this]), if_neg (by omega)]
theorem kid_rects {h : Hd} {k : Fo} {x : Hd × Fo} (hx : x ∈ kidsL k) (hc : checkN h k = 0) : ∀ s ∈ rectsN x.1 x.2, s ∈ rectsN h k := by
  intro s hs
  unfold rectsN at hs ⊢
  rw [if_pos (kid_check hx hc)] at hs
  rw [if_pos hc]
  obtain ⟨y, hy, hr⟩ := (rectsL_mem _ _).1 hs
  refine (rectsL_mem _ _).2 ⟨y, ?_, hr⟩
  obtain ⟨l, r, he⟩ := kid_pre k x hx
  have : y ∈ preF k := by rw [he]; simp [hy]
  simp [preF, this]
end Go.Proofs.YtijjnchedgllgaaDoor
