/-
  The answer's row of forms, in plain words: each is put where its name belongs; a row that has the same forms, by their names, is that row.
-/
import Derived.Test.YtklldmidcmfbdaaGreatDoorFmB1
namespace Go.Proofs.YtklldmidcmfbdaaGreatDoor
open Go.RowKit Go.Shelf

def lessN (x y : Fu) : Bool := Op.bytesLess x.name.toList y.name.toList
/-- How many stand ahead of a form. -/
def posF : List Fu → Fu → Nat
  | [], _ => 0
  | x :: l, f => if lessN x f then posF l f + 1 else 0
def insF (l : List Fu) (f : Fu) : List Fu := l.take (posF l f) ++ f :: l.drop (posF l f)
def refAll : List Fu := fnsL.foldl insF []
theorem pos_le : ∀ (l : List Fu) (f : Fu), posF l f ≤ l.length
  | [], _ => Nat.le_refl _
  | x :: l, f => by
    simp only [posF]
    split
    · simpa using pos_le l f
    · simp
theorem pos_is : ∀ (l : List Fu) (f : Fu) (p : Nat), (∀ (m : Nat) x, m < p → l[m]? = some x → lessN x f = true) → p ≤ l.length → (∀ x, l[p]? = some x → lessN x f = false) → posF l f = p
  | [], _, p, _, h2, _ => by simp at h2; subst h2; rfl
  | x :: l, f, 0, _, _, h3 => by simp [posF, h3 x rfl]
  | x :: l, f, p + 1, h1, h2, h3 => by
    simp only [posF, h1 0 x (by omega) rfl, if_true]
    rw [pos_is l f p (fun m y hm hy => h1 (m + 1) y (by omega) (by simpa using hy)) (by simpa using h2) (fun y hy => h3 y (by simpa using hy))]
theorem ins_len (l : List Fu) (f : Fu) : (insF l f).length = l.length + 1 := by
  have := pos_le l f
  simp [insF]
  omega
theorem ins_perm (l : List Fu) (f : Fu) : (insF l f).Perm (f :: l) := by
  unfold insF
  refine List.perm_middle.trans (.cons _ ?_)
  rw [List.take_append_drop]
theorem fold_perm : ∀ (q l : List Fu), (q.foldl insF l).Perm (q ++ l)
  | [], l => .refl _
  | f :: q, l => by
    refine (fold_perm q (insF l f)).trans ?_
    refine (List.Perm.append_left q (ins_perm l f)).trans ?_
    exact List.perm_middle
theorem ref_perm : refAll.Perm fnsL := by
  have := fold_perm fnsL []
  rw [List.append_nil] at this
  exact this
def sortedB : List Fu → Bool
  | [] => true
  | x :: r => r.all (lessN x) && sortedB r
theorem ref_sorted : sortedB refAll = true := by kernel_rfl
theorem sorted_same : ∀ (r l : List Fu), sortedB r = true → l.Perm r → l.Pairwise (fun x y => lessN y x = false) → l = r
  | [], l, _, hp, _ => hp.eq_nil
  | x :: r, l, hs, hp, hl => by
    simp only [sortedB, Bool.and_eq_true, List.all_eq_true] at hs
    match l, hp, hl with
    | [], hp, _ => exact absurd hp.symm.eq_nil (by simp)
    | y :: l, hp, hl =>
      have hxy : y = x := by
        rcases List.mem_cons.1 (hp.subset (List.mem_cons_self ..)) with h | h
        · exact h
        · rcases List.mem_cons.1 (hp.symm.subset (List.mem_cons_self ..)) with h2 | h2
          · exact h2.symm
          · have h3 := hs.1 y h
            have h4 := (List.pairwise_cons.1 hl).1 x h2
            rw [h3] at h4
            cases h4
      subst hxy
      rw [sorted_same r l hs.2 hp.cons_inv (List.pairwise_cons.1 hl).2]
theorem ref_len : refAll.length = 86 := by rw [ref_perm.length_eq]; kernel_rfl
end Go.Proofs.YtklldmidcmfbdaaGreatDoor
