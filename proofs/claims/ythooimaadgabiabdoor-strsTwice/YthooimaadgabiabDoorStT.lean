/-
  What is trimmed twice, lowered twice, folded and lowered, put so many times; what patterns without signs and letters are like.
-/
import Derived.Test.YthooimaadgabiabDoorSt0
import Derived.Test.YthooimaadgabiabDoorStM
namespace Go.Proofs.YthooimaadgabiabDoor

/-- The trim's state behind a text. -/
def trStep (x : Bool × By) (c : UInt8) : Bool × By := if c = 32 then (true, x.2) else (false, (if x.1 ∧ x.2 ≠ [] then x.2 ++ [32] else x.2) ++ [c])
theorem trF_fold : ∀ (l : By) (p : Bool) (o : By), trF p o l = (l.foldl trStep (p, o)).2
  | [], p, o => by rw [trF.eq_def]; rfl
  | c :: r, p, o => by
    rw [trF, List.foldl_cons]
    unfold trStep
    by_cases h : c = 32
    · rw [if_pos h, if_pos h]; exact trF_fold r true o
    · rw [if_neg h, if_neg h]; exact trF_fold r false _
def GoodT (o : By) : Prop := o.foldl trStep (false, []) = (false, o)
theorem good_step {p : Bool} {o : By} {c : UInt8} (h : GoodT o) : GoodT (trStep (p, o) c).2 := by
  unfold trStep
  by_cases hc : c = 32
  · rw [if_pos hc]; exact h
  · rw [if_neg hc]
    dsimp only
    unfold GoodT at *
    by_cases hp : p = true ∧ o ≠ []
    · rw [if_pos hp, List.foldl_append, List.foldl_append, h]
      simp [trStep, hc, hp.2]
    · rw [if_neg hp, List.foldl_append, h]
      simp [trStep, hc]
theorem good_fold : ∀ (l : By) (x : Bool × By), GoodT x.2 → GoodT (l.foldl trStep x).2
  | [], x, h => h
  | c :: l, x, h => by
    rw [List.foldl_cons]
    exact good_fold l _ (good_step (p := x.1) h)
theorem trL_twice (s : By) : trL (trL s) = trL s := by
  have h : GoodT (trL s) := by
    unfold trL
    rw [trF_fold]
    exact good_fold s (false, []) rfl
  have e : trL (trL s) = ((trL s).foldl trStep (false, [])).2 := trF_fold _ _ _
  rw [e, h]
theorem loB_nat (c : UInt8) : (loB c).toNat = if 65 ≤ c.toNat ∧ c.toNat ≤ 90 then c.toNat + 32 else c.toNat := by
  unfold loB
  by_cases h : 65 ≤ c.toNat ∧ c.toNat ≤ 90
  · rw [if_pos h, if_pos h, UInt8.toNat_add, UInt8.toNat_sub_of_le _ _ (by show (65 : UInt8).toNat ≤ c.toNat; exact h.1)]
    have e1 : (65 : UInt8).toNat = 65 := rfl
    have e2 : (97 : UInt8).toNat = 97 := rfl
    omega
  · rw [if_neg h, if_neg h]
theorem loB_twice (c : UInt8) : loB (loB c) = loB c := by
  apply UInt8.toNat_inj.1
  rw [loB_nat, loB_nat c]
  (repeat' split) <;> omega
theorem loL_twice (s : By) : loL (loL s) = loL s := by
  unfold loL
  rw [List.map_map]
  exact List.map_congr_left (fun c _ => loB_twice c)
theorem foldB_nat (c : UInt8) : (foldB c).toNat = if 97 ≤ c.toNat ∧ c.toNat ≤ 122 then c.toNat - 32 else c.toNat := by
  by_cases h : 97 ≤ c.toNat ∧ c.toNat ≤ 122
  · rw [if_pos h]; exact foldB_in h.1 h.2
  · rw [if_neg h, foldB_out h]
theorem loB_fold (c : UInt8) : loB (foldB c) = loB c := by
  apply UInt8.toNat_inj.1
  rw [loB_nat, loB_nat c, foldB_nat]
  have := c.toNat_lt
  (repeat' split) <;> omega
theorem loL_fold (s : By) : loL (foldL s) = loL s := by
  unfold loL foldL
  rw [List.map_map]
  exact List.map_congr_left (fun c _ => loB_fold c)
theorem loL_len (s : By) : (loL s).length = s.length := by unfold loL; rw [List.length_map]
theorem rpL_front (s : By) : ∀ n, rpL s (n + 1) = s ++ rpL s n
  | 0 => by simp [rpL]
  | n + 1 => by
    show rpL s (n + 1) ++ s = s ++ (rpL s n ++ s)
    rw [rpL_front s n, List.append_assoc]
theorem rpL_take (s : By) {n : Nat} (h : 0 < n) : (rpL s n).take s.length = s := by
  obtain ⟨m, rfl⟩ : ∃ m, n = m + 1 := ⟨n - 1, by omega⟩
  rw [rpL_front, List.take_left']
  rfl
/-- A byte that is no sign of a pattern, and no letter. -/
def tameB (c : UInt8) : Bool := !(c == 63 || c == 42 || c == 126) && !(decide (65 ≤ c.toNat) && decide (c.toNat ≤ 90)) && !(decide (97 ≤ c.toNat) && decide (c.toNat ≤ 122))
theorem tame_quiet {p : By} (h : p.all tameB = true) : quietB p = true := by
  unfold quietB
  rw [List.all_eq_true] at *
  intro c hc
  have := h c hc
  unfold tameB at this
  rw [Bool.and_eq_true, Bool.and_eq_true] at this
  exact this.1.1
theorem tame_fold {p : By} (h : p.all tameB = true) : foldL p = p := by
  unfold foldL
  rw [List.all_eq_true] at h
  have : p.map foldB = p.map id := List.map_congr_left (fun c hc => by
    have := h c hc
    unfold tameB at this
    simp at this
    rw [foldB_out (by omega)]; rfl)
  rw [this, List.map_id]
theorem fold_tame {p t : By} (h : p.all tameB = true) (e : foldL t = p) : t = p := by
  subst e
  have h' := h
  unfold foldL at h ⊢
  rw [List.all_eq_true] at h
  have : t.map id = t.map foldB := List.map_congr_left (fun c hc => by
    have h1 := h (foldB c) (List.mem_map.2 ⟨c, hc, rfl⟩)
    unfold tameB at h1
    simp at h1
    show c = foldB c
    apply UInt8.toNat_inj.1
    have h2 := foldB_nat c
    by_cases hi : 97 ≤ c.toNat ∧ c.toNat ≤ 122
    · rw [if_pos hi] at h2
      have h3 := h1.1.2
      omega
    · rw [foldB_out hi])
  rw [List.map_id] at this
  exact this
theorem any_tame {p r : By} (h : p.all tameB = true) : anyL p r = prefixB p r := by
  rw [Bool.eq_iff_iff, any_iff, prefix_iff]
  have hl : ∀ t, likeR p t = decide (p = foldL t) := fun t => by
    unfold likeR
    rw [tame_fold h, steps_quiet (tame_quiet h), lk_selves]
  constructor
  · rintro ⟨n, h1, h2⟩
    rw [hl, decide_eq_true_iff] at h2
    have := fold_tame h h2.symm
    rw [← this]
    exact List.take_prefix _ _
  · intro hp
    refine ⟨p.length, hp.length_le, ?_⟩
    rw [hl, decide_eq_true_iff]
    have e : r.take p.length = p := (List.prefix_iff_eq_take.1 hp).symm
    rw [e, tame_fold h]
theorem search_tame {p s : By} {f : Int} (h : p.all tameB = true) : srS p s f = fdS p s f := by
  unfold srS fdS plS
  have e : ∀ i, seekL (anyL p) s i = seekL (prefixB p) s i := fun i => seek_same (fun j _ => any_tame h) i
  rw [e]
end Go.Proofs.YthooimaadgabiabDoor
