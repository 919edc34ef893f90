/-
  Parts between marks: what they are, and what is put together out of them.
-/
import Derived.Test.YthooimaadgabiabDoorSt1
import Derived.Test.YthooimaadgabiabDoorStR
import Derived.Test.YthooimaadgabiabDoorKNum2
namespace Go.Proofs.YthooimaadgabiabDoor
open Go.RowKit Go.Shelf
attribute [local go_sem] Oper.semAt_some
set_option linter.unusedSimpArgs false

def ptF (mark : By) : Nat → Nat → By → List (Nat × By)
  | 0, i, s => [(i, s)]
  | f + 1, i, s => if (Lib.cut s mark).2.2 then (i, (Lib.cut s mark).1) :: ptF mark f (i + 1) (Lib.cut s mark).2.1 else [(i, s)]
def ptL (mark : By) (i : Nat) (s : By) : List (Nat × By) := ptF mark s.length i s
def allP (s mark : By) : List (Nat × By) := if mark = [] then [(0, s)] else ptL mark 0 s
theorem cut_cases (s mark : By) : (∃ j, j + mark.length ≤ s.length ∧ prefixB mark (s.drop j) = true ∧ (∀ i, i < j → prefixB mark (s.drop i) = false) ∧ Lib.cut s mark = (s.take j, s.drop (j + mark.length), true)) ∨
    ((∀ i, i ≤ s.length → prefixB mark (s.drop i) = false) ∧ Lib.cut s mark = (s, [], false)) := by
  rcases Lib.index_spec s mark with ⟨h1, h2⟩ | ⟨i, h1, h2, h3, h4⟩
  · refine .inr ⟨h2, ?_⟩
    unfold Lib.cut
    rw [h1, if_neg (by decide)]
  · have hr := Lib.index_room s mark (by rw [h1]; omega)
    rw [h1] at hr
    refine .inl ⟨i, by omega, h3, h4, ?_⟩
    unfold Lib.cut
    rw [h1, if_pos (by omega)]
    simp
theorem ptF_fuel {mark : By} (hm : mark ≠ []) : ∀ (f f' i : Nat) (s : By), s.length ≤ f → s.length ≤ f' → ptF mark f i s = ptF mark f' i s
  | 0, 0, _, _, _, _ => rfl
  | 0, f' + 1, i, s, h, _ => by
    have : s = [] := List.eq_nil_of_length_eq_zero (by omega)
    subst this
    have hl : 0 < mark.length := List.length_pos_iff.2 hm
    rcases cut_cases [] mark with ⟨j, h1, _⟩ | ⟨_, h2⟩
    · exact absurd h1 (by simp only [List.length_nil]; omega)
    · rw [ptF, ptF, h2]; rfl
  | f + 1, 0, i, s, _, h => by
    have : s = [] := List.eq_nil_of_length_eq_zero (by omega)
    subst this
    have hl : 0 < mark.length := List.length_pos_iff.2 hm
    rcases cut_cases [] mark with ⟨j, h1, _⟩ | ⟨_, h2⟩
    · exact absurd h1 (by simp only [List.length_nil]; omega)
    · rw [ptF, ptF, h2]; rfl
  | f + 1, f' + 1, i, s, h, h' => by
    have hl : 0 < mark.length := List.length_pos_iff.2 hm
    rcases cut_cases s mark with ⟨j, h1, _, _, h2⟩ | ⟨_, h2⟩
    · rw [ptF, ptF, h2]
      simp only [if_true]
      rw [ptF_fuel hm f f' (i + 1) (s.drop (j + mark.length)) (by rw [List.length_drop]; omega) (by rw [List.length_drop]; omega)]
    · rw [ptF, ptF, h2]; rfl
theorem pt_yes {mark s : By} {i : Nat} (hm : mark ≠ []) {a b : By} (h : Lib.cut s mark = (a, b, true)) : ptL mark i s = (i, a) :: ptL mark (i + 1) b ∧ b.length < s.length := by
  have hl : 0 < mark.length := List.length_pos_iff.2 hm
  rcases cut_cases s mark with ⟨j, h1, _, _, h2⟩ | ⟨_, h2⟩
  · rw [h] at h2
    simp only [Prod.mk.injEq, and_true] at h2
    obtain ⟨rfl, rfl⟩ := h2
    refine ⟨?_, by rw [List.length_drop]; omega⟩
    unfold ptL
    rw [ptF_fuel hm s.length (s.length + 1) i s (Nat.le_refl _) (Nat.le_succ _), ptF, h]
    simp only [if_true]
    rw [ptF_fuel hm s.length _ (i + 1) (s.drop (j + mark.length)) (by rw [List.length_drop]; omega) (Nat.le_refl _)]
  · rw [h] at h2; simp at h2
theorem pt_no {mark s : By} {i : Nat} {a b : By} (h : Lib.cut s mark = (a, b, false)) : ptL mark i s = [(i, s)] ∧ a = s ∧ b = [] := by
  rcases cut_cases s mark with ⟨j, _, _, _, h2⟩ | ⟨_, h2⟩
  · rw [h] at h2; simp at h2
  · refine ⟨?_, by rw [h] at h2; simp at h2; exact h2⟩
    unfold ptL
    cases s with
    | nil => rfl
    | cons c t => rw [List.length_cons, ptF, h]; rfl
/-- What goes ahead of a part. -/
def sepS (old new : By) (k i : Nat) : By := if i = 0 then [] else if k = 0 ∨ k = i then new else old
theorem sub_parts {old new : By} {k : Nat} (ho : old ≠ []) : ∀ (n : Nat) (s out : By) (i : Nat), s.length ≤ n → (ptL old i s).foldl (putP old new k) out = out ++ (sepS old new k i ++ subL old new k i s)
  | 0, s, out, i, h => by
    have : s = [] := List.eq_nil_of_length_eq_zero (by omega)
    subst this
    rfl
  | n + 1, s, out, i, h => by
    have hl : 0 < old.length := List.length_pos_iff.2 ho
    rcases cut_cases s old with ⟨j, h1, h2, h3, h4⟩ | ⟨h3, h4⟩
    · rw [(pt_yes ho h4).1, List.foldl_cons, sub_parts ho n _ _ (i + 1) (by rw [List.length_drop]; omega), sub_skip (by omega) h3, sub_hit ho h2]
      have e : sepS old new k (i + 1) = if k = 0 ∨ k = i + 1 then new else old := by unfold sepS; rw [if_neg (by omega)]
      rw [e, List.drop_drop]
      unfold putP sepS
      simp only [List.append_assoc]
    · rw [(pt_no h4).1, List.foldl_cons, List.foldl_nil, sub_none (fun i hi => h3 i (by omega))]
      rfl
theorem sub_all (s old new : By) (k : Nat) : (allP s old).foldl (putP old new k) [] = if old = [] then s else subL old new k 0 s := by
  unfold allP
  by_cases ho : old = []
  · rw [if_pos ho, if_pos ho]
    simp [putP]
  · rw [if_neg ho, if_neg ho, sub_parts ho s.length s [] 0 (Nat.le_refl _)]
    simp [sepS]
theorem no_blank {s : By} {j : Nat} (hj : j ≤ s.length) (h : ∀ i, i < j → prefixB [32] (s.drop i) = false) : ∀ c ∈ s.take j, c ≠ 32 := by
  intro c hc e
  subst e
  obtain ⟨i, hi, e⟩ := List.mem_iff_getElem.1 hc
  have hi2 : i < j := by simp at hi; omega
  have := h i hi2
  rw [List.getElem_take] at e
  rw [List.drop_eq_getElem_cons (by omega), e] at this
  simp [prefixB, List.isPrefixOf] at this
theorem tr_parts : ∀ (n : Nat) (s out : By) (i : Nat) (p : Bool), s.length ≤ n → (p = true ∨ out = []) → (ptL [32] i s).foldl (fun o x => putW o x.2) out = trF p out s
  | 0, s, out, i, p, h, _ => by
    have : s = [] := List.eq_nil_of_length_eq_zero (by omega)
    subst this
    cases p <;> rfl
  | n + 1, s, out, i, p, h, hp => by
    rcases cut_cases s [32] with ⟨j, h1, h2, h3, h4⟩ | ⟨h3, h4⟩
    · simp only [List.length_cons, List.length_nil] at h1 h4
      have hb := no_blank (by omega) h3
      rw [(pt_yes (by simp) h4).1, List.foldl_cons]
      have es : s = s.take j ++ 32 :: s.drop (j + 1) := by
        have e2 : s.drop j = 32 :: s.drop (j + 1) := by
          rw [List.drop_eq_getElem_cons (by omega)]
          rw [List.drop_eq_getElem_cons (by omega)] at h2
          simp [prefixB, List.isPrefixOf] at h2
          rw [← h2]
        rw [← e2, List.take_append_drop]
      have ih := tr_parts n (s.drop (j + 1)) (putW out (s.take j)) (i + 1) true (by rw [List.length_drop]; omega) (.inl rfl)
      rw [show j + (0 + 1) = j + 1 by omega]
      rw [ih]
      exact ((congrArg (trF p out) es).trans (tr_word out _ hb hp)).symm
    · rw [(pt_no h4).1, List.foldl_cons, List.foldl_nil]
      have hb := no_blank (Nat.le_refl _) (fun i hi => h3 i (by omega))
      rw [List.take_length] at hb
      exact (tr_last out hb hp).symm
theorem tr_all (s : By) : (allP s [32]).foldl (fun o x => putW o x.2) [] = trL s := by
  unfold allP
  rw [if_neg (by simp)]
  exact tr_parts s.length s [] 0 false (Nat.le_refl _) (.inr rfl)
/-- Good: a part of a text, behind others. -/
def GoodX (s mark : By) (pre : List (Nat × By)) (x : Nat × By) : Prop := ∃ post, allP s mark = pre ++ x :: post
def encP (x : Nat × By) : Array Value := #[.int .i64 (x.1 : Int), .string ⟨x.2.toArray⟩]
theorem parts_any (s mark : ByteArray) (w : World) :
    Calls Tryd.prog 46 #[.string s, .string mark] w fun e w' => e = .returned (.func (.func 53) #[] #[.pointer (some ⟨w.heap.size + 1, 0, none⟩), .pointer (some ⟨w.heap.size, 0, none⟩)]) ∧ w' = (w.alloc (.cells #[.string s] 9)).alloc (.cells #[.string mark] 9) := by
  have hmf : ∀ (fn : Fn) (first cap : Array Value) (w : World), (Instr.makeFunc fn first cap).run Tryd.prog w = .ok (.func fn first cap) w := fun _ _ _ _ => rfl
  go_enter Tryd.func46, Tryd.ntmps46
  go_wp2
  go_ret
  exact ⟨rfl, rfl⟩
end Go.Proofs.YthooimaadgabiabDoor
