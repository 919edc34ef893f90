/-
  A number's place, as a scan over its bytes tells it (plain words).
-/
import Derived.Test.YtnhaapcpklfkpaaGreatDoorCdB
namespace Go.Proofs.YtnhaapcpklfkpaaGreatDoor
open Go.RowKit
set_option linter.unusedSimpArgs false

theorem index_no {x : UInt8} : ∀ (W : List UInt8), (∀ c ∈ W, c ≠ x) → Lib.index W [x] = -1
  | [], _ => by simp [Lib.index]
  | c :: W, h => by
    have hne : x ≠ c := fun e => h c (by simp) e.symm
    have ih := index_no W (fun d hd => h d (List.mem_cons_of_mem _ hd))
    rw [Lib.index, ih]
    have e : List.isPrefixOf [x] (c :: W) = false := by simp [List.isPrefixOf, hne]
    rw [e]; rfl
theorem split_no {x : UInt8} {W : List UInt8} (h : ∀ c ∈ W, c ≠ x) : Lib.split W [x] = [W] := by
  unfold Lib.split
  rw [Lib.count_miss (index_no W h)]; rfl
theorem split_app {x : UInt8} {W : List UInt8} (F : List UInt8) (h : ∀ c ∈ W, c ≠ x) : Lib.split (W ++ x :: F) [x] = W :: Lib.split F [x] := by
  have hi := index_byte W F h
  have hd : (W ++ x :: F).drop (W.length + [x].length) = F := by simp
  unfold Lib.split
  rw [Lib.count_hit (by simp) hi, hd, Nat.add_comm 1, Lib.splitK, if_neg (by rw [hi, beq_iff_eq]; omega), hi, Int.toNat_natCast, hd, Nat.add_zero, List.take_left]
/-- A row of # and then of 0; z: a 0 has been. -/
def okRun : Bool → List UInt8 → Bool
  | _, [] => true
  | z, c :: r => if c = 35 then !z && okRun z r else if c = 48 then okRun true r else false
/-- The whole part's scan: first: a comma may not be next; z: a 0 has been. -/
def wOk : Bool → Bool → List UInt8 → Bool
  | f, _, [] => !f
  | f, z, c :: r => if c = 44 then !f && wOk true z r else if c = 35 then !z && wOk false z r else if c = 48 then wOk false true r else false
/-- The fraction's scan: h: a # has been. -/
def fOk : Bool → List UInt8 → Bool
  | _, [] => true
  | h, c :: r => if c = 48 then !h && fOk h r else if c = 35 then fOk true r else false
theorem okRun_app : ∀ (x y : List UInt8) (z : Bool), okRun z (x ++ y) = (okRun z x && okRun (z || x.contains 48) y)
  | [], y, z => by simp [okRun]
  | c :: x, y, z => by
    rw [List.cons_append, okRun, okRun]
    by_cases h : c = 35
    · rw [if_pos h, if_pos h, okRun_app x y z]
      have e : (c :: x).contains 48 = x.contains 48 := by rw [h]; simp
      rw [e, Bool.and_assoc]
    · rw [if_neg h, if_neg h]
      by_cases h2 : c = 48
      · rw [if_pos h2, if_pos h2, okRun_app x y true]
        have e : (c :: x).contains 48 = true := by rw [h2]; simp
        rw [e]; simp
      · rw [if_neg h2, if_neg h2, Bool.false_and]
theorem row_true : ∀ l : List UInt8, okRun true l = (Lib.trimLeftB l 48 == [])
  | [] => rfl
  | c :: r => by
    rw [okRun]
    by_cases h : c = 35
    · subst h; simp [Lib.trimLeftB]
    · rw [if_neg h]
      by_cases h2 : c = 48
      · subst h2
        rw [if_pos rfl, row_true r]
        simp [Lib.trimLeftB]
      · rw [if_neg h2]; simp [Lib.trimLeftB, h2]
theorem row_false : ∀ l : List UInt8, okRun false l = isRowB l 35 48
  | [] => rfl
  | c :: r => by
    rw [okRun]
    by_cases h : c = 35
    · subst h
      rw [if_pos rfl, row_false r]
      simp [isRowB, Lib.trimLeftB]
    · rw [if_neg h]
      have e : Lib.trimLeftB (c :: r) 35 = c :: r := by simp [Lib.trimLeftB, h]
      unfold isRowB
      rw [e]
      by_cases h2 : c = 48
      · subst h2
        rw [if_pos rfl, row_true r]
        simp [Lib.trimLeftB]
      · rw [if_neg h2]; simp [Lib.trimLeftB, h2]
theorem frac_true : ∀ l : List UInt8, fOk true l = (Lib.trimLeftB l 35 == [])
  | [] => rfl
  | c :: r => by
    rw [fOk]
    by_cases h : c = 48
    · subst h; simp [Lib.trimLeftB]
    · rw [if_neg h]
      by_cases h2 : c = 35
      · subst h2
        rw [if_pos rfl, frac_true r]
        simp [Lib.trimLeftB]
      · rw [if_neg h2]; simp [Lib.trimLeftB, h2]
theorem frac_false : ∀ l : List UInt8, fOk false l = isRowB l 48 35
  | [] => rfl
  | c :: r => by
    rw [fOk]
    by_cases h : c = 48
    · subst h
      rw [if_pos rfl, frac_false r]
      simp [isRowB, Lib.trimLeftB]
    · rw [if_neg h]
      have e : Lib.trimLeftB (c :: r) 48 = c :: r := by simp [Lib.trimLeftB, h]
      unfold isRowB
      rw [e]
      by_cases h2 : c = 35
      · subst h2
        rw [if_pos rfl, frac_true r]
        simp [Lib.trimLeftB]
      · rw [if_neg h2]; simp [Lib.trimLeftB, h2]
theorem wOk_run : ∀ (W rest : List UInt8) (f z : Bool), (∀ c ∈ W, c ≠ 44) → W ≠ [] → wOk f z (W ++ rest) = (okRun z W && wOk false (z || W.contains 48) rest)
  | [], _, _, _, _, h => absurd rfl h
  | [c], rest, f, z, h, _ => by
    have h44 : c ≠ 44 := h c (by simp)
    rw [List.cons_append, List.nil_append, wOk, if_neg h44, okRun]
    by_cases h1 : c = 35
    · rw [if_pos h1, if_pos h1, h1]; simp [okRun]
    · rw [if_neg h1, if_neg h1]
      by_cases h2 : c = 48
      · rw [if_pos h2, if_pos h2, h2]; simp [okRun]
      · rw [if_neg h2, if_neg h2, Bool.false_and]
  | c :: d :: W, rest, f, z, h, _ => by
    have h44 : c ≠ 44 := h c (by simp)
    have ih := fun f' z' => wOk_run (d :: W) rest f' z' (fun e he => h e (List.mem_cons_of_mem _ he)) (by simp)
    rw [List.cons_append, wOk, if_neg h44, okRun]
    by_cases h1 : c = 35
    · rw [if_pos h1, if_pos h1, ih, h1, Bool.and_assoc]
      have e : ((35 : UInt8) :: d :: W).contains 48 = (d :: W).contains 48 := by simp
      rw [e]
    · rw [if_neg h1, if_neg h1]
      by_cases h2 : c = 48
      · rw [if_pos h2, if_pos h2, ih, h2]
        have e : ((48 : UInt8) :: d :: W).contains 48 = true := by simp
        rw [e]; simp
      · rw [if_neg h2, if_neg h2, Bool.false_and]
theorem first_comma (s : List UInt8) : (∀ c ∈ s, c ≠ 44) ∨ ∃ W F, s = W ++ 44 :: F ∧ (∀ c ∈ W, c ≠ 44) ∧ F.length < s.length := by
  induction s with
  | nil => exact .inl (fun c h => by simp at h)
  | cons c r ih =>
    by_cases hc : c = 44
    · exact .inr ⟨[], r, by rw [hc]; rfl, fun d h => by simp at h, by simp⟩
    · rcases ih with h | ⟨W, F, e, h, hl⟩
      · refine .inl (fun d hd => ?_)
        rcases List.mem_cons.1 hd with rfl | hd
        · exact hc
        · exact h d hd
      · refine .inr ⟨c :: W, F, by rw [e]; rfl, fun d hd => ?_, by simp; omega⟩
        rcases List.mem_cons.1 hd with rfl | hd
        · exact hc
        · exact h d hd
theorem join_flat (x : List UInt8) (r : List (List UInt8)) : Lib.join (x :: r) [] = x ++ Lib.join r [] := by
  rw [Lib.join_cons]
  congr 1
  cases r with
  | nil => rfl
  | cons y r => rw [Lib.join_cons]; simp [Lib.joinTail]
theorem wOk_groups : ∀ (n : Nat) (s : List UInt8) (z : Bool), s.length ≤ n → wOk true z s = (!(Lib.split s [44]).contains [] && okRun z (Lib.join (Lib.split s [44]) []))
  | n, s, z, hn => by
    rcases first_comma s with h | ⟨W, F, rfl, h, hl⟩
    · rw [split_no h]
      cases s with
      | nil => simp [wOk]
      | cons c r =>
        have := wOk_run (c :: r) [] true z h (by simp)
        rw [List.append_nil] at this
        rw [this, Lib.join_one]
        simp [wOk]
    · rw [split_app F h, join_flat, okRun_app]
      cases n with
      | zero => simp at hn
      | succ n =>
        by_cases hW : W = []
        · subst hW
          rw [List.nil_append, wOk, if_pos rfl]; simp
        · rw [wOk_run W (44 :: F) true z h hW, wOk, if_pos rfl, wOk_groups n F _ (by omega)]
          have e : (W :: Lib.split F [44]).contains [] = (Lib.split F [44]).contains [] := by
            rw [List.contains_cons]
            have : (([] : List UInt8) == W) = false := by rw [beq_eq_false_iff_ne]; exact fun q => hW q.symm
            rw [this, Bool.false_or]
          rw [e]
          cases okRun z W <;> cases (Lib.split F [44]).contains [] <;> simp
/-- Is a text a number's place, as the scans tell? -/
theorem place_scan (t : List UInt8) : placeB t = (wOk true false (wholeOf t) && fOk false (fracOf t)) := by
  unfold placeB groupsOf
  rw [wOk_groups _ (wholeOf t) false (Nat.le_refl _), frac_false, row_false]
theorem point_none {t : List UInt8} (h : ∀ c ∈ t, c ≠ 46) : wholeOf t = t ∧ fracOf t = [] := by
  unfold wholeOf fracOf Lib.cut
  rw [index_no t h, if_neg (by decide)]
  exact ⟨rfl, rfl⟩
theorem point_some {W F : List UInt8} (h : ∀ c ∈ W, c ≠ 46) : wholeOf (W ++ 46 :: F) = W ∧ fracOf (W ++ 46 :: F) = F := by
  unfold wholeOf fracOf
  rw [cut_byte h]
  exact ⟨rfl, rfl⟩
end Go.Proofs.YtnhaapcpklfkpaaGreatDoor
