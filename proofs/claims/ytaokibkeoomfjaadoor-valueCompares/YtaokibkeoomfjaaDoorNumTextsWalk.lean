/-
  The walk of the law NumTexts, out of its callees' contracts.
-/
import Derived.Test.YtaokibkeoomfjaaDoorRefParse
import Derived.Test.YtaokibkeoomfjaaDoorNumBackWalk
namespace Go.Proofs.YtaokibkeoomfjaaDoor
open Go.RowKit

set_option maxHeartbeats 400000 in
theorem rparse_long (s : ByteArray) (w : World) (h : 40 < s.size) (hs : s.size ≤ maxLen) :
    Calls Tryd.prog 34 #[.string s] w fun e w' => e = .returned (.tuple #[.int .i64 0, .int .i64 5]) ∧ w' = w := by
  unfold maxLen at hs
  go_enter Tryd.func34, Tryd.ntmps34
  go_wp2
  go_ret2
  exact ⟨rfl, rfl⟩

theorem rparse_any (s : ByteArray) (w : World) (hs : s.size ≤ maxLen) :
    Calls Tryd.prog 34 #[.string s] w fun e w' => e = .returned (.tuple #[.int .i64 (parseR s.data.toList).1, .int .i64 (parseR s.data.toList).2]) ∧ w' = w := by
  obtain ⟨l, rfl⟩ : ∃ l : List UInt8, s = ⟨l.toArray⟩ := ⟨s.data.toList, Go.WideShapes.bytes_inj (by simp)⟩
  have hl : (⟨l.toArray⟩ : ByteArray).size = l.length := by show l.toArray.size = _; rw [List.size_toArray]
  have hd : (⟨l.toArray⟩ : ByteArray).data.toList = l := rfl
  rw [hd]
  by_cases h40 : 40 < l.length
  · rw [show parseR l = (0, 5) from by unfold parseR; rw [if_pos h40]]
    exact rparse_long _ w (by omega) hs
  · rw [parse_body (by omega)]
    match l, h40 with
    | [], _ => exact rparse_pos [] w (by simp) (by decide)
    | c :: r, h40 =>
      by_cases hc : c = 45
      · subst hc
        have e1 : Lib.hasPrefix (45 :: r) [45] = true := by simp [Lib.hasPrefix, List.isPrefixOf]
        have e2 : Lib.trimPrefix (45 :: r) [45] = r := by simp [Lib.trimPrefix, e1]
        rw [e1, e2]
        exact rparse_neg r w (by simp at h40; omega)
      · have e1 : Lib.hasPrefix (c :: r) [45] = false := by
          have : (45 : UInt8) ≠ c := fun e => hc e.symm
          simp [Lib.hasPrefix, List.isPrefixOf, this]
        have e2 : Lib.trimPrefix (c :: r) [45] = c :: r := by simp [Lib.trimPrefix, e1]
        rw [e1, e2]
        exact rparse_pos (c :: r) w (by omega) hc

set_option maxHeartbeats 400000 in
theorem rprint_bad (n : Int) (w : World) (h : fitsB n = false) :
    Calls Tryd.prog 36 #[.int .i64 n] w fun e w' => e = .returned (.tuple #[.string ⟨#[]⟩, .int .i64 2]) ∧ w' = w := by
  go_enter Tryd.func36, Tryd.ntmps36
  go_wp2_with (go_at_call 59; refine (rfits_any _ _).mono ?_; rintro e w' ⟨rfl, rfl⟩)
  go_ret2
  exact ⟨rfl, rfl⟩

end Go.Proofs.YtaokibkeoomfjaaDoor
