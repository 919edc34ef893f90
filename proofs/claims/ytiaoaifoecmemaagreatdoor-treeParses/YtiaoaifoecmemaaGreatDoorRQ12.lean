/-
  The contract of the answer's Line.
  The answer's readings in memory: a node, a place, whether it failed; the row of tokens; is.
  The contract of the laws' lives (made by livesgen8.py).
-/
import Derived.Test.YtiaoaifoecmemaaGreatDoorRQ10
set_option maxRecDepth 100000
set_option maxHeartbeats 4000000
namespace Go.Proofs.YtiaoaifoecmemaaGreatDoor
open Go.RowKit
theorem line_61 (w : World) : Calls Tryz.prog 20 #[.string ⟨#[61]⟩] w fun e w' => e = .returned (.int .i64 (0)) ∧ w' = w := by
 have e61 : ((⟨#[61]⟩ : ByteArray).toList == [61]) = true := by kernel_rfl
 have e60_62 : ((⟨#[61]⟩ : ByteArray).toList == [60, 62]) = false := by kernel_rfl
 have e60 : ((⟨#[61]⟩ : ByteArray).toList == [60]) = false := by kernel_rfl
 have e62 : ((⟨#[61]⟩ : ByteArray).toList == [62]) = false := by kernel_rfl
 have e60_61 : ((⟨#[61]⟩ : ByteArray).toList == [60, 61]) = false := by kernel_rfl
 have e62_61 : ((⟨#[61]⟩ : ByteArray).toList == [62, 61]) = false := by kernel_rfl
 have e38 : ((⟨#[61]⟩ : ByteArray).toList == [38]) = false := by kernel_rfl
 have e43 : ((⟨#[61]⟩ : ByteArray).toList == [43]) = false := by kernel_rfl
 have e45 : ((⟨#[61]⟩ : ByteArray).toList == [45]) = false := by kernel_rfl
 have e42 : ((⟨#[61]⟩ : ByteArray).toList == [42]) = false := by kernel_rfl
 have e47 : ((⟨#[61]⟩ : ByteArray).toList == [47]) = false := by kernel_rfl
 go_enter Tryz.func20, Tryz.ntmps20
 go_wp2
 go_ret
 exact ⟨rfl, rfl⟩
theorem line_60_62 (w : World) : Calls Tryz.prog 20 #[.string ⟨#[60, 62]⟩] w fun e w' => e = .returned (.int .i64 (0)) ∧ w' = w := by
 have e61 : ((⟨#[60, 62]⟩ : ByteArray).toList == [61]) = false := by kernel_rfl
 have e60_62 : ((⟨#[60, 62]⟩ : ByteArray).toList == [60, 62]) = true := by kernel_rfl
 have e60 : ((⟨#[60, 62]⟩ : ByteArray).toList == [60]) = false := by kernel_rfl
 have e62 : ((⟨#[60, 62]⟩ : ByteArray).toList == [62]) = false := by kernel_rfl
 have e60_61 : ((⟨#[60, 62]⟩ : ByteArray).toList == [60, 61]) = false := by kernel_rfl
 have e62_61 : ((⟨#[60, 62]⟩ : ByteArray).toList == [62, 61]) = false := by kernel_rfl
 have e38 : ((⟨#[60, 62]⟩ : ByteArray).toList == [38]) = false := by kernel_rfl
 have e43 : ((⟨#[60, 62]⟩ : ByteArray).toList == [43]) = false := by kernel_rfl
 have e45 : ((⟨#[60, 62]⟩ : ByteArray).toList == [45]) = false := by kernel_rfl
 have e42 : ((⟨#[60, 62]⟩ : ByteArray).toList == [42]) = false := by kernel_rfl
 have e47 : ((⟨#[60, 62]⟩ : ByteArray).toList == [47]) = false := by kernel_rfl
 go_enter Tryz.func20, Tryz.ntmps20
 go_wp2
 go_ret
 exact ⟨rfl, rfl⟩
theorem line_60 (w : World) : Calls Tryz.prog 20 #[.string ⟨#[60]⟩] w fun e w' => e = .returned (.int .i64 (0)) ∧ w' = w := by
 have e61 : ((⟨#[60]⟩ : ByteArray).toList == [61]) = false := by kernel_rfl
 have e60_62 : ((⟨#[60]⟩ : ByteArray).toList == [60, 62]) = false := by kernel_rfl
 have e60 : ((⟨#[60]⟩ : ByteArray).toList == [60]) = true := by kernel_rfl
 have e62 : ((⟨#[60]⟩ : ByteArray).toList == [62]) = false := by kernel_rfl
 have e60_61 : ((⟨#[60]⟩ : ByteArray).toList == [60, 61]) = false := by kernel_rfl
 have e62_61 : ((⟨#[60]⟩ : ByteArray).toList == [62, 61]) = false := by kernel_rfl
 have e38 : ((⟨#[60]⟩ : ByteArray).toList == [38]) = false := by kernel_rfl
 have e43 : ((⟨#[60]⟩ : ByteArray).toList == [43]) = false := by kernel_rfl
 have e45 : ((⟨#[60]⟩ : ByteArray).toList == [45]) = false := by kernel_rfl
 have e42 : ((⟨#[60]⟩ : ByteArray).toList == [42]) = false := by kernel_rfl
 have e47 : ((⟨#[60]⟩ : ByteArray).toList == [47]) = false := by kernel_rfl
 go_enter Tryz.func20, Tryz.ntmps20
 go_wp2
 go_ret
 exact ⟨rfl, rfl⟩
theorem line_62 (w : World) : Calls Tryz.prog 20 #[.string ⟨#[62]⟩] w fun e w' => e = .returned (.int .i64 (0)) ∧ w' = w := by
 have e61 : ((⟨#[62]⟩ : ByteArray).toList == [61]) = false := by kernel_rfl
 have e60_62 : ((⟨#[62]⟩ : ByteArray).toList == [60, 62]) = false := by kernel_rfl
 have e60 : ((⟨#[62]⟩ : ByteArray).toList == [60]) = false := by kernel_rfl
 have e62 : ((⟨#[62]⟩ : ByteArray).toList == [62]) = true := by kernel_rfl
 have e60_61 : ((⟨#[62]⟩ : ByteArray).toList == [60, 61]) = false := by kernel_rfl
 have e62_61 : ((⟨#[62]⟩ : ByteArray).toList == [62, 61]) = false := by kernel_rfl
 have e38 : ((⟨#[62]⟩ : ByteArray).toList == [38]) = false := by kernel_rfl
 have e43 : ((⟨#[62]⟩ : ByteArray).toList == [43]) = false := by kernel_rfl
 have e45 : ((⟨#[62]⟩ : ByteArray).toList == [45]) = false := by kernel_rfl
 have e42 : ((⟨#[62]⟩ : ByteArray).toList == [42]) = false := by kernel_rfl
 have e47 : ((⟨#[62]⟩ : ByteArray).toList == [47]) = false := by kernel_rfl
 go_enter Tryz.func20, Tryz.ntmps20
 go_wp2
 go_ret
 exact ⟨rfl, rfl⟩
theorem line_60_61 (w : World) : Calls Tryz.prog 20 #[.string ⟨#[60, 61]⟩] w fun e w' => e = .returned (.int .i64 (0)) ∧ w' = w := by
 have e61 : ((⟨#[60, 61]⟩ : ByteArray).toList == [61]) = false := by kernel_rfl
 have e60_62 : ((⟨#[60, 61]⟩ : ByteArray).toList == [60, 62]) = false := by kernel_rfl
 have e60 : ((⟨#[60, 61]⟩ : ByteArray).toList == [60]) = false := by kernel_rfl
 have e62 : ((⟨#[60, 61]⟩ : ByteArray).toList == [62]) = false := by kernel_rfl
 have e60_61 : ((⟨#[60, 61]⟩ : ByteArray).toList == [60, 61]) = true := by kernel_rfl
 have e62_61 : ((⟨#[60, 61]⟩ : ByteArray).toList == [62, 61]) = false := by kernel_rfl
 have e38 : ((⟨#[60, 61]⟩ : ByteArray).toList == [38]) = false := by kernel_rfl
 have e43 : ((⟨#[60, 61]⟩ : ByteArray).toList == [43]) = false := by kernel_rfl
 have e45 : ((⟨#[60, 61]⟩ : ByteArray).toList == [45]) = false := by kernel_rfl
 have e42 : ((⟨#[60, 61]⟩ : ByteArray).toList == [42]) = false := by kernel_rfl
 have e47 : ((⟨#[60, 61]⟩ : ByteArray).toList == [47]) = false := by kernel_rfl
 go_enter Tryz.func20, Tryz.ntmps20
 go_wp2
 go_ret
 exact ⟨rfl, rfl⟩
theorem line_62_61 (w : World) : Calls Tryz.prog 20 #[.string ⟨#[62, 61]⟩] w fun e w' => e = .returned (.int .i64 (0)) ∧ w' = w := by
 have e61 : ((⟨#[62, 61]⟩ : ByteArray).toList == [61]) = false := by kernel_rfl
 have e60_62 : ((⟨#[62, 61]⟩ : ByteArray).toList == [60, 62]) = false := by kernel_rfl
 have e60 : ((⟨#[62, 61]⟩ : ByteArray).toList == [60]) = false := by kernel_rfl
 have e62 : ((⟨#[62, 61]⟩ : ByteArray).toList == [62]) = false := by kernel_rfl
 have e60_61 : ((⟨#[62, 61]⟩ : ByteArray).toList == [60, 61]) = false := by kernel_rfl
 have e62_61 : ((⟨#[62, 61]⟩ : ByteArray).toList == [62, 61]) = true := by kernel_rfl
 have e38 : ((⟨#[62, 61]⟩ : ByteArray).toList == [38]) = false := by kernel_rfl
 have e43 : ((⟨#[62, 61]⟩ : ByteArray).toList == [43]) = false := by kernel_rfl
 have e45 : ((⟨#[62, 61]⟩ : ByteArray).toList == [45]) = false := by kernel_rfl
 have e42 : ((⟨#[62, 61]⟩ : ByteArray).toList == [42]) = false := by kernel_rfl
 have e47 : ((⟨#[62, 61]⟩ : ByteArray).toList == [47]) = false := by kernel_rfl
 go_enter Tryz.func20, Tryz.ntmps20
 go_wp2
 go_ret
 exact ⟨rfl, rfl⟩
theorem line_38 (w : World) : Calls Tryz.prog 20 #[.string ⟨#[38]⟩] w fun e w' => e = .returned (.int .i64 (1)) ∧ w' = w := by
 have e61 : ((⟨#[38]⟩ : ByteArray).toList == [61]) = false := by kernel_rfl
 have e60_62 : ((⟨#[38]⟩ : ByteArray).toList == [60, 62]) = false := by kernel_rfl
 have e60 : ((⟨#[38]⟩ : ByteArray).toList == [60]) = false := by kernel_rfl
 have e62 : ((⟨#[38]⟩ : ByteArray).toList == [62]) = false := by kernel_rfl
 have e60_61 : ((⟨#[38]⟩ : ByteArray).toList == [60, 61]) = false := by kernel_rfl
 have e62_61 : ((⟨#[38]⟩ : ByteArray).toList == [62, 61]) = false := by kernel_rfl
 have e38 : ((⟨#[38]⟩ : ByteArray).toList == [38]) = true := by kernel_rfl
 have e43 : ((⟨#[38]⟩ : ByteArray).toList == [43]) = false := by kernel_rfl
 have e45 : ((⟨#[38]⟩ : ByteArray).toList == [45]) = false := by kernel_rfl
 have e42 : ((⟨#[38]⟩ : ByteArray).toList == [42]) = false := by kernel_rfl
 have e47 : ((⟨#[38]⟩ : ByteArray).toList == [47]) = false := by kernel_rfl
 go_enter Tryz.func20, Tryz.ntmps20
 go_wp2
 go_ret
 exact ⟨rfl, rfl⟩
theorem line_43 (w : World) : Calls Tryz.prog 20 #[.string ⟨#[43]⟩] w fun e w' => e = .returned (.int .i64 (2)) ∧ w' = w := by
 have e61 : ((⟨#[43]⟩ : ByteArray).toList == [61]) = false := by kernel_rfl
 have e60_62 : ((⟨#[43]⟩ : ByteArray).toList == [60, 62]) = false := by kernel_rfl
 have e60 : ((⟨#[43]⟩ : ByteArray).toList == [60]) = false := by kernel_rfl
 have e62 : ((⟨#[43]⟩ : ByteArray).toList == [62]) = false := by kernel_rfl
 have e60_61 : ((⟨#[43]⟩ : ByteArray).toList == [60, 61]) = false := by kernel_rfl
 have e62_61 : ((⟨#[43]⟩ : ByteArray).toList == [62, 61]) = false := by kernel_rfl
 have e38 : ((⟨#[43]⟩ : ByteArray).toList == [38]) = false := by kernel_rfl
 have e43 : ((⟨#[43]⟩ : ByteArray).toList == [43]) = true := by kernel_rfl
 have e45 : ((⟨#[43]⟩ : ByteArray).toList == [45]) = false := by kernel_rfl
 have e42 : ((⟨#[43]⟩ : ByteArray).toList == [42]) = false := by kernel_rfl
 have e47 : ((⟨#[43]⟩ : ByteArray).toList == [47]) = false := by kernel_rfl
 go_enter Tryz.func20, Tryz.ntmps20
 go_wp2
 go_ret
 exact ⟨rfl, rfl⟩
theorem line_45 (w : World) : Calls Tryz.prog 20 #[.string ⟨#[45]⟩] w fun e w' => e = .returned (.int .i64 (2)) ∧ w' = w := by
 have e61 : ((⟨#[45]⟩ : ByteArray).toList == [61]) = false := by kernel_rfl
 have e60_62 : ((⟨#[45]⟩ : ByteArray).toList == [60, 62]) = false := by kernel_rfl
 have e60 : ((⟨#[45]⟩ : ByteArray).toList == [60]) = false := by kernel_rfl
 have e62 : ((⟨#[45]⟩ : ByteArray).toList == [62]) = false := by kernel_rfl
 have e60_61 : ((⟨#[45]⟩ : ByteArray).toList == [60, 61]) = false := by kernel_rfl
 have e62_61 : ((⟨#[45]⟩ : ByteArray).toList == [62, 61]) = false := by kernel_rfl
 have e38 : ((⟨#[45]⟩ : ByteArray).toList == [38]) = false := by kernel_rfl
 have e43 : ((⟨#[45]⟩ : ByteArray).toList == [43]) = false := by kernel_rfl
 have e45 : ((⟨#[45]⟩ : ByteArray).toList == [45]) = true := by kernel_rfl
 have e42 : ((⟨#[45]⟩ : ByteArray).toList == [42]) = false := by kernel_rfl
 have e47 : ((⟨#[45]⟩ : ByteArray).toList == [47]) = false := by kernel_rfl
 go_enter Tryz.func20, Tryz.ntmps20
 go_wp2
 go_ret
 exact ⟨rfl, rfl⟩
theorem line_42 (w : World) : Calls Tryz.prog 20 #[.string ⟨#[42]⟩] w fun e w' => e = .returned (.int .i64 (3)) ∧ w' = w := by
 have e61 : ((⟨#[42]⟩ : ByteArray).toList == [61]) = false := by kernel_rfl
 have e60_62 : ((⟨#[42]⟩ : ByteArray).toList == [60, 62]) = false := by kernel_rfl
 have e60 : ((⟨#[42]⟩ : ByteArray).toList == [60]) = false := by kernel_rfl
 have e62 : ((⟨#[42]⟩ : ByteArray).toList == [62]) = false := by kernel_rfl
 have e60_61 : ((⟨#[42]⟩ : ByteArray).toList == [60, 61]) = false := by kernel_rfl
 have e62_61 : ((⟨#[42]⟩ : ByteArray).toList == [62, 61]) = false := by kernel_rfl
 have e38 : ((⟨#[42]⟩ : ByteArray).toList == [38]) = false := by kernel_rfl
 have e43 : ((⟨#[42]⟩ : ByteArray).toList == [43]) = false := by kernel_rfl
 have e45 : ((⟨#[42]⟩ : ByteArray).toList == [45]) = false := by kernel_rfl
 have e42 : ((⟨#[42]⟩ : ByteArray).toList == [42]) = true := by kernel_rfl
 have e47 : ((⟨#[42]⟩ : ByteArray).toList == [47]) = false := by kernel_rfl
 go_enter Tryz.func20, Tryz.ntmps20
 go_wp2
 go_ret
 exact ⟨rfl, rfl⟩
theorem line_47 (w : World) : Calls Tryz.prog 20 #[.string ⟨#[47]⟩] w fun e w' => e = .returned (.int .i64 (3)) ∧ w' = w := by
 have e61 : ((⟨#[47]⟩ : ByteArray).toList == [61]) = false := by kernel_rfl
 have e60_62 : ((⟨#[47]⟩ : ByteArray).toList == [60, 62]) = false := by kernel_rfl
 have e60 : ((⟨#[47]⟩ : ByteArray).toList == [60]) = false := by kernel_rfl
 have e62 : ((⟨#[47]⟩ : ByteArray).toList == [62]) = false := by kernel_rfl
 have e60_61 : ((⟨#[47]⟩ : ByteArray).toList == [60, 61]) = false := by kernel_rfl
 have e62_61 : ((⟨#[47]⟩ : ByteArray).toList == [62, 61]) = false := by kernel_rfl
 have e38 : ((⟨#[47]⟩ : ByteArray).toList == [38]) = false := by kernel_rfl
 have e43 : ((⟨#[47]⟩ : ByteArray).toList == [43]) = false := by kernel_rfl
 have e45 : ((⟨#[47]⟩ : ByteArray).toList == [45]) = false := by kernel_rfl
 have e42 : ((⟨#[47]⟩ : ByteArray).toList == [42]) = false := by kernel_rfl
 have e47 : ((⟨#[47]⟩ : ByteArray).toList == [47]) = true := by kernel_rfl
 go_enter Tryz.func20, Tryz.ntmps20
 go_wp2
 go_ret
 exact ⟨rfl, rfl⟩
theorem line_none (s : ByteArray) (w : World) (e61 : (s.toList == [61]) = false) (e60_62 : (s.toList == [60, 62]) = false) (e60 : (s.toList == [60]) = false) (e62 : (s.toList == [62]) = false) (e60_61 : (s.toList == [60, 61]) = false) (e62_61 : (s.toList == [62, 61]) = false) (e38 : (s.toList == [38]) = false) (e43 : (s.toList == [43]) = false) (e45 : (s.toList == [45]) = false) (e42 : (s.toList == [42]) = false) (e47 : (s.toList == [47]) = false) : Calls Tryz.prog 20 #[.string s] w fun e w' => e = .returned (.int .i64 (-1)) ∧ w' = w := by
 go_enter Tryz.func20, Tryz.ntmps20
 go_wp2
 go_ret
 exact ⟨rfl, rfl⟩
theorem line_any (s : ByteArray) (w : World) : Calls Tryz.prog 20 #[.string s] w fun e w' => e = .returned (.int .i64 ((bindN s.data.toList : Int) - 1)) ∧ w' = w := by
  by_cases h61 : s.data.toList = [61]
  · rw [h61, show ((bindN [61] : Int) - 1) = 0 by decide, str_of h61]; exact line_61 w
  by_cases h60_62 : s.data.toList = [60, 62]
  · rw [h60_62, show ((bindN [60, 62] : Int) - 1) = 0 by decide, str_of h60_62]; exact line_60_62 w
  by_cases h60 : s.data.toList = [60]
  · rw [h60, show ((bindN [60] : Int) - 1) = 0 by decide, str_of h60]; exact line_60 w
  by_cases h62 : s.data.toList = [62]
  · rw [h62, show ((bindN [62] : Int) - 1) = 0 by decide, str_of h62]; exact line_62 w
  by_cases h60_61 : s.data.toList = [60, 61]
  · rw [h60_61, show ((bindN [60, 61] : Int) - 1) = 0 by decide, str_of h60_61]; exact line_60_61 w
  by_cases h62_61 : s.data.toList = [62, 61]
  · rw [h62_61, show ((bindN [62, 61] : Int) - 1) = 0 by decide, str_of h62_61]; exact line_62_61 w
  by_cases h38 : s.data.toList = [38]
  · rw [h38, show ((bindN [38] : Int) - 1) = 1 by decide, str_of h38]; exact line_38 w
  by_cases h43 : s.data.toList = [43]
  · rw [h43, show ((bindN [43] : Int) - 1) = 2 by decide, str_of h43]; exact line_43 w
  by_cases h45 : s.data.toList = [45]
  · rw [h45, show ((bindN [45] : Int) - 1) = 2 by decide, str_of h45]; exact line_45 w
  by_cases h42 : s.data.toList = [42]
  · rw [h42, show ((bindN [42] : Int) - 1) = 3 by decide, str_of h42]; exact line_42 w
  by_cases h47 : s.data.toList = [47]
  · rw [h47, show ((bindN [47] : Int) - 1) = 3 by decide, str_of h47]; exact line_47 w
  have hb : bindN s.data.toList = 0 := by simp [bindN, h61, h60_62, h60, h62, h60_61, h62_61, h38, h43, h45, h42, h47]
  rw [hb, show ((0 : Nat) : Int) - 1 = -1 by decide]
  exact line_none s w (by rw [toList_data]; simpa using h61) (by rw [toList_data]; simpa using h60_62) (by rw [toList_data]; simpa using h60) (by rw [toList_data]; simpa using h62) (by rw [toList_data]; simpa using h60_61) (by rw [toList_data]; simpa using h62_61) (by rw [toList_data]; simpa using h38) (by rw [toList_data]; simpa using h43) (by rw [toList_data]; simpa using h45) (by rw [toList_data]; simpa using h42) (by rw [toList_data]; simpa using h47)
theorem setCell_row {w : World} {g : Nat} {cs : List Value} {t : TypeId} {fz : Nat × Nat} (hg : w.heap[g]? = some (.cells cs.toArray t fz)) (o : Nat) (v : Value) : w.setCell ⟨g, o, none⟩ v = w.setRow g (cs.set o v).toArray := by
  have h : w.heap.modify g (fun
      | .cells c elem frozen => .cells (if (none : Option Nat).isSome then c else c.setIfInBounds o v) elem frozen
      | o => o) = w.heap.modify g (fun
      | .cells _ elem frozen => .cells (cs.set o v).toArray elem frozen
      | o => o) := by
    apply Array.ext_getElem?
    intro i
    rw [Array.getElem?_modify, Array.getElem?_modify]
    split
    · rename_i e
      subst e
      rw [hg]
      simp
    · rfl
  unfold World.setCell World.setRow
  simp only
  exact congrArg (fun H => { w with heap := H }) h
theorem setCells_row (g : Nat) (t : TypeId) (fz : Nat × Nat) : ∀ (vs : List Value) (o : Nat) (cs : List Value) (w : World), w.heap[g]? = some (.cells cs.toArray t fz) → o + vs.length ≤ cs.length → w.setCells g o vs = w.setRow g (cs.take o ++ vs ++ cs.drop (o + vs.length)).toArray
 | [], o, cs, w, hg, _ => by
  rw [World.setCells, show cs.take o ++ [] ++ cs.drop (o + ([] : List Value).length) = cs by simp]
  exact (Go.setRow_self w g _ t fz hg).symm
 | v :: r, o, cs, w, hg, hl => by
  simp only [List.length_cons] at hl
  have hs : (w.setRow g (cs.set o v).toArray).heap[g]? = some (.cells (cs.set o v).toArray t fz) := Go.setRow_heap w g _ _ t fz hg
  rw [World.setCells, setCell_row hg, setCells_row g t fz r (o + 1) (cs.set o v) _ hs (by simp; omega), Go.setRow_setRow]
  have e1 : (cs.set o v).take (o + 1) = cs.take o ++ [v] := by
   rw [List.take_add_one, List.take_set_of_le (Nat.le_refl _), List.getElem?_set_self (by omega)]; rfl
  have e2 : (cs.set o v).drop (o + 1 + r.length) = cs.drop (o + 1 + r.length) := List.drop_set_of_lt (by omega)
  rw [e1, e2, List.length_cons, show o + (r.length + 1) = o + 1 + r.length by omega]
  simp
def rdC (h : Hd) (v : Value) (p : Nat) (b : Bool) : List Value := hdC h v ++ [.int .i64 (p : Int), .bool b]
theorem rdC_len (h : Hd) (v : Value) (p : Nat) (b : Bool) : (rdC h v p b).length = 18 := rfl
theorem rdC_one (h : Hd) {v : Value} (hv : v.oneCell' = true) (p : Nat) (b : Bool) : (rdC h v p b).toArray.all (·.oneCell') = true := by
  have := hdC_one h hv
  rw [Array.all_eq_true_iff_forall_mem] at this ⊢
  intro u hu
  simp only [rdC, List.mem_toArray, List.mem_append, List.mem_cons, List.not_mem_nil, or_false] at hu
  rcases hu with hu | rfl | rfl
  · exact this u (by simpa using hu)
  · rfl
  · rfl
def BoxR (w : World) (b : Nat) (cs : List Value) : Prop := w.heap[b]? = some (.cells cs.toArray 62 (0, 0))
theorem BoxR.lt {w : World} {b : Nat} {cs : List Value} (h : BoxR w b cs) : b < w.heap.size := (Array.getElem?_eq_some_iff.1 h).1
theorem BoxR.below {w w' : World} {b n : Nat} {cs : List Value} (h : BoxR w b cs) (k : Below n w w') (hn : b < n) : BoxR w' b cs := by
 unfold BoxR; rw [k.block b hn]; exact h
theorem BoxR.alloc {w : World} {b : Nat} {cs : List Value} (h : BoxR w b cs) (o : Obj) : BoxR (w.alloc o) b cs := h.below ((Below.refl _ _).alloc (Nat.le_refl _) o) h.lt
theorem BoxR.new (w : World) (cs : List Value) : BoxR (w.alloc (.cells cs.toArray 62)) w.heap.size cs := heap_alloc_new w _
theorem BoxR.drew {w : World} {b : Nat} {cs : List Value} (h : BoxR w b cs) : BoxR w.drew b cs := h
theorem BoxR.drewN {w : World} {b : Nat} {cs : List Value} (h : BoxR w b cs) (n : Nat) : BoxR (w.drewN n) b cs := h.below (below_drewN0 w n) h.lt
theorem BoxR.set {w : World} {b : Nat} {cs : List Value} (h : BoxR w b cs) (cs' : List Value) : BoxR (w.setRow b cs'.toArray) b cs' := Go.setRow_heap w b _ _ _ _ h
theorem BoxR.other {w : World} {b g : Nat} {cs : List Value} (h : BoxR w b cs) (hb : b ≠ g) (cs' : Array Value) : BoxR (w.setRow g cs') b cs := by
 unfold BoxR; rw [setRow_heap w g b cs' hb]; exact h
theorem BoxR.at {w : World} {b : Nat} {h : Hd} {v : Value} {p : Nat} {x : Bool} (k : BoxR w b (rdC h v p x)) : w.cell? ⟨b, 16, none⟩ = some (.int .i64 (p : Int)) := by
 rw [cell_of_row w b 16 _ _ _ k]; rfl
theorem BoxR.bad {w : World} {b : Nat} {h : Hd} {v : Value} {p : Nat} {x : Bool} (k : BoxR w b (rdC h v p x)) : w.cell? ⟨b, 17, none⟩ = some (.bool x) := by
 rw [cell_of_row w b 17 _ _ _ k]; rfl
theorem BoxR.node {w : World} {b : Nat} {h : Hd} {v : Value} {p : Nat} {x : Bool} (k : BoxR w b (rdC h v p x)) : ∀ j, j < 16 → w.cell? ⟨b, 0 + j, none⟩ = (hdC h v)[j]? := fun j hj => by
 rw [Nat.zero_add, cell_of_row w b j _ _ _ k, List.getElem?_toArray, rdC, List.getElem?_append_left (by rw [hdC_len]; exact hj)]
theorem BoxR.free {w : World} {b : Nat} {cs : List Value} (k : BoxR w b cs) (j : Nat) : w.frozen? ⟨b, j, none⟩ = false := by
 unfold World.frozen?
 simp only [show w.heap[b]? = _ from k]
 simp
theorem sizeR : (Tryz.prog.info? 62).map (·.size) = some 18 := by kernel_rfl
theorem wpl_loadR {ops : Array Oper} {rest : List Oper} {o : Oper} {a : Act} {w : World} {Q : Exit → Act → World → Prop} (hgd : o.guard = none) (x : Operand) (ho : o.op = .load 62 x)
  (g : Nat) (hx : a.eval x = .pointer (some ⟨g, 0, none⟩)) {h : Hd} {v : Value} {p : Nat} {b : Bool} (hb : BoxR w g (rdC h v p b))
  (hk : wpList Tryz.prog ops Q rest (a.put o.dst (.agg (rdC h v p b).toArray)) w) : wpList Tryz.prog ops Q (o :: rest) a w :=
 wpList_load_row hgd 62 x ho g hx 62 _ (0, 0) _ hb Tryz.underlying62 rfl (by rw [sizeR]; rfl) hk
theorem wpl_storeR {ops : Array Oper} {rest : List Oper} {o : Oper} {a : Act} {w : World} {Q : Exit → Act → World → Prop} (hgd : o.guard = none) (x y : Operand) (ho : o.op = .store 62 x y)
  (g : Nat) (hx : a.eval x = .pointer (some ⟨g, 0, none⟩)) {h : Hd} {pp : Option Addr} {n cap : Nat} {p : Nat} {b : Bool} (hy : a.eval y = .agg (rdC h (.slice pp n cap) p b).toArray) {cs : List Value} (hb : BoxR w g cs) (hl : cs.length = 18)
  (hk : wpList Tryz.prog ops Q rest (a.put o.dst undef) (w.setRow g (rdC h (.slice pp n cap) p b).toArray)) : wpList Tryz.prog ops Q (o :: rest) a w :=
 wpList_store_row hgd 62 x y ho g _ hx hy 62 _ hb (by rw [sizeR]; rfl) (by simp [hl, rdC_len]) (rdC_one h rfl p b) hk
theorem wpl_newR {ops : Array Oper} {rest : List Oper} {o : Oper} {a : Act} {W w : World} {Q : Exit → Act → World → Prop} (hgd : o.guard = none) (x y : Operand) (ho : o.op = .store 62 x y)
  (hW : W = w.alloc (.cells (rdC zh (.slice none 0 0) 0 false).toArray 62)) (hx : a.eval x = .pointer (some ⟨w.heap.size, 0, none⟩)) {h : Hd} {pp : Option Addr} {n cap : Nat} {p : Nat} {b : Bool} (hy : a.eval y = .agg (rdC h (.slice pp n cap) p b).toArray)
  (hk : wpList Tryz.prog ops Q rest (a.put o.dst undef) (w.alloc (.cells (rdC h (.slice pp n cap) p b).toArray 62))) : wpList Tryz.prog ops Q (o :: rest) a W := by
 subst hW
 refine wpl_storeR hgd x y ho w.heap.size hx hy (BoxR.new w _) rfl ?_
 rw [World.setRow_alloc_new]
 exact hk
theorem wpl_loadRN {ops : Array Oper} {rest : List Oper} {o : Oper} {a : Act} {w : World} {Q : Exit → Act → World → Prop} (hgd : o.guard = none) (x : Operand) (ho : o.op = .load 34 x)
  (g : Nat) (hx : a.eval x = .pointer (some ⟨g, 0, none⟩)) {h : Hd} {v : Value} {p : Nat} {b : Bool} (hb : BoxR w g (rdC h v p b))
  (hk : wpList Tryz.prog ops Q rest (a.put o.dst (.agg (hdC h v).toArray)) w) : wpList Tryz.prog ops Q (o :: rest) a w :=
 wpl_loadAt hgd x ho g 0 hx hb.node hk
theorem wpl_storeRN {ops : Array Oper} {rest : List Oper} {o : Oper} {a : Act} {w : World} {Q : Exit → Act → World → Prop} (hgd : o.guard = none) (x y : Operand) (ho : o.op = .store 34 x y)
  (g : Nat) (hx : a.eval x = .pointer (some ⟨g, 0, none⟩)) {h : Hd} {pp : Option Addr} {n cap : Nat} (hy : a.eval y = .agg (hdC h (.slice pp n cap)).toArray) {h0 : Hd} {v0 : Value} {p : Nat} {b : Bool} (hb : BoxR w g (rdC h0 v0 p b))
  (hk : wpList Tryz.prog ops Q rest (a.put o.dst undef) (w.setRow g (rdC h (.slice pp n cap) p b).toArray)) : wpList Tryz.prog ops Q (o :: rest) a w := by
 have ht : w.there g 0 (hdC h (.slice pp n cap)).toArray.size := fun j hj => by
  have hj' : j < 16 := hj
  refine ⟨?_, hb.free _⟩
  rw [hb.node j hj', List.getElem?_eq_getElem (by rw [hdC_len]; exact hj')]
  rfl
 refine wpList_store_mid hgd 34 x y ho g 0 _ hx hy ht (by rw [sizeNode]; rfl) (hdC_one h rfl) ?_
 rw [setCells_row g _ _ _ 0 _ _ hb (by show 0 + 16 ≤ 18; omega)]
 exact hk
theorem BoxR.ret {fn : Func} {p : Tmp} (hf : fn.results = #[.cell p 62]) {tmps : Array Value} {w : World} {b : Nat} {h : Hd} {v : Value} {q : Nat} {x : Bool} (k : BoxR w b (rdC h v q x)) (hp : tmps.getD p undef = .pointer (some ⟨b, 0, none⟩)) : (results fn tmps).run Tryz.prog w = .ok (.agg (rdC h v q x).toArray) w :=
 results_cell_row hf tmps w b 62 (rdC h v q x).toArray (0, 0) _ hp k Tryz.underlying62 rfl (by rw [sizeR]; rfl)
theorem run_rd (h : Hd) (a : Option Addr) (n cap : Nat) (p : Nat) (w : World) : (Instr.build 62 #[(0, .agg (hdC h (.slice a n cap)).toArray), (1, .int .i64 (p : Int))]).run Tryz.prog w = .ok (.agg (rdC h (.slice a n cap) p false).toArray) w := run_build w _ _ _ (by kernel_rfl)
theorem run_rdAt (p : Nat) (w : World) : (Instr.build 62 #[(1, .int .i64 (p : Int))]).run Tryz.prog w = .ok (.agg (rdC zh (.slice none 0 0) p false).toArray) w := run_build w _ _ _ (by kernel_rfl)
theorem run_rdBad (p : Nat) (w : World) : (Instr.build 62 #[(1, .int .i64 (p : Int)), (2, .bool true)]).run Tryz.prog w = .ok (.agg (rdC zh (.slice none 0 0) p true).toArray) w := run_build w _ _ _ (by kernel_rfl)
theorem run_call2 (l : List UInt8) (a : Option Addr) (n cap : Nat) (w : World) : (Instr.build 34 #[(0, .int .i64 6), (4, .string ⟨l.toArray⟩), (5, .slice a n cap)]).run Tryz.prog w = .ok (.agg (hdC (callH l) (.slice a n cap)).toArray) w := run_build w _ _ _ (by kernel_rfl)
def TkAt (w : World) (g o cap : Nat) (ts : List Tok) : Prop :=
 ts.length ≤ cap ∧ cap ≤ maxLen ∧ g < w.heap.size ∧ ∀ i t, ts[i]? = some t → ∀ j, j < 12 → w.cell? ⟨g, o + i * 12 + j, none⟩ = (tokC t)[j]?
theorem TkAt.below {w w' : World} {g o cap : Nat} {ts : List Tok} (h : TkAt w g o cap ts) (hb : Below w.heap.size w w') : TkAt w' g o cap ts := by
 obtain ⟨h1, h2, h3, h4⟩ := h
 exact ⟨h1, h2, Nat.lt_of_lt_of_le h3 hb.size, fun i t hi j hj => by rw [hb.cell (p := ⟨g, o + i * 12 + j, none⟩) h3]; exact h4 i t hi j hj⟩
theorem TkAt.to {n : Nat} {w w' : World} {g o cap : Nat} {ts : List Tok} (h : TkAt w g o cap ts) (hb : Below n w w') (hg : g < n) : TkAt w' g o cap ts := by
 obtain ⟨h1, h2, h3, h4⟩ := h
 exact ⟨h1, h2, Nat.lt_of_lt_of_le h3 hb.size, fun i t hi j hj => by rw [hb.cell (p := ⟨g, o + i * 12 + j, none⟩) hg]; exact h4 i t hi j hj⟩
theorem tk_of_rd {w : World} {v : Value} {ts : List Tok} (h : Rd w v ts) (hn : ts ≠ []) : ∃ g o cap, v = .slice (some ⟨g, o, none⟩) ts.length cap ∧ TkAt w g o cap ts := by
  rcases h with ⟨_, h⟩ | ⟨g, o, cap, h1, h2, h3, h4, h5⟩
  · exact absurd h hn
  · exact ⟨g, o, cap, h1, h2, h3, h4, fun i t hi j hj => by rw [show o + i * 12 + j = o + 12 * i + j by omega]; exact h5 i t hi j hj⟩
theorem hd_drop {ts : List Tok} {i : Nat} (h : i < ts.length) : ts[i]? = some (hd (ts.drop i)) := by
 rw [List.drop_eq_getElem_cons h, List.getElem?_eq_getElem h]; rfl
theorem ris_any (g o cap : Nat) (ts : List Tok) (i : Nat) (s : ByteArray) (w : World) (h : TkAt w g o cap ts) (hi : i < ts.length) :
    Calls Tryz.prog 42 #[.slice (some ⟨g, o, none⟩) ts.length cap, .int .i64 (i : Int), .string s] w fun e w' => e = .returned (.bool (atB (ts.drop i) s.data.toList)) ∧ w' = w := by
  obtain ⟨h1, h2, h3, h4⟩ := h
  have e := hd_drop hi
  have hA : atB (ts.drop i) s.data.toList = (decide ((hd (ts.drop i)).kind = 4) && ((hd (ts.drop i)).txt == s.toList)) := by rw [toList_data, atB]; congr 1; rw [Bool.eq_iff_iff]; simp
  generalize hd (ts.drop i) = t at *
  have c0 : w.cell? ⟨g, o + i * 12, none⟩ = some (.int .i64 t.kind) := h4 i t e 0 (by omega)
  have c10 : w.cell? ⟨g, o + i * 12 + 10, none⟩ = some (.string ⟨t.txt.toArray⟩) := h4 i t e 10 (by omega)
  clear h4 e
  unfold maxLen at h2
  have HA := hide hA
  clear hA
  by_cases hk : t.kind = 4
  · go_enter Tryz.func42, Tryz.ntmps42
    go_wp2
    go_ret
    exact ⟨by rw [HA.out]; simp [hk], rfl⟩
  · go_enter Tryz.func42, Tryz.ntmps42
    go_wp2
    go_ret
    exact ⟨by rw [HA.out]; simp [hk], rfl⟩
def ToldR (ts : List Tok) (w : World) (r : Rs) (e : Ending) (w' : World) : Prop :=
 match r with
 | .ok h k l => ∃ a n cap p, e = .returned (.agg (rdC h (.slice a n cap) p false).toArray) ∧ Kv w' (New w w') (.slice a n cap) k ∧ Below w.heap.size w w' ∧ ts.drop p = l ∧ p < ts.length
 | .bad l => ∃ h a n cap p, e = .returned (.agg (rdC h (.slice a n cap) p true).toArray) ∧ Below w.heap.size w w' ∧ ts.drop p = l ∧ p < ts.length
theorem wpl_newN {ops : Array Oper} {rest : List Oper} {o : Oper} {a : Act} {W w : World} {Q : Exit → Act → World → Prop} (hgd : o.guard = none) (x y : Operand) (ho : o.op = .store 34 x y)
  (hW : W = w.alloc (.cells (hdC zh (.slice none 0 0)).toArray 34)) (hx : a.eval x = .pointer (some ⟨w.heap.size, 0, none⟩)) {h : Hd} {pp : Option Addr} {n cap : Nat} (hy : a.eval y = .agg (hdC h (.slice pp n cap)).toArray)
  (hk : wpList Tryz.prog ops Q rest (a.put o.dst undef) (w.alloc (.cells (hdC h (.slice pp n cap)).toArray 34))) : wpList Tryz.prog ops Q (o :: rest) a W := by
 subst hW
 refine wpl_store hgd x y ho w.heap.size hx hy (Box.new w _) rfl ?_
 rw [World.setRow_alloc_new]
 exact hk
theorem below_obj (w : World) (o : Obj) : Below w.heap.size w (w.alloc o) := (Below.refl _ _).alloc (Nat.le_refl _) o
theorem kv_second {w : World} {D : Nat → Prop} {v : Value} {h1 h2 : Hd} {k1 k2 : Fo} (hk : Kv w D v (.cons h1 k1 (.cons h2 k2 .nil))) : ∃ b o cap, v = .slice (some ⟨b, o, none⟩) 2 cap ∧ 2 ≤ cap ∧ cap ≤ maxLen ∧ D b ∧ w.cell? ⟨b, o, none⟩ = some (.int .i64 h1.kind) ∧ w.cell? ⟨b, o + 14, none⟩ = some (.string ⟨h1.txt.toArray⟩) ∧ w.cell? ⟨b, o + 16, none⟩ = some (.int .i64 h2.kind) ∧ w.cell? ⟨b, o + 16 + 14, none⟩ = some (.string ⟨h2.txt.toArray⟩) := by
  obtain ⟨a, n, cap, rfl, rfl, e | ⟨b, o, rfl, h3, h4, h5⟩⟩ := hk
  · cases e
  · obtain ⟨d1, ⟨v1, x1, _⟩, z1⟩ := row_cons.1 h5
    obtain ⟨_, ⟨v2, x2, _⟩, _⟩ := row_cons.1 z1
    exact ⟨b, o, cap, rfl, h3, h4, d1, x1 0 (by omega), x1 14 (by omega), x2 0 (by omega), x2 14 (by omega)⟩
theorem lives8_any (w : World) (hl : EnvL w) (ht : EnvT w) (he : EnvE w) :
  Calls Tryz.prog 9 #[] w fun e w' => e = .returned (.bool true) ∧ Below w.heap.size w w' := by
 have hm : (9 : Nat) ≤ maxLen := by decide
 have HP1 : Hid (∀ W : World, EnvL W → Calls Tryz.prog 10 #[.string ⟨#[49, 43, 50, 42, 51]⟩] W fun e w' => ∃ a n cap, e = .returned (.tuple #[nodeV (binH [43]) (.slice a n cap), .int .i64 0, .int .i64 0]) ∧ Kv w' (New W w') (.slice a n cap) (.cons (numH 1000000) .nil (.cons (binH [42]) (.cons (numH 2000000) .nil (.cons (numH 3000000) .nil .nil)) .nil)) ∧ Below W.heap.size W w') := fun W hW => parse_ok ⟨#[49, 43, 50, 42, 51]⟩ W hW (by decide) _ _ lives_a
 have HP2 : Hid (∀ W : World, EnvL W → EnvE W → Calls Tryz.prog 10 #[.string ⟨#[49, 43]⟩] W fun e w' => e = .returned (.tuple #[nodeV zh (.slice none 0 0), .int .i64 2, .int .i64 5]) ∧ Below W.heap.size W w') := fun W hW hE => parse_no ⟨#[49, 43]⟩ W hW hE (by decide) 2 5 lives_b
 have HA0 : Hid (∀ W : World, EnvL W → EnvT W → Calls Tryz.prog 21 #[.string ⟨#[49, 45, 40, 50, 45, 51, 41]⟩] W fun e w' => e = .returned (.string ⟨#[49, 45, 40, 50, 45, 51, 41]⟩) ∧ Below W.heap.size W w') := fun W hW hT => by
  have := again_ok ⟨#[49, 45, 40, 50, 45, 51, 41]⟩ W hW hT (by decide) _ _ lives_c
  rw [lives_c2] at this
  exact this
 have HA1 : Hid (∀ W : World, EnvL W → EnvT W → Calls Tryz.prog 21 #[.string ⟨#[40, 49, 45, 50, 41, 45, 51]⟩] W fun e w' => e = .returned (.string ⟨#[49, 45, 50, 45, 51]⟩) ∧ Below W.heap.size W w') := fun W hW hT => by
  have := again_ok ⟨#[40, 49, 45, 50, 41, 45, 51]⟩ W hW hT (by decide) _ _ lives_d
  rw [lives_d2] at this
  exact this
 have HA2 : Hid (∀ W : World, EnvL W → EnvT W → Calls Tryz.prog 21 #[.string ⟨#[45, 40, 49, 43, 50, 41, 42, 51]⟩] W fun e w' => e = .returned (.string ⟨#[45, 40, 49, 43, 50, 41, 42, 51]⟩) ∧ Below W.heap.size W w') := fun W hW hT => by
  have := again_ok ⟨#[45, 40, 49, 43, 50, 41, 42, 51]⟩ W hW hT (by decide) _ _ lives_e
  rw [lives_e2] at this
  exact this
 have HA3 : Hid (∀ W : World, EnvL W → EnvT W → Calls Tryz.prog 21 #[.string ⟨#[115, 117, 109, 40, 32, 65, 49, 32, 41]⟩] W fun e w' => e = .returned (.string ⟨#[83, 85, 77, 40, 65, 49, 41]⟩) ∧ Below W.heap.size W w') := fun W hW hT => by
  have := again_ok ⟨#[115, 117, 109, 40, 32, 65, 49, 32, 41]⟩ W hW hT (by decide) _ _ lives_f
  rw [lives_f2] at this
  exact this
 have HCk : Hid (∀ W : World, Calls Tryz.prog 15 #[.agg (hdC zh (.slice none 0 0)).toArray] W fun e w' => e = .returned (.int .i64 2) ∧ Below W.heap.size W w') := fun W =>
  check_node (fun _ => False) zh .nil none 0 0 W (fun _ h => h.elim) (kv_nil _ _ _ _) (by decide) (by decide) (by decide) trivial
 have HL := hide hl
 have HT := hide ht
 have HE := hide he
 clear hl ht he
 go_enter Tryz.func9, Tryz.ntmps9
 go_wp2_with (first | (go_at_call_of 10 [Value.string ⟨#[49, 43, 50, 42, 51]⟩]; go_loud (refine (HP1.out _ HL.out).mono ?_; rintro e w1 ⟨a1, n1, cap1, rfl, hk1, hb1⟩; obtain ⟨b1, o1, c1, hv1, hq1, hq2, hD1, _, _, _, hs1⟩ := kv_second hk1; cases hv1; have HB1 := hide (bar_below hb1 (Bar.of (below_obj w1 (.cells (hdC (binH [43]) (.slice (some ⟨b1, o1, none⟩) 2 cap1)).toArray 34)))); have HX1 := hide (Box.new w1 (hdC (binH [43]) (.slice (some ⟨b1, o1, none⟩) 2 cap1))); have hD2 := hD1.2; have HS1 : Hid ((w1.alloc (.cells (hdC (binH [43]) (.slice (some ⟨b1, o1, none⟩) 2 cap1)).toArray 34)).cell? ⟨b1, o1 + 16 + 14, none⟩ = some (.string ⟨#[42]⟩)) := ((below_obj w1 _).cell (p := ⟨b1, o1 + 16 + 14, none⟩) hD2).trans hs1; unfold maxLen at hq2; clear hk1 hb1 hs1 hD1)) | (with_reducible refine wpl_id ?_; refine wpl_newN rfl _ _ rfl rfl rfl rfl ?_) | (go_at_call_of 10 [Value.string ⟨#[49, 43]⟩]; refine (HP2.out _ (HL.out.below HB1.out) (HE.out.below HB1.out)).mono ?_; rintro e w2 ⟨rfl, hb2⟩; have HB2 := hide (bar_below (bar_below HB1.out (Bar.of hb2)) (Bar.of (below_obj w2 (.cells (hdC zh (.slice none 0 0)).toArray 34)))); have hX2 := HX1.out.below hb2; have c0 := hX2.cell 0 (.int .i64 5) rfl; have c14 := hX2.cell 14 (.string ⟨#[43]⟩) rfl; have c15 := hX2.cell 15 (.slice (some ⟨b1, o1, none⟩) 2 cap1) rfl; have z1 : w1.heap.size < w2.heap.size := hX2.lt; have z2 : b1 < w2.heap.size := Nat.lt_trans hD2 z1; have s1 := (hb2.cell (p := ⟨b1, o1 + 16 + 14, none⟩) (by simp; omega)).trans HS1.out; clear hb2 hX2) | (go_at_call_of 21 [Value.string ⟨#[49, 45, 40, 50, 45, 51, 41]⟩]; refine (HA0.out _ (HL.out.below HB2.out) (HT.out.below HB2.out)).mono ?_; rintro e w3 ⟨rfl, hb3⟩; have HB3 := hide (bar_below HB2.out (Bar.of hb3)); clear hb3) | (go_at_call_of 21 [Value.string ⟨#[40, 49, 45, 50, 41, 45, 51]⟩]; refine (HA1.out _ (HL.out.below HB3.out) (HT.out.below HB3.out)).mono ?_; rintro e w4 ⟨rfl, hb4⟩; have HB4 := hide (bar_below HB3.out (Bar.of hb4)); clear hb4) | (go_at_call_of 21 [Value.string ⟨#[45, 40, 49, 43, 50, 41, 42, 51]⟩]; refine (HA2.out _ (HL.out.below HB4.out) (HT.out.below HB4.out)).mono ?_; rintro e w5 ⟨rfl, hb5⟩; have HB5 := hide (bar_below HB4.out (Bar.of hb5)); clear hb5) | (go_at_call_of 21 [Value.string ⟨#[115, 117, 109, 40, 32, 65, 49, 32, 41]⟩]; refine (HA3.out _ (HL.out.below HB5.out) (HT.out.below HB5.out)).mono ?_; rintro e w6 ⟨rfl, hb6⟩; have HB6 := hide (bar_below HB5.out (Bar.of hb6)); clear hb6) | (go_at_call 15; refine (HCk.out _).mono ?_; rintro e w7 ⟨rfl, hb7⟩; have HB7 := hide (bar_below HB6.out (Bar.of hb7)); clear hb7))
 go_ret
 exact ⟨rfl, HB7.out⟩
end Go.Proofs.YtiaoaifoecmemaaGreatDoor
