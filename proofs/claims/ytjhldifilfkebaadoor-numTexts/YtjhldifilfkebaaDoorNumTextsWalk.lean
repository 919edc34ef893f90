/-
  The walk of the law NumTexts, out of its callees' contracts.
-/
import Derived.Test.YtjhldifilfkebaaDoorRefParse
import Derived.Test.YtjhldifilfkebaaDoorNumBackWalk
namespace Go.Proofs.YtjhldifilfkebaaDoor
open Go.RowKit

set_option maxHeartbeats 400000 in
theorem rparse_long (s : ByteArray) (w : World) (h : 40 < s.size) (hs : s.size ≤ maxLen) :
    Calls Tryd.prog 27 #[.string s] w fun e w' => e = .returned (.tuple #[.int .i64 0, .int .i64 5]) ∧ w' = w := by
  unfold maxLen at hs
  go_enter Tryd.func27, Tryd.ntmps27
  go_wp2
  go_ret2
  exact ⟨rfl, rfl⟩

theorem rparse_any (s : ByteArray) (w : World) (hs : s.size ≤ maxLen) :
    Calls Tryd.prog 27 #[.string s] w fun e w' => e = .returned (.tuple #[.int .i64 (parseR s.data.toList).1, .int .i64 (parseR s.data.toList).2]) ∧ w' = w := by
  obtain ⟨l, rfl⟩ : ∃ l : List UInt8, s = ⟨l.toArray⟩ := ⟨s.data.toList, Go.WideShapes.bytes_inj (by simp)⟩
  have hl : (⟨l.toArray⟩ : ByteArray).size = l.length := by show l.toArray.size = _; rw [List.size_toArray]
  have hd : (⟨l.toArray⟩ : ByteArray).data.toList = l := rfl
  rw [hd]
  by_cases h40 : 40 < l.length
  · rw [show parseR l = (0, 5) from by unfold parseR; rw [if_pos h40]]
    exact rparse_long _ w (by omega) hs
  · rw [parse_body (by omega)]
    match l, h40 with
    | [], _ => exact rparse_pos [] w (by simp) (by decide)
    | c :: r, h40 =>
      by_cases hc : c = 45
      · subst hc
        have e1 : Lib.hasPrefix (45 :: r) [45] = true := by simp [Lib.hasPrefix, List.isPrefixOf]
        have e2 : Lib.trimPrefix (45 :: r) [45] = r := by simp [Lib.trimPrefix, e1]
        rw [e1, e2]
        exact rparse_neg r w (by simp at h40; omega)
      · have e1 : Lib.hasPrefix (c :: r) [45] = false := by
          have : (45 : UInt8) ≠ c := fun e => hc e.symm
          simp [Lib.hasPrefix, List.isPrefixOf, this]
        have e2 : Lib.trimPrefix (c :: r) [45] = c :: r := by simp [Lib.trimPrefix, e1]
        rw [e1, e2]
        exact rparse_pos (c :: r) w (by omega) hc

set_option maxHeartbeats 400000 in
theorem rprint_bad (n : Int) (w : World) (h : fitsB n = false) :
    Calls Tryd.prog 29 #[.int .i64 n] w fun e w' => e = .returned (.tuple #[.string ⟨#[]⟩, .int .i64 2]) ∧ w' = w := by
  go_enter Tryd.func29, Tryd.ntmps29
  go_wp2_with (go_at_call 14; refine (rfits_any _ _).mono ?_; rintro e w' ⟨rfl, rfl⟩)
  go_ret2
  exact ⟨rfl, rfl⟩

set_option maxHeartbeats 2000000 in
theorem numTexts_any (s : ByteArray) (n : Int) (w : World) (ht : TabOk w) (hc : CellOk w) (hs : s.size ≤ maxLen) :
    Calls Tryd.prog 7 #[.string s, .int .i64 n] w fun e w' => e = .returned (.bool true) ∧ Below w.heap.size w w' := by
  have HT := hide ht
  have HC := hide hc
  have HP := hide (fun (W : World) hW => parse_at s W hW hs)
  have HR := hide (fun W : World => rparse_any s W hs)
  clear ht hc hs
  generalize parseR s.data.toList = p at *
  obtain ⟨x, g⟩ := p
  have HP' : Hid (∀ W : World, CellOk W → Calls Tryd.prog 26 #[.string s] W fun e w' => e = .returned (.tuple #[.int .i64 x, .int .i64 g]) ∧ Below W.heap.size W w') := HP.out
  have HR' : Hid (∀ W : World, Calls Tryd.prog 27 #[.string s] W fun e w' => e = .returned (.tuple #[.int .i64 x, .int .i64 g]) ∧ w' = W) := HR.out
  clear HP HR
  cases hf : fitsB n
  · go_enter Tryd.func7, Tryd.ntmps7
    go_wp2_with fail
    refine (HP'.out _ HC.out).mono ?_
    rintro e w1 ⟨rfl, b1⟩
    go_wp2_with fail
    refine (HR'.out _).mono ?_
    rintro e w2 ⟨rfl, rfl⟩
    go_wp2_with fail
    refine (print_bad n _ hf).mono ?_
    rintro e w3 ⟨rfl, rfl⟩
    go_wp2_with fail
    refine (rprint_bad n _ hf).mono ?_
    rintro e w4 ⟨rfl, rfl⟩
    go_wp2_with fail
    refine (lives_any _ (tab_below HT.out b1)).mono ?_
    rintro e w6 ⟨rfl, b6⟩
    go_wp2
    go_ret
    exact ⟨rfl, b1.trans (b6.mono b1.size)⟩
  · go_enter Tryd.func7, Tryd.ntmps7
    go_wp2_with fail
    refine (HP'.out _ HC.out).mono ?_
    rintro e w1 ⟨rfl, b1⟩
    go_wp2_with fail
    refine (HR'.out _).mono ?_
    rintro e w2 ⟨rfl, rfl⟩
    go_wp2_with fail
    refine (print_good n _ hf (tab_below HT.out b1)).mono ?_
    rintro e w3 ⟨rfl, b3⟩
    have c3 := b1.trans (b3.mono b1.size)
    clear b1 b3
    go_wp2_with fail
    refine (rprint_good n _ hf).mono ?_
    rintro e w4 ⟨rfl, b4⟩
    have c4 := c3.trans (b4.mono c3.size)
    clear c3 b4
    go_wp2_with fail
    refine (lives_any _ (tab_below HT.out c4)).mono ?_
    rintro e w6 ⟨rfl, b6⟩
    go_wp2
    go_ret
    exact ⟨rfl, c4.trans (b6.mono c4.size)⟩
end Go.Proofs.YtjhldifilfkebaaDoor
