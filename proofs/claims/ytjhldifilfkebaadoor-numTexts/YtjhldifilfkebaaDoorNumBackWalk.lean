/-
  The walk of the law NumBack, out of its callees' contracts.
-/
import Derived.Test.YtjhldifilfkebaaDoorTextMath
import Derived.Test.YtjhldifilfkebaaDoorLives
namespace Go.Proofs.YtjhldifilfkebaaDoor
open Go.RowKit

theorem parse_no {l : List UInt8} (h : (parseR l).2 ≠ 0) : (parseR l).1 = 0 := by
  unfold parseR at *
  split at h
  · rename_i c; rw [if_pos c]
  · rename_i c
    rw [if_neg c]
    split at h
    · rename_i c2
      rw [if_pos c2]
      unfold told at *
      split at h
      · exact absurd rfl h
      · rename_i c3; rw [if_neg c3]
    · rename_i c2; rw [if_neg c2]
theorem parse_yes {l : List UInt8} (h : (parseR l).2 = 0) : fitsB (parseR l).1 = true := by
  unfold parseR at *
  split at h
  · exact absurd h (by decide)
  · rename_i c
    rw [if_neg c]
    split at h
    · rename_i c2
      rw [if_pos c2]
      unfold told at *
      split at h
      · rename_i c3; rw [if_pos c3]; exact c3
      · exact absurd h (by decide)
    · exact absurd h (by decide)

/-- The cell that the search reads holds some number. -/
def CellOk (w : World) : Prop := ∃ m, w.cell? ⟨2, 0, none⟩ = some (.int .i64 m)
theorem cellOk_below {w w' : World} (h : CellOk w) (hb : Below w.heap.size w w') : CellOk w' := by
  obtain ⟨m, hm⟩ := h
  exact ⟨m, cell_later hb hm⟩
theorem text_size {n : Int} (h : fitsB n = true) : (⟨(textOf n).toArray⟩ : ByteArray).size ≤ maxLen := by
  obtain ⟨n1, n2⟩ := fitsB_true h
  have x0 := absI_nn n
  have x1 := absI_le n1 n2
  have hfl := (fracT_facts (absI n)).1
  have hdl := dec_len (u := (absI n / 1000000).toNat) (by omega)
  show (textOf n).toArray.size ≤ maxLen
  rw [List.size_toArray]
  unfold textOf maxLen
  rw [List.length_append, List.length_append]
  split <;> split <;> simp <;> omega
theorem parse_at (s : ByteArray) (w : World) (hc : CellOk w) (hs : s.size ≤ maxLen) :
    Calls Tryd.prog 26 #[.string s] w fun e w' => e = .returned (.tuple #[.int .i64 (parseR s.data.toList).1, .int .i64 (parseR s.data.toList).2]) ∧ Below w.heap.size w w' := by
  obtain ⟨m, hm⟩ := hc
  exact parse_any s w m hm hs
/-- Parse of what is written. -/
theorem parse_text {n : Int} (h : fitsB n = true) (w : World) (hc : CellOk w) :
    Calls Tryd.prog 26 #[.string ⟨(textOf n).toArray⟩] w fun e w' => e = .returned (.tuple #[.int .i64 n, .int .i64 0]) ∧ Below w.heap.size w w' := by
  have := parse_at ⟨(textOf n).toArray⟩ w hc (text_size h)
  rw [show (⟨(textOf n).toArray⟩ : ByteArray).data.toList = textOf n from rfl, parse_print h] at this
  exact this

set_option maxHeartbeats 2000000 in
theorem numBack_any (n : Int) (s : ByteArray) (w : World) (ht : TabOk w) (hc : CellOk w) (hs : s.size ≤ maxLen) :
    Calls Tryd.prog 8 #[.int .i64 n, .string s] w fun e w' => e = .returned (.bool true) ∧ Below w.heap.size w w' := by
  have HT := hide ht
  have HC := hide hc
  have HSz := hide hs
  clear ht hc hs
  have hno := parse_no (l := s.data.toList)
  have hyes := parse_yes (l := s.data.toList)
  have HPs := hide (fun (W : World) hW => parse_at s W hW HSz.out)
  generalize parseR s.data.toList = p at *
  obtain ⟨x, g⟩ := p
  have HPs' : Hid (∀ W : World, CellOk W → Calls Tryd.prog 26 #[.string s] W fun e w' => e = .returned (.tuple #[.int .i64 x, .int .i64 g]) ∧ Below W.heap.size W w') := HPs.out
  have HN : Hid (g ≠ 0 → x = 0) := hno
  have HY : Hid (g = 0 → fitsB x = true) := hyes
  clear HPs hno hyes HSz
  cases hf : fitsB n
  · go_enter Tryd.func8, Tryd.ntmps8
    go_wp2_with fail
    refine (print_bad n _ hf).mono ?_
    rintro e w1 ⟨rfl, rfl⟩
    have c0 := Below.refl w1.heap.size w1
    go_wp2_with fail
    refine (HPs'.out _ (cellOk_below HC.out c0)).mono ?_
    rintro e w3 ⟨rfl, b3⟩
    have c3 := c0.trans (b3.mono c0.size)
    clear c0 b3
    by_cases hg : g = 0
    · have hx := HY.out hg
      subst hg
      go_wp2_with fail
      refine (print_good x _ hx (tab_below HT.out c3)).mono ?_
      rintro e w4 ⟨rfl, b4⟩
      have c4 := c3.trans (b4.mono c3.size)
      clear c3 b4
      go_wp2_with fail
      refine (parse_text hx _ (cellOk_below HC.out c4)).mono ?_
      rintro e w5 ⟨rfl, b5⟩
      have c5 := c4.trans (b5.mono c4.size)
      clear c4 b5
      go_wp2_with fail
      refine (lives_any _ (tab_below HT.out c5)).mono ?_
      rintro e w6 ⟨rfl, b6⟩
      go_wp2
      go_ret
      exact ⟨rfl, c5.trans (b6.mono c5.size)⟩
    · have hx := HN.out hg
      subst hx
      have t : (g != 0) = true := by simp [hg]
      clear hg
      go_wp2_with fail
      refine (lives_any _ (tab_below HT.out c3)).mono ?_
      rintro e w6 ⟨rfl, b6⟩
      go_wp2
      go_ret
      exact ⟨rfl, c3.trans (b6.mono c3.size)⟩
  · go_enter Tryd.func8, Tryd.ntmps8
    go_wp2_with fail
    refine (print_good n _ hf HT.out).mono ?_
    rintro e w1 ⟨rfl, b1⟩
    go_wp2_with fail
    refine (parse_text hf _ (cellOk_below HC.out b1)).mono ?_
    rintro e w2 ⟨rfl, b2⟩
    have c0 := b1.trans (b2.mono b1.size)
    clear b1 b2
    go_wp2_with fail
    refine (HPs'.out _ (cellOk_below HC.out c0)).mono ?_
    rintro e w3 ⟨rfl, b3⟩
    have c3 := c0.trans (b3.mono c0.size)
    clear c0 b3
    by_cases hg : g = 0
    · have hx := HY.out hg
      subst hg
      go_wp2_with fail
      refine (print_good x _ hx (tab_below HT.out c3)).mono ?_
      rintro e w4 ⟨rfl, b4⟩
      have c4 := c3.trans (b4.mono c3.size)
      clear c3 b4
      go_wp2_with fail
      refine (parse_text hx _ (cellOk_below HC.out c4)).mono ?_
      rintro e w5 ⟨rfl, b5⟩
      have c5 := c4.trans (b5.mono c4.size)
      clear c4 b5
      go_wp2_with fail
      refine (lives_any _ (tab_below HT.out c5)).mono ?_
      rintro e w6 ⟨rfl, b6⟩
      go_wp2
      go_ret
      exact ⟨rfl, c5.trans (b6.mono c5.size)⟩
    · have hx := HN.out hg
      subst hx
      have t : (g != 0) = true := by simp [hg]
      clear hg
      go_wp2_with fail
      refine (lives_any _ (tab_below HT.out c3)).mono ?_
      rintro e w6 ⟨rfl, b6⟩
      go_wp2
      go_ret
      exact ⟨rfl, c3.trans (b6.mono c3.size)⟩
end Go.Proofs.YtjhldifilfkebaaDoor
