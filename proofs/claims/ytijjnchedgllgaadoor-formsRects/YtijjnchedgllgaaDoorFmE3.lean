/-
  The contract of the answer's plain (made by plaingen2.py).
-/
import Derived.Test.YtijjnchedgllgaaDoorFmE1
import Derived.Test.YtijjnchedgllgaaDoorFmE2
import Derived.Deep.RegionHeld3
namespace Go.Proofs.YtijjnchedgllgaaDoor
open Go.RowKit Go.Shelf

theorem plain_any (h : Hd) (a : Option Addr) (n cap : Nat) (w : World) :
    Calls Tryd.prog 57 #[.agg (hdC h (.slice a n cap)).toArray] w fun e w' => e = .returned (.bool (plainB h)) ∧ Below w.heap.size w w' := by
  obtain ⟨kind, vk, vn, vs, vb, vc, row, col, fr, fc, row2, col2, fr2, fc2, txt⟩ := h
  by_cases e1 : kind = 1
  · subst e1; exact plain_1 vk vn vs vb vc row col fr fc row2 col2 fr2 fc2 txt a n cap w
  by_cases e2 : kind = 2
  · subst e2; exact plain_2 vk vn vs vb vc row col fr fc row2 col2 fr2 fc2 txt a n cap w
  by_cases e3 : kind = 3
  · subst e3; exact plain_3 vk vn vs vb vc row col fr fc row2 col2 fr2 fc2 txt a n cap w
  by_cases e5 : kind = 5
  · subst e5; exact plain_5 vk vn vs vb vc row col fr fc row2 col2 fr2 fc2 txt a n cap w
  by_cases e6 : kind = 6
  · subst e6; exact plain_6 vk vn vs vb vc row col fr fc row2 col2 fr2 fc2 txt a n cap w
  exact plain_kind kind (by simpa using e1) (by simpa using e2) (by simpa using e3) (by simpa using e5) (by simpa using e6) vk vn vs vb vc row col fr fc row2 col2 fr2 fc2 txt a n cap w
end Go.Proofs.YtijjnchedgllgaaDoor
