/-
  The contracts of crit's Wild and Like.
-/
import Derived.Test.YthooimaadgabiabDoorCr1
import Derived.Test.YthooimaadgabiabDoorCr2
import Derived.LoopTactic
namespace Go.Proofs.YthooimaadgabiabDoor
open Go.RowKit
set_option linter.unusedSimpArgs false

theorem upR {a b c : World} (h : Below a.heap.size a b) (k : Below b.heap.size b c) : Below a.heap.size a c := h.trans (k.mono h.size)
theorem stps_get : ∀ {l : List Stp} {j : Nat} {p : Stp}, l[j]? = some p → (stpsC l)[j * 2]? = some (.int .u8 (p.k : Int)) ∧ (stpsC l)[j * 2 + 1]? = some (.int .u8 (p.o.toNat : Int))
  | [], j, p, h => by simp at h
  | q :: l, 0, p, h => by
    simp at h
    subst h
    exact ⟨rfl, rfl⟩
  | q :: l, j + 1, p, h => by
    have := stps_get (l := l) (j := j) (p := p) (by simpa using h)
    rw [show (j + 1) * 2 = j * 2 + 1 + 1 by omega]
    exact this
/-- What steps tells, as it is read. -/
theorem strow_at {w0 w : World} {v : Value} {room : Nat} {l : List Stp} (h : StRow w0 w v room l) : ∃ g, v = .slice (some ⟨g, 0, none⟩) l.length room ∧ StAt w g 0 l ∧ g < w.heap.size ∧ w0.heap.size ≤ g ∧ l.length ≤ room ∧ room ≤ maxLen ∧ Below w0.heap.size w0 w := by
  obtain ⟨g, rfl, hown, hb⟩ := h
  have hown' := hown
  obtain ⟨_, h1 | ⟨g', cap, cur, h1, h2, h3, h4, h5, _, _⟩⟩ := hown'
  · simp at h1
  · simp only [Value.slice.injEq, Option.some.injEq, Addr.mk.injEq, and_true, true_and] at h1
    obtain ⟨rfl, rfl⟩ := h1
    refine ⟨g, rfl, fun j p hj => ?_, (Array.getElem?_eq_some_iff.1 h3).1, h2, h4, h5, hb⟩
    have hlt := (List.getElem?_eq_some_iff.1 hj).1
    obtain ⟨k1, k2⟩ := stps_get hj
    rw [Nat.zero_add]
    exact ⟨(hown.cellAt (j * 2) (by omega)).trans k1, (hown.cellAt (j * 2 + 1) (by omega)).trans k2⟩
theorem StAt.below {w w' : World} {g o : Nat} {l : List Stp} (h : StAt w g o l) (hg : g < w.heap.size) (k : Below w.heap.size w w') : StAt w' g o l := fun j p hj =>
  ⟨(k.cell (p := ⟨g, o + j * 2, Option.none⟩) hg).trans (h j p hj).1, (k.cell (p := ⟨g, o + j * 2 + 1, Option.none⟩) hg).trans (h j p hj).2⟩
/-- Where the first wild step stands; below 0: there is none. -/
def idxW (l : List Stp) : Int := match l.findIdx? (fun p => p.k != 0) with
  | some i => i
  | none => -1
theorem idxW_none {l : List Stp} (h : ∀ (j : Nat) (p : Stp), l[j]? = some p → (p.k != 0) = false) : idxW l = -1 := by
  unfold idxW
  have : l.findIdx? (fun p => p.k != 0) = none := by
    rw [List.findIdx?_eq_none_iff]
    intro x hx
    obtain ⟨j, hj⟩ := List.mem_iff_getElem?.1 hx
    exact h j x hj
  rw [this]
theorem idxW_some {l : List Stp} {k : Nat} {p : Stp} (hk : l[k]? = some p) (hp : (p.k != 0) = true) (h : ∀ (j : Nat) (q : Stp), j < k → l[j]? = some q → (q.k != 0) = false) : idxW l = k := by
  unfold idxW
  have : l.findIdx? (fun p => p.k != 0) = some k := by
    rw [List.findIdx?_eq_some_iff_getElem]
    obtain ⟨hl, e⟩ := List.getElem?_eq_some_iff.1 hk
    refine ⟨hl, by rw [e]; exact hp, fun j hj => ?_⟩
    have := h j l[j] hj (List.getElem?_eq_getElem (by omega))
    rw [this]; decide
  rw [this]
theorem idxW_any (l : List Stp) : decide (0 ≤ idxW l) = wildB l := by
  unfold wildB
  cases ha : l.any fun p => p.k != 0
  · rw [idxW_none fun j x hx => by
      have := List.any_eq_false.1 ha x (List.mem_of_getElem? hx)
      simpa using this]
    rfl
  · obtain ⟨x, hx, hp⟩ := List.any_eq_true.1 ha
    have : 0 ≤ idxW l := by
      unfold idxW
      cases hf : l.findIdx? (fun p => p.k != 0) with
      | some i => exact Int.natCast_nonneg i
      | none =>
        rw [List.findIdx?_eq_none_iff] at hf
        have := hf x hx
        rw [hp] at this
        cases this
    rw [decide_eq_true this]
theorem steps_bound (s : ByteArray) (hs : s.size ≤ 140737488355328) : (stepsR (foldL s.data.toList)).length ≤ 140737488355328 := by
  have h1 := steps_len _ (foldL s.data.toList) (Nat.le_refl _)
  rw [foldL_len] at h1
  have h2 : s.data.toList.length = s.size := Array.length_toList
  omega
/-- Is a text like a pattern? -/
def likeR (p s : List UInt8) : Bool := lk (stepsR (foldL p)) (foldL s)
set_option maxHeartbeats 2000000 in
theorem Like_any (p s : ByteArray) (w : World) (hp : p.size ≤ 140737488355328) (hs : s.size ≤ maxLen) :
    Calls Tryd.prog 40 #[.string p, .string s] w fun e w' => e = .returned (.bool (likeR p.data.toList s.data.toList)) ∧ Below w.heap.size w w' := by
  have HS : Hid (∀ W : World, Calls Tryd.prog 51 #[.string p] W fun e w' => ∃ g cap, e = .returned (.slice (some ⟨g, 0, none⟩) (stepsR (foldL p.data.toList)).length cap) ∧ StAt w' g 0 (stepsR (foldL p.data.toList)) ∧ g < w'.heap.size ∧ (stepsR (foldL p.data.toList)).length ≤ cap ∧ cap ≤ maxLen ∧ Below W.heap.size W w') := fun W => (csteps_any p W hp).mono fun e w' ⟨v, he, hr⟩ => by
    obtain ⟨g, rfl, h1, h2, _, h3, h4, h5⟩ := strow_at hr
    exact ⟨g, _, he, h1, h2, h3, h4, h5⟩
  have HF : Hid (∀ W : World, Calls Tryd.prog 12 #[.string s] W fun e w' => e = .returned (.string ⟨(foldL s.data.toList).toArray⟩) ∧ Below W.heap.size W w') := fun W => fold_any s W
  have h2 : (foldL s.data.toList).length ≤ maxLen := by rw [foldL_len, show s.data.toList.length = s.size from Array.length_toList]; exact hs
  unfold likeR
  generalize stepsR (foldL p.data.toList) = L at *
  generalize foldL s.data.toList = T at *
  have HM : Hid (∀ (g cap : Nat) (W : World), StAt W g 0 L → g < W.heap.size → L.length ≤ cap → cap ≤ maxLen → Calls Tryd.prog 50 #[.slice (some ⟨g, 0, none⟩) L.length cap, .string ⟨T.toArray⟩] W fun e w' => e = .returned (.bool (lk L T)) ∧ Below W.heap.size W w') := fun g cap W a b c d => match_any g 0 cap L T W a b c d h2
  clear hp hs h2
  go_enter Tryd.func40, Tryd.ntmps40
  go_wp2_with (first | (go_at_call 51; refine (HS.out _).mono ?_; rintro e w1 ⟨g, cap, rfl, h1, h2, h3, h4, hb1⟩; have HB1 := hide hb1; have HX := hide h1; have HG := hide h2; clear hb1 h1 h2) | (go_at_call 12; refine (HF.out _).mono ?_; rintro e w2 ⟨rfl, hb2⟩; have HB2 := hide hb2; clear hb2) | (go_at_call 50; refine (HM.out _ _ _ (HX.out.below HG.out HB2.out) (Nat.lt_of_lt_of_le HG.out HB2.out.size) h3 h4).mono ?_; rintro e w3 ⟨rfl, hb3⟩))
  go_ret
  exact ⟨rfl, upR (upR HB1.out HB2.out) hb3⟩
end Go.Proofs.YthooimaadgabiabDoor
