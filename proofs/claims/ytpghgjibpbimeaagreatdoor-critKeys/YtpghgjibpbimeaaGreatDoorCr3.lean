/-
  The contracts of crit's Wild and Like.
-/
import Derived.Test.YtpghgjibpbimeaaGreatDoorCr1
import Derived.Test.YtpghgjibpbimeaaGreatDoorCr2
import Derived.LoopTactic
namespace Go.Proofs.YtpghgjibpbimeaaGreatDoor
open Go.RowKit
set_option linter.unusedSimpArgs false

theorem upR {a b c : World} (h : Below a.heap.size a b) (k : Below b.heap.size b c) : Below a.heap.size a c := h.trans (k.mono h.size)
theorem stps_get : ∀ {l : List Stp} {j : Nat} {p : Stp}, l[j]? = some p → (stpsC l)[j * 2]? = some (.int .u8 (p.k : Int)) ∧ (stpsC l)[j * 2 + 1]? = some (.int .u8 (p.o.toNat : Int))
  | [], j, p, h => by simp at h
  | q :: l, 0, p, h => by
    simp at h
    subst h
    exact ⟨rfl, rfl⟩
  | q :: l, j + 1, p, h => by
    have := stps_get (l := l) (j := j) (p := p) (by simpa using h)
    rw [show (j + 1) * 2 = j * 2 + 1 + 1 by omega]
    exact this
/-- What steps tells, as it is read. -/
theorem strow_at {w0 w : World} {v : Value} {room : Nat} {l : List Stp} (h : StRow w0 w v room l) : ∃ g, v = .slice (some ⟨g, 0, none⟩) l.length room ∧ StAt w g 0 l ∧ g < w.heap.size ∧ w0.heap.size ≤ g ∧ l.length ≤ room ∧ room ≤ maxLen ∧ Below w0.heap.size w0 w := by
  obtain ⟨g, rfl, hown, hb⟩ := h
  have hown' := hown
  obtain ⟨_, h1 | ⟨g', cap, cur, h1, h2, h3, h4, h5, _, _⟩⟩ := hown'
  · simp at h1
  · simp only [Value.slice.injEq, Option.some.injEq, Addr.mk.injEq, and_true, true_and] at h1
    obtain ⟨rfl, rfl⟩ := h1
    refine ⟨g, rfl, fun j p hj => ?_, (Array.getElem?_eq_some_iff.1 h3).1, h2, h4, h5, hb⟩
    have hlt := (List.getElem?_eq_some_iff.1 hj).1
    obtain ⟨k1, k2⟩ := stps_get hj
    rw [Nat.zero_add]
    exact ⟨(hown.cellAt (j * 2) (by omega)).trans k1, (hown.cellAt (j * 2 + 1) (by omega)).trans k2⟩
theorem StAt.below {w w' : World} {g o : Nat} {l : List Stp} (h : StAt w g o l) (hg : g < w.heap.size) (k : Below w.heap.size w w') : StAt w' g o l := fun j p hj =>
  ⟨(k.cell (p := ⟨g, o + j * 2, Option.none⟩) hg).trans (h j p hj).1, (k.cell (p := ⟨g, o + j * 2 + 1, Option.none⟩) hg).trans (h j p hj).2⟩
theorem isWild_any (p : Stp) (w : World) :
    Calls Tryz.prog 11 #[.agg #[.int .u8 (p.k : Int), .int .u8 (p.o.toNat : Int)]] w fun e w' => e = .returned (.bool (p.k != 0)) ∧ Below w.heap.size w w' := by
  have hk : (p.k != 0) = ((p.k : Int) != 0) := by
    by_cases h : p.k = 0
    · rw [h]; rfl
    · have e1 : (p.k != 0) = true := by rw [bne_iff_ne]; exact h
      have e2 : ((p.k : Int) != 0) = true := by rw [bne_iff_ne]; omega
      rw [e1, e2]
  rw [hk]
  generalize (p.k : Int) = x at *
  generalize (p.o.toNat : Int) = y at *
  clear hk
  go_enter Tryz.func11, Tryz.ntmps11
  go_wp2
  go_ret
  exact ⟨rfl, (Below.refl _ w).alloc (Nat.le_refl _) _⟩
/-- Where the first wild step stands; below 0: there is none. -/
def idxW (l : List Stp) : Int := match l.findIdx? (fun p => p.k != 0) with
  | some i => i
  | none => -1
theorem idxW_none {l : List Stp} (h : ∀ (j : Nat) (p : Stp), l[j]? = some p → (p.k != 0) = false) : idxW l = -1 := by
  unfold idxW
  have : l.findIdx? (fun p => p.k != 0) = none := by
    rw [List.findIdx?_eq_none_iff]
    intro x hx
    obtain ⟨j, hj⟩ := List.mem_iff_getElem?.1 hx
    exact h j x hj
  rw [this]
theorem idxW_some {l : List Stp} {k : Nat} {p : Stp} (hk : l[k]? = some p) (hp : (p.k != 0) = true) (h : ∀ (j : Nat) (q : Stp), j < k → l[j]? = some q → (q.k != 0) = false) : idxW l = k := by
  unfold idxW
  have : l.findIdx? (fun p => p.k != 0) = some k := by
    rw [List.findIdx?_eq_some_iff_getElem]
    obtain ⟨hl, e⟩ := List.getElem?_eq_some_iff.1 hk
    refine ⟨hl, by rw [e]; exact hp, fun j hj => ?_⟩
    have := h j l[j] hj (List.getElem?_eq_getElem (by omega))
    rw [this]; decide
  rw [this]
theorem idxW_any (l : List Stp) : decide (0 ≤ idxW l) = wildB l := by
  unfold wildB
  cases ha : l.any fun p => p.k != 0
  · rw [idxW_none fun j x hx => by
      have := List.any_eq_false.1 ha x (List.mem_of_getElem? hx)
      simpa using this]
    rfl
  · obtain ⟨x, hx, hp⟩ := List.any_eq_true.1 ha
    have : 0 ≤ idxW l := by
      unfold idxW
      cases hf : l.findIdx? (fun p => p.k != 0) with
      | some i => exact Int.natCast_nonneg i
      | none =>
        rw [List.findIdx?_eq_none_iff] at hf
        have := hf x hx
        rw [hp] at this
        cases this
    rw [decide_eq_true this]
set_option maxHeartbeats 4000000 in
theorem index_wild (g cap : Nat) (l : List Stp) (w : World) (h : StAt w g 0 l) (hg : g < w.heap.size) (hl : l.length ≤ 140737488355328) :
    Calls Tryz.prog 26 #[.slice (some ⟨g, 0, none⟩) l.length cap, .func (.func 11) #[] #[]] w fun e w' => e = .returned (.int .i64 (idxW l)) ∧ Below w.heap.size w w' := by
  have HS := hide h
  obtain ⟨R, hR⟩ : ∃ R, idxW l = R := ⟨_, rfl⟩
  rw [hR]
  have HR := hide hR
  clear h hR
  go_enter Tryz.func26, Tryz.ntmps26
  go_wp2
  go_loopw [8] (fun ks wr => ∃ k : Nat, k ≤ l.length ∧ ks = .int .i64 k ∧ (∀ (j : Nat) (p : Stp), j < k → l[j]? = some p → (p.k != 0) = false) ∧ Below w.heap.size w wr) (fun ks _ => l.length - (intOf ks).toNat)
  case atStart => exact ⟨0, Nat.zero_le _, rfl, fun j x hj => absurd hj (by omega), Below.refl _ _⟩
  case round =>
    obtain ⟨k, hk, rfl, hno, hb⟩ := hrel
    have HN := hide hno
    have HB := hide hb
    clear hno hb
    by_cases hlt : k < l.length
    · have hx := List.getElem?_eq_getElem hlt
      obtain ⟨c0, c1⟩ := HS.out k _ hx
      rw [← HB.out.cell (p := ⟨g, 0 + k * 2, none⟩) hg] at c0
      rw [← HB.out.cell (p := ⟨g, 0 + k * 2 + 1, none⟩) hg] at c1
      rw [Nat.zero_add] at c0 c1
      have HX := hide hx
      clear hx
      generalize l[k] = p at *
      have HP := hide (fun W => isWild_any p W)
      cases hb : (p.k != 0)
      · rw [hb] at HP
        have HB2 := hide hb
        clear hb
        go_wp2_with (go_at_call 11; refine (HP.out _).mono ?_; rintro e w1 ⟨rfl, hb1⟩; have HB1 := hide hb1; clear hb1)
        go_roundw
        case rel => exact ⟨k + 1, by omega, by go_num, fun j x hj hx => by
          by_cases e : j = k
          · subst e
            rw [HX.out] at hx
            cases hx
            exact HB2.out
          · exact HN.out j x (by omega) hx, upR HB.out HB1.out⟩
        case measure => simp [intOf]; omega
      · rw [hb] at HP
        have HI : Hid (R = (k : Int)) := HR.out.symm.trans (idxW_some HX.out hb HN.out)
        clear hb
        go_wp2_with (go_at_call 11; refine (HP.out _).mono ?_; rintro e w1 ⟨rfl, hb1⟩; have HB1 := hide hb1; clear hb1)
        go_ret
        rw [HI.out]
        exact ⟨rfl, upR HB.out HB1.out⟩
    · have HI : Hid (R = -1) := HR.out.symm.trans (idxW_none fun j x hx => HN.out j x (by have := (List.getElem?_eq_some_iff.1 hx).1; omega) hx)
      go_wp2
      go_ret
      rw [HI.out]
      exact ⟨rfl, HB.out⟩
set_option maxHeartbeats 1000000 in
theorem contains_wild (g cap : Nat) (l : List Stp) (w : World) (h : StAt w g 0 l) (hg : g < w.heap.size) (hl : l.length ≤ 140737488355328) :
    Calls Tryz.prog 10 #[.slice (some ⟨g, 0, none⟩) l.length cap, .func (.func 11) #[] #[]] w fun e w' => e = .returned (.bool (wildB l)) ∧ Below w.heap.size w w' := by
  have HI := hide (index_wild g cap l w h hg hl)
  rw [← idxW_any]
  clear h hg hl
  generalize idxW l = I at *
  go_enter Tryz.func10, Tryz.ntmps10
  go_wp2_with (go_at_call 26; refine HI.out.mono ?_; rintro e w1 ⟨rfl, hb1⟩)
  go_ret
  exact ⟨rfl, hb1⟩
theorem steps_bound (s : ByteArray) (hs : s.size ≤ 140737488355328) : (stepsR (foldL s.data.toList)).length ≤ 140737488355328 := by
  have h1 := steps_len _ (foldL s.data.toList) (Nat.le_refl _)
  rw [foldL_len] at h1
  have h2 : s.data.toList.length = s.size := Array.length_toList
  omega
set_option maxHeartbeats 1000000 in
theorem Wild_any (s : ByteArray) (w : World) (hs : s.size ≤ 140737488355328) :
    Calls Tryz.prog 22 #[.string s] w fun e w' => e = .returned (.bool (wildB (stepsR (foldL s.data.toList)))) ∧ Below w.heap.size w w' := by
  have hmf : ∀ (fn : Fn) (first cap : Array Value) (w : World), (Instr.makeFunc fn first cap).run Tryz.prog w = .ok (.func fn first cap) w := fun _ _ _ _ => rfl
  have HS : Hid (∀ W : World, Calls Tryz.prog 9 #[.string s] W fun e w' => ∃ g cap, e = .returned (.slice (some ⟨g, 0, none⟩) (stepsR (foldL s.data.toList)).length cap) ∧ StAt w' g 0 (stepsR (foldL s.data.toList)) ∧ g < w'.heap.size ∧ Below W.heap.size W w') := fun W => (csteps_any s W hs).mono fun e w' ⟨v, he, hr⟩ => by
    obtain ⟨g, rfl, h1, h2, _, _, _, h3⟩ := strow_at hr
    exact ⟨g, _, he, h1, h2, h3⟩
  have hb := steps_bound s hs
  have HC : Hid (∀ (g cap : Nat) (W : World), StAt W g 0 (stepsR (foldL s.data.toList)) → g < W.heap.size → Calls Tryz.prog 10 #[.slice (some ⟨g, 0, none⟩) (stepsR (foldL s.data.toList)).length cap, .func (.func 11) #[] #[]] W fun e w' => e = .returned (.bool (wildB (stepsR (foldL s.data.toList)))) ∧ Below W.heap.size W w') := fun g cap W h1 h2 => contains_wild g cap _ W h1 h2 hb
  generalize stepsR (foldL s.data.toList) = L at *
  clear hs hb
  go_enter Tryz.func22, Tryz.ntmps22
  go_wp2_with (first | (go_at_call 9; refine (HS.out _).mono ?_; rintro e w1 ⟨g, cap, rfl, h1, h2, hb1⟩; have HB1 := hide hb1; have HX := hide h1; have HG := hide h2; clear hb1 h1 h2) | (go_at_call 10; refine (HC.out _ _ _ HX.out HG.out).mono ?_; rintro e w2 ⟨rfl, hb2⟩))
  go_ret
  exact ⟨rfl, upR HB1.out hb2⟩
/-- Is a text like a pattern? -/
def likeR (p s : List UInt8) : Bool := lk (stepsR (foldL p)) (foldL s)
set_option maxHeartbeats 2000000 in
theorem Like_any (p s : ByteArray) (w : World) (hp : p.size ≤ 140737488355328) (hs : s.size ≤ maxLen) :
    Calls Tryz.prog 21 #[.string p, .string s] w fun e w' => e = .returned (.bool (likeR p.data.toList s.data.toList)) ∧ Below w.heap.size w w' := by
  have HS : Hid (∀ W : World, Calls Tryz.prog 9 #[.string p] W fun e w' => ∃ g cap, e = .returned (.slice (some ⟨g, 0, none⟩) (stepsR (foldL p.data.toList)).length cap) ∧ StAt w' g 0 (stepsR (foldL p.data.toList)) ∧ g < w'.heap.size ∧ (stepsR (foldL p.data.toList)).length ≤ cap ∧ cap ≤ maxLen ∧ Below W.heap.size W w') := fun W => (csteps_any p W hp).mono fun e w' ⟨v, he, hr⟩ => by
    obtain ⟨g, rfl, h1, h2, _, h3, h4, h5⟩ := strow_at hr
    exact ⟨g, _, he, h1, h2, h3, h4, h5⟩
  have HF : Hid (∀ W : World, Calls Tryz.prog 25 #[.string s] W fun e w' => e = .returned (.string ⟨(foldL s.data.toList).toArray⟩) ∧ Below W.heap.size W w') := fun W => fold_any s W
  have h2 : (foldL s.data.toList).length ≤ maxLen := by rw [foldL_len, show s.data.toList.length = s.size from Array.length_toList]; exact hs
  unfold likeR
  generalize stepsR (foldL p.data.toList) = L at *
  generalize foldL s.data.toList = T at *
  have HM : Hid (∀ (g cap : Nat) (W : World), StAt W g 0 L → g < W.heap.size → L.length ≤ cap → cap ≤ maxLen → Calls Tryz.prog 36 #[.slice (some ⟨g, 0, none⟩) L.length cap, .string ⟨T.toArray⟩] W fun e w' => e = .returned (.bool (lk L T)) ∧ Below W.heap.size W w') := fun g cap W a b c d => match_any g 0 cap L T W a b c d h2
  clear hp hs h2
  go_enter Tryz.func21, Tryz.ntmps21
  go_wp2_with (first | (go_at_call 9; refine (HS.out _).mono ?_; rintro e w1 ⟨g, cap, rfl, h1, h2, h3, h4, hb1⟩; have HB1 := hide hb1; have HX := hide h1; have HG := hide h2; clear hb1 h1 h2) | (go_at_call 25; refine (HF.out _).mono ?_; rintro e w2 ⟨rfl, hb2⟩; have HB2 := hide hb2; clear hb2) | (go_at_call 36; refine (HM.out _ _ _ (HX.out.below HG.out HB2.out) (Nat.lt_of_lt_of_le HG.out HB2.out.size) h3 h4).mono ?_; rintro e w3 ⟨rfl, hb3⟩))
  go_ret
  exact ⟨rfl, upR (upR HB1.out HB2.out) hb3⟩
end Go.Proofs.YtpghgjibpbimeaaGreatDoor
