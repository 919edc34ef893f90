/-
  Rows of sections; the contracts of codes' isText and of what Plain asks of a section; slices.IndexFunc and slices.ContainsFunc over them.
-/
import Derived.Test.YtnhaapcpklfkpaaGreatDoorCd4b
import Derived.LoopTactic
import Derived.RangeFuncRecord
namespace Go.Proofs.YtnhaapcpklfkpaaGreatDoor
open Go.RowKit

/-- A section, as a value. -/
def secV (u : Value) (ps : List Pc) : Value :=
  .agg #[u, .int .i64 (cntK ps 0), .int .i64 (cntK ps 1), .int .i64 (cntK ps 2), .int .i64 (cntK ps 3), .int .i64 (cntK ps 4), .int .i64 (cntK ps 5), .bool (plcOf ps).comma, .bool (plcOf ps).point, .int .i64 (plcOf ps).noughts, .int .i64 (plcOf ps).fixed, .int .i64 (plcOf ps).free]
theorem secAt_new (w : World) (u : Value) (ps : List Pc) : SecAt (w.alloc (.cells (secC u ps).toArray 66)) w.heap.size 0 u ps := by
  refine ⟨by simp, fun j hj => ?_⟩
  have := World.alloc_heap_new w (.cells (secC u ps).toArray 66)
  simp only [World.cell?, this, Nat.zero_add]
  simp
def textB (ps : List Pc) : Bool := kindS ps == 4
def notWordsB (ps : List Pc) : Bool := kindS ps != 0
set_option maxHeartbeats 1000000 in
theorem isText_any (u : Value) (ps : List Pc) (w : World) :
    Calls Tryz.prog 29 #[secV u ps] w fun e w' => e = .returned (.bool (textB ps)) ∧ Below w.heap.size w w' := by
  have HK := hide (kind_any w.heap.size 0 u ps _ (secAt_new w u ps))
  simp only [secC, cn] at HK
  simp only [secV]
  by_cases h : kindS ps = 4
  · rw [h] at HK
    have e : textB ps = true := by unfold textB; rw [h]; rfl
    rw [e]
    go_enter Tryz.func29, Tryz.ntmps29
    go_wp2_with (go_at_call 33; refine HK.out.mono ?_; rintro e w1 ⟨rfl, rfl⟩)
    go_ret
    exact ⟨rfl, by repeat' (first | with_reducible exact Below.refl _ _ | with_reducible refine Below.setCell ?_ ?_ _ | with_reducible refine Below.alloc ?_ ?_ _ | with_reducible refine below_drewN ?_ _ | with_reducible refine Below.drew ?_ | with_reducible refine Below.trans ?_ (Below.mono (by assumption) ?_) | with_reducible exact Nat.le_refl _ | with_reducible refine Nat.le_trans ?_ (Below.size (by assumption)) | with_reducible refine Nat.le_trans ?_ (size_alloc _ _) | with_reducible refine Nat.le_trans ?_ (size_set _ _ _) | with_reducible refine Nat.le_trans ?_ (size_drewN _ _) | with_reducible refine Nat.le_trans ?_ (size_drew _) | (simp; done) | (simp; omega) | omega)⟩
  · have t1 : ((kindS ps : Int) == 4) = false := by rw [beq_eq_false_iff_ne]; omega
    have e : textB ps = false := by unfold textB; simpa using h
    rw [e]
    clear h e
    go_enter Tryz.func29, Tryz.ntmps29
    go_wp2_with (go_at_call 33; refine HK.out.mono ?_; rintro e w1 ⟨rfl, rfl⟩)
    go_ret
    exact ⟨rfl, by repeat' (first | with_reducible exact Below.refl _ _ | with_reducible refine Below.setCell ?_ ?_ _ | with_reducible refine Below.alloc ?_ ?_ _ | with_reducible refine below_drewN ?_ _ | with_reducible refine Below.drew ?_ | with_reducible refine Below.trans ?_ (Below.mono (by assumption) ?_) | with_reducible exact Nat.le_refl _ | with_reducible refine Nat.le_trans ?_ (Below.size (by assumption)) | with_reducible refine Nat.le_trans ?_ (size_alloc _ _) | with_reducible refine Nat.le_trans ?_ (size_set _ _ _) | with_reducible refine Nat.le_trans ?_ (size_drewN _ _) | with_reducible refine Nat.le_trans ?_ (size_drew _) | (simp; done) | (simp; omega) | omega)⟩
set_option maxHeartbeats 1000000 in
theorem notWords_any (u : Value) (ps : List Pc) (w : World) :
    Calls Tryz.prog 44 #[secV u ps] w fun e w' => e = .returned (.bool (notWordsB ps)) ∧ Below w.heap.size w w' := by
  have HK := hide (kind_any w.heap.size 0 u ps _ (secAt_new w u ps))
  simp only [secC, cn] at HK
  simp only [secV]
  by_cases h : kindS ps = 0
  · rw [h] at HK
    have e : notWordsB ps = false := by unfold notWordsB; rw [h]; rfl
    rw [e]
    go_enter Tryz.func44, Tryz.ntmps44
    go_wp2_with (go_at_call 33; refine HK.out.mono ?_; rintro e w1 ⟨rfl, rfl⟩)
    go_ret
    exact ⟨rfl, by repeat' (first | with_reducible exact Below.refl _ _ | with_reducible refine Below.setCell ?_ ?_ _ | with_reducible refine Below.alloc ?_ ?_ _ | with_reducible refine below_drewN ?_ _ | with_reducible refine Below.drew ?_ | with_reducible refine Below.trans ?_ (Below.mono (by assumption) ?_) | with_reducible exact Nat.le_refl _ | with_reducible refine Nat.le_trans ?_ (Below.size (by assumption)) | with_reducible refine Nat.le_trans ?_ (size_alloc _ _) | with_reducible refine Nat.le_trans ?_ (size_set _ _ _) | with_reducible refine Nat.le_trans ?_ (size_drewN _ _) | with_reducible refine Nat.le_trans ?_ (size_drew _) | (simp; done) | (simp; omega) | omega)⟩
  · have t1 : ((kindS ps : Int) != 0) = true := by rw [bne_iff_ne]; omega
    have e : notWordsB ps = true := by unfold notWordsB; simpa using h
    rw [e]
    clear h e
    go_enter Tryz.func44, Tryz.ntmps44
    go_wp2_with (go_at_call 33; refine HK.out.mono ?_; rintro e w1 ⟨rfl, rfl⟩)
    go_ret
    exact ⟨rfl, by repeat' (first | with_reducible exact Below.refl _ _ | with_reducible refine Below.setCell ?_ ?_ _ | with_reducible refine Below.alloc ?_ ?_ _ | with_reducible refine below_drewN ?_ _ | with_reducible refine Below.drew ?_ | with_reducible refine Below.trans ?_ (Below.mono (by assumption) ?_) | with_reducible exact Nat.le_refl _ | with_reducible refine Nat.le_trans ?_ (Below.size (by assumption)) | with_reducible refine Nat.le_trans ?_ (size_alloc _ _) | with_reducible refine Nat.le_trans ?_ (size_set _ _ _) | with_reducible refine Nat.le_trans ?_ (size_drewN _ _) | with_reducible refine Nat.le_trans ?_ (size_drew _) | (simp; done) | (simp; omega) | omega)⟩
/-- Sections that lie one behind the other. -/
def SecsAt (w : World) (g : Nat) (G : List (Value × List Pc)) : Prop := g < w.heap.size ∧ ∀ i x, G[i]? = some x → SecAt w g (i * 12) x.1 x.2
theorem SecsAt.below {w w' : World} {g : Nat} {G : List (Value × List Pc)} (h : SecsAt w g G) (k : Below w.heap.size w w') : SecsAt w' g G :=
  ⟨Nat.lt_of_lt_of_le h.1 k.size, fun i x hx => (h.2 i x hx).below k⟩
theorem SecAt.below' {w w' : World} {g off : Nat} {u : Value} {ps : List Pc} (h : SecAt w g off u ps) (k : Below w.heap.size w w') (_ : g < w.heap.size) : SecAt w' g off u ps := h.below k
/-- A section's cells, one by one. -/
theorem SecAt.all {w : World} {g off : Nat} {u : Value} {ps : List Pc} (h : SecAt w g off u ps) :
    w.cell? ⟨g, off, none⟩ = some u ∧ w.cell? ⟨g, off + 1, none⟩ = some (.int .i64 (cntK ps 0)) ∧ w.cell? ⟨g, off + 2, none⟩ = some (.int .i64 (cntK ps 1)) ∧ w.cell? ⟨g, off + 3, none⟩ = some (.int .i64 (cntK ps 2)) ∧ w.cell? ⟨g, off + 4, none⟩ = some (.int .i64 (cntK ps 3)) ∧ w.cell? ⟨g, off + 5, none⟩ = some (.int .i64 (cntK ps 4)) ∧ w.cell? ⟨g, off + 6, none⟩ = some (.int .i64 (cntK ps 5)) ∧ w.cell? ⟨g, off + 7, none⟩ = some (.bool (plcOf ps).comma) ∧ w.cell? ⟨g, off + 8, none⟩ = some (.bool (plcOf ps).point) ∧ w.cell? ⟨g, off + 9, none⟩ = some (.int .i64 (plcOf ps).noughts) ∧ w.cell? ⟨g, off + 10, none⟩ = some (.int .i64 (plcOf ps).fixed) ∧ w.cell? ⟨g, off + 11, none⟩ = some (.int .i64 (plcOf ps).free) :=
  ⟨h.2 0 (by omega), h.2 1 (by omega), h.2 2 (by omega), h.2 3 (by omega), h.2 4 (by omega), h.2 5 (by omega), h.2 6 (by omega), h.2 7 (by omega), h.2 8 (by omega), h.2 9 (by omega), h.2 10 (by omega), h.2 11 (by omega)⟩
/-- Which section is the first for which something holds; below 0: none. -/
def idxS (pf : List Pc → Bool) (G : List (Value × List Pc)) : Int :=
  match G.findIdx? (fun x => pf x.2) with
  | some i => i
  | none => -1
theorem idx_none {pf : List Pc → Bool} {G : List (Value × List Pc)} (h : ∀ (j : Nat) (x : Value × List Pc), G[j]? = some x → pf x.2 = false) : idxS pf G = -1 := by
  unfold idxS
  have : G.findIdx? (fun x => pf x.2) = none := by
    rw [List.findIdx?_eq_none_iff]
    intro x hx
    obtain ⟨j, hj⟩ := List.mem_iff_getElem?.1 hx
    exact h j x hj
  rw [this]
theorem idx_some {pf : List Pc → Bool} {G : List (Value × List Pc)} {k : Nat} {x : Value × List Pc} (hk : G[k]? = some x) (hp : pf x.2 = true) (h : ∀ (j : Nat) (y : Value × List Pc), j < k → G[j]? = some y → pf y.2 = false) : idxS pf G = k := by
  unfold idxS
  have : G.findIdx? (fun x => pf x.2) = some k := by
    rw [List.findIdx?_eq_some_iff_getElem]
    obtain ⟨hl, e⟩ := List.getElem?_eq_some_iff.1 hk
    refine ⟨hl, by rw [e]; exact hp, fun j hj => ?_⟩
    have := h j G[j] hj (List.getElem?_eq_getElem (by omega))
    simp [this]
  rw [this]
-- INDEX
set_option maxHeartbeats 4000000 in
theorem index_text (g cap : Nat) (G : List (Value × List Pc)) (w : World) (h : SecsAt w g G) (hG : G.length ≤ 1000) :
    Calls Tryz.prog 28 #[.slice (some ⟨g, 0, none⟩) G.length cap, .func (.func 29) #[] #[]] w fun e w' => e = .returned (.int .i64 (idxS textB G)) ∧ Below w.heap.size w w' := by
  have HS := hide h
  have hGi : (G.length : Int) ≤ 1000 := by omega
  obtain ⟨R, hR⟩ : ∃ R, idxS textB G = R := ⟨_, rfl⟩
  rw [hR]
  have HR := hide hR
  clear h hR
  go_enter Tryz.func28, Tryz.ntmps28
  go_wp2
  go_loopw [8] (fun ks wr => ∃ k : Nat, k ≤ G.length ∧ ks = .int .i64 k ∧ (∀ (j : Nat) (x : Value × List Pc), j < k → G[j]? = some x → textB x.2 = false) ∧ Below w.heap.size w wr) (fun ks _ => G.length - (intOf ks).toNat)
  case atStart => exact ⟨0, Nat.zero_le _, rfl, fun j x hj => absurd hj (by omega), Below.refl _ _⟩
  case round =>
    obtain ⟨k, hk, rfl, hno, hb⟩ := hrel
    have HN := hide hno
    have HB := hide hb
    clear hno hb
    by_cases hlt : k < G.length
    · have hx := List.getElem?_eq_getElem hlt
      obtain ⟨c0, c1, c2, c3, c4, c5, c6, c7, c8, c9, c10, c11⟩ := ((HS.out.2 k _ hx).below' HB.out HS.out.1).all
      have HX := hide hx
      clear hx
      generalize G[k] = x at *
      obtain ⟨u, ps⟩ := x
      have HP := hide (fun W => isText_any u ps W)
      simp only [secV] at HP
      simp only at c0 c1 c2 c3 c4 c5 c6 c7 c8 c9 c10 c11
      cases hb : textB ps
      · rw [hb] at HP
        have HB2 := hide hb
        clear hb
        go_wp2_with (go_at_call 29; refine (HP.out _).mono ?_; rintro e w1 ⟨rfl, hb1⟩; have HB1 := hide hb1; clear hb1)
        go_roundw
        case rel => exact ⟨k + 1, by omega, by go_num, fun j x hj hx => by
          by_cases e : j = k
          · subst e
            rw [HX.out] at hx
            cases hx
            exact HB2.out
          · exact HN.out j x (by omega) hx, up HB.out HB1.out⟩
        case measure => simp [intOf]; omega
      · rw [hb] at HP
        have HI : Hid (R = (k : Int)) := HR.out.symm.trans (idx_some HX.out hb HN.out)
        clear hb
        go_wp2_with (go_at_call 29; refine (HP.out _).mono ?_; rintro e w1 ⟨rfl, hb1⟩; have HB1 := hide hb1; clear hb1)
        go_ret
        exact ⟨ret_num HI.out.symm, up HB.out HB1.out⟩
    · have HI : Hid (R = -1) := HR.out.symm.trans (idx_none fun j x hx => HN.out j x (by have := (List.getElem?_eq_some_iff.1 hx).1; omega) hx)
      go_wp2
      go_ret
      exact ⟨ret_num HI.out.symm, HB.out⟩
set_option maxHeartbeats 4000000 in
theorem index_words (g cap : Nat) (G : List (Value × List Pc)) (w : World) (h : SecsAt w g G) (hG : G.length ≤ 1000) :
    Calls Tryz.prog 28 #[.slice (some ⟨g, 0, none⟩) G.length cap, .func (.func 44) #[] #[]] w fun e w' => e = .returned (.int .i64 (idxS notWordsB G)) ∧ Below w.heap.size w w' := by
  have HS := hide h
  have hGi : (G.length : Int) ≤ 1000 := by omega
  obtain ⟨R, hR⟩ : ∃ R, idxS notWordsB G = R := ⟨_, rfl⟩
  rw [hR]
  have HR := hide hR
  clear h hR
  go_enter Tryz.func28, Tryz.ntmps28
  go_wp2
  go_loopw [8] (fun ks wr => ∃ k : Nat, k ≤ G.length ∧ ks = .int .i64 k ∧ (∀ (j : Nat) (x : Value × List Pc), j < k → G[j]? = some x → notWordsB x.2 = false) ∧ Below w.heap.size w wr) (fun ks _ => G.length - (intOf ks).toNat)
  case atStart => exact ⟨0, Nat.zero_le _, rfl, fun j x hj => absurd hj (by omega), Below.refl _ _⟩
  case round =>
    obtain ⟨k, hk, rfl, hno, hb⟩ := hrel
    have HN := hide hno
    have HB := hide hb
    clear hno hb
    by_cases hlt : k < G.length
    · have hx := List.getElem?_eq_getElem hlt
      obtain ⟨c0, c1, c2, c3, c4, c5, c6, c7, c8, c9, c10, c11⟩ := ((HS.out.2 k _ hx).below' HB.out HS.out.1).all
      have HX := hide hx
      clear hx
      generalize G[k] = x at *
      obtain ⟨u, ps⟩ := x
      have HP := hide (fun W => notWords_any u ps W)
      simp only [secV] at HP
      simp only at c0 c1 c2 c3 c4 c5 c6 c7 c8 c9 c10 c11
      cases hb : notWordsB ps
      · rw [hb] at HP
        have HB2 := hide hb
        clear hb
        go_wp2_with (go_at_call 44; refine (HP.out _).mono ?_; rintro e w1 ⟨rfl, hb1⟩; have HB1 := hide hb1; clear hb1)
        go_roundw
        case rel => exact ⟨k + 1, by omega, by go_num, fun j x hj hx => by
          by_cases e : j = k
          · subst e
            rw [HX.out] at hx
            cases hx
            exact HB2.out
          · exact HN.out j x (by omega) hx, up HB.out HB1.out⟩
        case measure => simp [intOf]; omega
      · rw [hb] at HP
        have HI : Hid (R = (k : Int)) := HR.out.symm.trans (idx_some HX.out hb HN.out)
        clear hb
        go_wp2_with (go_at_call 44; refine (HP.out _).mono ?_; rintro e w1 ⟨rfl, hb1⟩; have HB1 := hide hb1; clear hb1)
        go_ret
        exact ⟨ret_num HI.out.symm, up HB.out HB1.out⟩
    · have HI : Hid (R = -1) := HR.out.symm.trans (idx_none fun j x hx => HN.out j x (by have := (List.getElem?_eq_some_iff.1 hx).1; omega) hx)
      go_wp2
      go_ret
      exact ⟨ret_num HI.out.symm, HB.out⟩
set_option maxHeartbeats 1000000 in
theorem contains_words (g cap : Nat) (G : List (Value × List Pc)) (w : World) (h : SecsAt w g G) (hG : G.length ≤ 1000) :
    Calls Tryz.prog 43 #[.slice (some ⟨g, 0, none⟩) G.length cap, .func (.func 44) #[] #[]] w fun e w' => e = .returned (.bool (G.any fun x => notWordsB x.2)) ∧ Below w.heap.size w w' := by
  have HI := hide (index_words g cap G w h hG)
  have hv : decide (0 ≤ idxS notWordsB G) = G.any fun x => notWordsB x.2 := by
    cases ha : G.any fun x => notWordsB x.2
    · rw [idx_none fun j x hx => by
        have := List.any_eq_false.1 ha x (List.mem_of_getElem? hx)
        simpa using this]
      rfl
    · obtain ⟨x, hx, hp⟩ := List.any_eq_true.1 ha
      have : 0 ≤ idxS notWordsB G := by
        unfold idxS
        cases hf : G.findIdx? (fun x => notWordsB x.2) with
        | some i => exact Int.natCast_nonneg i
        | none =>
          rw [List.findIdx?_eq_none_iff] at hf
          have := hf x hx
          rw [hp] at this
          cases this
      rw [decide_eq_true this]
  rw [← hv]
  clear h hG hv
  generalize idxS notWordsB G = I at *
  go_enter Tryz.func43, Tryz.ntmps43
  go_wp2_with (go_at_call 28; refine HI.out.mono ?_; rintro e w1 ⟨rfl, hb1⟩)
  go_ret
  exact ⟨rfl, hb1⟩
end Go.Proofs.YtnhaapcpklfkpaaGreatDoor
