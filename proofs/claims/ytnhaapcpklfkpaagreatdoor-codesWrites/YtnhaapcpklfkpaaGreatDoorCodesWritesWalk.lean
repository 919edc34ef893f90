/-
  The walk of CodesWrites.
  The answer's pick.
  What the answer writes of a section is what the program writes of it (plain words).
  The answer's write of a section of each kind.
  The contracts of the answer's write for a section of each kind.
  The answer's Apply: what its calls tell (Read, Kind, pick), and where it writes nothing.
  The answer's Apply: a value that is not right, a fault, a text or a truth.
  The answer's Apply: a text or a truth.
  The answer's Apply: a number.
  The answer's Apply: a number, by a section that is not one of days.
  The answer's Apply: a number, by a section that is not one of days, where it goes too far.
  The answer's Apply: a number, by a section that is one of days.
  The answer's Apply: a number, by a section that is one of days, where the day is none.
  The answer's Apply tells what the program's tells; the walk's words.
-/
import Derived.Test.YtnhaapcpklfkpaaGreatDoorWr8
import Derived.Test.YtnhaapcpklfkpaaGreatDoorRc10
import Derived.Test.YtnhaapcpklfkpaaGreatDoorCd9i
import Derived.Test.YtnhaapcpklfkpaaGreatDoorVVal4
import Derived.Test.YtnhaapcpklfkpaaGreatDoorCd10
namespace Go.Proofs.YtnhaapcpklfkpaaGreatDoor
open Go.RowKit
set_option linter.unusedSimpArgs false

/-- Is a section (the answer's pieces) one of a text? Those that are not. -/
def tX (x : Value × List Pc) : Bool := rKind x.2 == 3
def someX (G : List (Value × List Pc)) : List (Value × List Pc) := G.filter fun x => !tX x
theorem some_take {G : List (Value × List Pc)} {i : Nat} (hi : i < G.length) : someX (G.take (i + 1)) = someX (G.take i) ++ if tX G[i] then [] else [G[i]] := by
  unfold someX
  rw [List.take_succ_eq_append_getElem hi, List.filter_append]
  cases h : tX G[i] <;> simp [h]
theorem kind_text {k : Nat} (h : k ≤ 4) : ((kk k : Nat) : Int) = 3 ↔ k = 4 := by
  have : k = 0 ∨ k = 1 ∨ k = 2 ∨ k = 3 ∨ k = 4 := by omega
  rcases this with rfl | rfl | rfl | rfl | rfl <;> decide
theorem kindS_le (ps : List Pc) : kindS ps ≤ 4 := by unfold kindS; (repeat' split) <;> omega
theorem tX_is {x : Value × List Pc} {ps : List Pc} (hx : x.2 = ps.map kkP) (h5 : ∀ q ∈ ps, q.k ≤ 5) (hr : rightS ps = true) : tX x = textB ps := by
  unfold tX textB
  rw [hx, rkind_is h5, hr, if_pos rfl]
  have := kind_text (kindS_le ps)
  by_cases c : kindS ps = 4
  · rw [this.2 c, c]; rfl
  · have e : ¬ ((kk (kindS ps) : Nat) : Int) = 3 := fun q => c (this.1 q)
    rw [beq_eq_false_iff_ne.2 e, beq_eq_false_iff_ne.2 c]
theorem some_left : ∀ {G : List (Value × List Pc)} {ss : List (List Pc)}, G.map Prod.snd = ss.map (·.map kkP) → (∀ ps ∈ ss, (∀ q ∈ ps, q.k ≤ 5) ∧ rightS ps = true) → (someX G).map Prod.snd = (leftS ss).map (·.map kkP)
  | [], [], _, _ => rfl
  | [], _ :: _, h, _ => by simp at h
  | _ :: _, [], h, _ => by simp at h
  | x :: G, ps :: ss, h, hs => by
    simp only [List.map_cons, List.cons.injEq] at h
    obtain ⟨s1, s2⟩ := hs ps (by simp)
    have ht := tX_is h.1 s1 s2
    have ih := some_left h.2 fun qs hq => hs qs (by simp [hq])
    unfold someX leftS at *
    rw [List.filter_cons, List.filter_cons, ht]
    cases textB ps
    · simp [ih, h.1]
    · simp [ih]
/-- What pick tells. -/
def PickT (L : List (Value × List Pc)) (n : Int) (e : Ending) : Prop :=
  (L = [] ∧ e = .returned (.tuple #[.slice none 0 0, .bool false, .bool false])) ∨
  ∃ x, L[chosenR L.length n]? = some x ∧ e = .returned (.tuple #[x.1, .bool (decide (L.length = 1)), .bool true])
set_option maxRecDepth 100000 in
set_option maxHeartbeats 8000000 in
theorem rpick_any (n₀ g cap : Nat) (G : List (Value × List Pc)) (C : Array Value) (n : Int) (w : World) (h : RR n₀ w g cap G C) (hG : G.length ≤ 3)
    (hk : ∀ x ∈ G, ∀ W : World, Below w.heap.size w W → Calls Tryz.prog 14 #[x.1] W fun e w' => e = .returned (.int .i64 (rKind x.2)) ∧ Below W.heap.size W w') :
    Calls Tryz.prog 16 #[.slice (some ⟨g, 0, none⟩) G.length cap, .int .i64 n] w fun e w' => PickT (someX G) n e ∧ Below w.heap.size w w' := by
  obtain ⟨i1, hj1, hj2, hj3, hj4⟩ := info_partsC info_rsec
  have hgs : g < w.heap.size := (Array.getElem?_eq_some_iff.1 h.row).1
  have HRR := hide h
  have HK := hide hk
  have HB0 := hide (Below.refl w.heap.size w)
  have hGi : (G.length : Int) ≤ 3 := by omega
  have hcapm : (cap : Int) ≤ 9223372036854775807 := by have := h.mx; unfold maxLen at this; omega
  have hlc : (G.length : Int) ≤ (cap : Int) := by have := h.le; omega
  clear h hk
  go_enter Tryz.func16, Tryz.ntmps16
  go_wp2
  go_loopw [7, 8] (fun sv iv wr => ∃ (i : Nat) (L : List (Value × List Pc)), i ≤ G.length ∧ iv = .int .i64 i ∧ Hid (L = someX (G.take i)) ∧ Hid (wr.ownsRow w.heap.size 45 1 sv L.length (L.map Prod.fst)) ∧ Hid (Below w.heap.size w wr)) (fun _ iv _ => G.length - (intOf iv).toNat)
  case atStart => exact ⟨0, [], Nat.zero_le _, rfl, by rw [List.take_zero]; exact (rfl : [] = someX []), World.ownsRow_nil _ _ _ _, HB0⟩
  case round =>
    obtain ⟨i, L, hi, rfl, HL, HO, HB⟩ := hrel
    by_cases hlt : i < G.length
    · have gi : (i : Int) < (G.length : Int) := by omega
      have gi0 : (0 : Int) ≤ (i : Int) := by omega
      have hGe := List.getElem?_eq_getElem hlt
      have hcell := (HB.out.cell (p := ⟨g, i, none⟩) hgs).trans (HRR.out.cells i _ hGe)
      have HKd := hide (HK.out _ (List.getElem_mem hlt))
      have hst := some_take hlt
      obtain ⟨up, uc, hu, _⟩ := pcs_of' (HRR.out.rows i _ hGe)
      generalize G[i].2.length = ul at hu
      have hLl : L.length ≤ 3 := by rw [HL.out]; unfold someX; exact Nat.le_trans (List.length_filter_le _ _) (by rw [List.length_take]; omega)
      have hw0 : w.heap.size ≤ wr.heap.size := HB.out.size
      by_cases ht : rKind G[i].2 = 3
      · have hst2 : someX (G.take (i + 1)) = someX (G.take i) := by rw [hst, if_pos (by unfold tX; rw [ht]; rfl), List.append_nil]
        have HL2 : Hid (L = someX (G.take (i + 1))) := HL.out.trans hst2.symm
        rw [ht] at HKd
        have HOk : Hid (∀ W : World, Below wr.heap.size wr W → Hid (W.ownsRow w.heap.size 45 1 u7 L.length (L.map Prod.fst))) := fun W hW => own_same HO.out (fun _ _ _ e => (KC.of_below hW).2 _ _ _ _ e)
        clear hst hst2 ht HL HK HRR hGe
        generalize G[i].1 = uv at *
        subst hu
        go_wp2_with (go_at_call 14; refine (HKd.out _ HB.out).mono ?_; rintro e w2 ⟨rfl, hb2⟩; have HO2 := HOk.out _ hb2; replace HB := hide (upW HB.out hb2); clear hb2)
        go_roundw
        case rel => exact ⟨i + 1, L, hlt, by go_num, HL2, HO2, HB⟩
        case measure => simp [intOf] <;> omega
      · have hst2 : someX (G.take (i + 1)) = someX (G.take i) ++ [G[i]] := by rw [hst, if_neg (by unfold tX; simpa using ht)]
        have HL2 : Hid (L ++ [G[i]] = someX (G.take (i + 1))) := by show _ = _; rw [hst2, HL.out]
        have hkz : (rKind G[i].2 == 3) = false := by rw [beq_eq_false_iff_ne]; exact ht
        have hkn : (rKind G[i].2 != 3) = true := by rw [bne, hkz]; rfl
        have HA : Hid (∀ W : World, Below wr.heap.size wr W → Below wr.heap.size wr (W.alloc (.cells #[G[i].1] 45))) := fun W hW => hW.trans ((Below.refl wr.heap.size W).alloc hW.size _)
        have HOk : Hid (∀ W : World, Below wr.heap.size wr W → (W.alloc (.cells #[G[i].1] 45)).ownsRow w.heap.size 45 1 u7 L.length (L.map Prod.fst)) := fun W hW => own_same HO.out (fun _ _ _ e => (KC.of_below (HA.out W hW)).2 _ _ _ _ e)
        have HOB : Hid (∀ (W : World) (w4 : World), Below wr.heap.size wr W → (W.alloc (.cells #[G[i].1] 45)).grownBy w4 u7.ownBlock → Hid (Below w.heap.size w w4)) := fun W w4 hW hg => (HB.out.trans ((HA.out W hW).mono hw0)).grown hg (by have := (HA.out W hW).size; omega) (fun k e => (HO.out.lt k e).1)
        have HOW : Hid (∀ (v' : Value) (w4 : World), w4.ownsRow w.heap.size 45 1 v' (L.length + 1) (L.map Prod.fst ++ [G[i].1]) → Hid (w4.ownsRow w.heap.size 45 1 v' (L ++ [G[i]]).length ((L ++ [G[i]]).map Prod.fst))) := fun v' w4 ho => by
          have e1 : (L ++ [G[i]]).map Prod.fst = L.map Prod.fst ++ [G[i].1] := by simp
          have e2 : (L ++ [G[i]]).length = L.length + 1 := by simp
          show World.ownsRow _ _ _ _ _ _ _
          rw [e1, e2]; exact ho
        clear hst hst2 ht HL HK HRR hGe
        generalize hL' : L ++ [G[i]] = L' at *
        clear hL'
        generalize rKind G[i].2 = kv at *
        generalize G[i].1 = uv at *
        subst hu
        go_wp2_with (first | (go_at_call 14; refine (HKd.out _ HB.out).mono ?_; rintro e w2 ⟨rfl, hb2⟩; have hcell2 := (hb2.cell (p := ⟨g, i, none⟩) (by show g < wr.heap.size; omega)).trans hcell; have HB2 := hide hb2; have hw2 : w.heap.size ≤ w2.heap.size := (by have := hb2.size; omega); clear hb2) | (at_builtin; go_loud (refine wpList_append_own _ rfl _ _ 39 rfl w.heap.size 45 i1 (.slice none 0 0) 1 24 Tryz.underlying39 hj1 hj2 hj3 hj4 rfl (by decide) _ _ _ rfl (HOk.out _ HB2.out) ⟨_, 0, none⟩ 1 1 [.slice up ul uc] rfl rfl (fun j u hu => cells_newC _ #[.slice up ul uc] 45 j u (by simpa using hu)) (by simp [Value.oneCell']) (by unfold maxLen; omega) (by omega) (by simp; omega) ?_); intro v' w4 ho4 hg4 _; have HB4 := HOB.out _ w4 HB2.out hg4; have HO4 := HOW.out v' w4 ho4; clear ho4 hg4))
        go_roundw
        case rel => exact ⟨i + 1, L', hlt, by go_num, HL2, HO4, HB4⟩
        case measure => simp [intOf] <;> omega
    · have gi : ¬ (i : Int) < (G.length : Int) := by omega
      have HL2 : Hid (someX G = L) := by
        have := HL.out
        rw [List.take_of_length_le (by omega)] at this
        exact this.symm
      have hLl : L.length ≤ 3 := by rw [← HL2.out]; unfold someX; exact Nat.le_trans (List.length_filter_le _ _) hG
      clear HL HK HRR
      have HPk : Hid (∀ e W, PickT L n e ∧ Below w.heap.size w W → PickT (someX G) n e ∧ Below w.heap.size w W) := fun e W q => by rw [HL2.out]; exact q
      by_cases hL0 : L.length = 0
      · have hLn : L = [] := List.eq_nil_of_length_eq_zero hL0
        have hsv : ∃ b c, u7 = Value.slice b 0 c := by
          rcases HO.out.2 with ⟨e, e2⟩ | ⟨g', cap', C', e1, _⟩
          · exact ⟨_, _, e⟩
          · exact ⟨_, _, by rw [e1, hL0]⟩
        obtain ⟨sb, sc, rfl⟩ := hsv
        clear HO
        go_wp2
        refine bodyPost_ret (v := .tuple #[.slice none 0 0, .bool false, .bool false]) (by simp [results, Tryz.results16, go_sem]) rfl (HPk.out _ _ ⟨.inl ⟨hLn, rfl⟩, HB.out⟩)
      · rcases HO.out.2 with ⟨e, e2⟩ | ⟨g', cap', C', rfl, e2, e3, e4, e5, e6, e7⟩
        · first | exact absurd e2 hL0 | (have := congrArg List.length e2; simp at this; exact absurd (by simp [this]) hL0)
        have hca : ∀ j (hj : j < L.length), wr.cell? ⟨g', j, none⟩ = some L[j].1 := fun j hj => by
          have q := HO.out.cellAt j (by omega)
          rw [List.getElem?_map, List.getElem?_eq_getElem hj] at q
          exact q
        have hcc : (cap' : Int) ≤ 9223372036854775807 := by unfold maxLen at e5; omega
        have hcl : (L.length : Int) ≤ (cap' : Int) := by omega
        clear HO e2 e3 e6 e7
        have hLs : L.length = 1 ∨ L.length = 2 ∨ L.length = 3 := by omega
        have HPi : Hid (∀ (j : Nat) (hj : j < L.length) (W : World), chosenR L.length n = j → Below w.heap.size w W → PickT (someX G) n (.returned (.tuple #[L[j].1, .bool (decide (L.length = 1)), .bool true])) ∧ Below w.heap.size w W) := fun j hj W hc hb => HPk.out _ _ ⟨.inr ⟨L[j], by rw [hc]; exact List.getElem?_eq_getElem hj, rfl⟩, hb⟩
        unfold chosenR at HPi
        clear HPk HL2 e5
        have c0 := hca 0 (by omega)
        rcases hLs with hl | hl | hl
        · have HP0 := hide (fun W hc hb => HPi.out 0 (by omega) W hc hb)
          clear HPi hca
          generalize L[0].1 = v0 at *
          rw [hl] at HP0 hcl ⊢
          clear hl hL0 hLl
          go_wp2
          exact bodyPost_ret (v := .tuple #[v0, .bool true, .bool true]) (by simp [results, Tryz.results16, go_sem]) rfl (HP0.out _ (by simp) HB.out)
        · by_cases hn : n < 0
          · have hn0 : ¬ n = 0 := by omega
            have HPj := hide (fun W hc hb => HPi.out 1 (by omega) W hc hb)
            have cj := hca 1 (by omega)
            clear HPi hca c0
            generalize L[1].1 = vj at *
            rw [hl] at HPj hcl ⊢
            clear hl hL0 hLl
            go_wp2
            exact bodyPost_ret (v := .tuple #[vj, .bool false, .bool true]) (by simp [results, Tryz.results16, go_sem]) rfl (HPj.out _ (by rw [if_neg (by omega), if_pos hn]) HB.out)
          · by_cases hn0 : n = 0
            · subst hn0
              have HPj := hide (fun W hc hb => HPi.out 0 (by omega) W hc hb)
              have cj := hca 0 (by omega)
              clear HPi hca c0
              generalize L[0].1 = vj at *
              rw [hl] at HPj hcl ⊢
              clear hl hL0 hLl
              go_wp2
              exact bodyPost_ret (v := .tuple #[vj, .bool false, .bool true]) (by simp [results, Tryz.results16, go_sem]) rfl (HPj.out _ (by simp) HB.out)
            · have hn1 : (n == 0) = false := by rw [beq_eq_false_iff_ne]; exact hn0
              have HPj := hide (fun W hc hb => HPi.out 0 (by omega) W hc hb)
              have cj := hca 0 (by omega)
              clear HPi hca c0
              generalize L[0].1 = vj at *
              rw [hl] at HPj hcl ⊢
              clear hl hL0 hLl
              go_wp2
              exact bodyPost_ret (v := .tuple #[vj, .bool false, .bool true]) (by simp [results, Tryz.results16, go_sem]) rfl (HPj.out _ (by rw [if_pos (by omega)]) HB.out)
        · by_cases hn : n < 0
          · have hn0 : ¬ n = 0 := by omega
            have hn1 : (n == 0) = false := by rw [beq_eq_false_iff_ne]; exact hn0
            have HPj := hide (fun W hc hb => HPi.out 1 (by omega) W hc hb)
            have cj := hca 1 (by omega)
            clear HPi hca c0
            generalize L[1].1 = vj at *
            rw [hl] at HPj hcl ⊢
            clear hl hL0 hLl
            go_wp2
            exact bodyPost_ret (v := .tuple #[vj, .bool false, .bool true]) (by simp [results, Tryz.results16, go_sem]) rfl (HPj.out _ (by rw [if_neg (by omega), if_pos hn]) HB.out)
          · by_cases hn0 : n = 0
            · subst hn0
              have HPj := hide (fun W hc hb => HPi.out 2 (by omega) W hc hb)
              have cj := hca 2 (by omega)
              clear HPi hca c0
              generalize L[2].1 = vj at *
              rw [hl] at HPj hcl ⊢
              clear hl hL0 hLl
              go_wp2
              exact bodyPost_ret (v := .tuple #[vj, .bool false, .bool true]) (by simp [results, Tryz.results16, go_sem]) rfl (HPj.out _ (by simp) HB.out)
            · have hn1 : (n == 0) = false := by rw [beq_eq_false_iff_ne]; exact hn0
              have HPj := hide (fun W hc hb => HPi.out 0 (by omega) W hc hb)
              have cj := hca 0 (by omega)
              clear HPi hca c0
              generalize L[0].1 = vj at *
              rw [hl] at HPj hcl ⊢
              clear hl hL0 hLl
              go_wp2
              exact bodyPost_ret (v := .tuple #[vj, .bool false, .bool true]) (by simp [results, Tryz.results16, go_sem]) rfl (HPj.out _ (by rw [if_pos (by omega)]) HB.out)
end Go.Proofs.YtnhaapcpklfkpaaGreatDoor
namespace Go.Proofs.YtnhaapcpklfkpaaGreatDoor
open Go.RowKit
set_option linter.unusedSimpArgs false

theorem wrA_all {nt : Pc → List UInt8 × Int} {dt : Pc → List UInt8} {x : List UInt8} {f : Pc → List UInt8} : ∀ (ps : List Pc) (s : List UInt8), (∀ q ∈ ps, pA nt dt x q = (f q, 0)) → wrA nt dt x s ps = (s ++ ps.flatMap f, 0)
  | [], s, _ => by simp [wrA]
  | q :: ps, s, h => by
    rw [wrA, h q (by simp), if_pos rfl, wrA_all ps _ fun r hr => h r (by simp [hr])]
    simp
theorem wrA_bad {nt : Pc → List UInt8 × Int} {dt : Pc → List UInt8} {x : List UInt8} {c : Int} (hc : ¬ c = 0) : ∀ (ps : List Pc) (s : List UInt8), (∃ q ∈ ps, (pA nt dt x q).2 = c) → (∀ q ∈ ps, (pA nt dt x q).2 = 0 ∨ (pA nt dt x q).2 = c) → wrA nt dt x s ps = ([], c)
  | [], s, ⟨q, hq, _⟩, _ => by cases hq
  | q :: ps, s, ⟨r, hr, hrc⟩, h => by
    rw [wrA]
    rcases h q (by simp) with h0 | h0
    · rw [if_pos h0]
      refine wrA_bad hc ps _ ⟨r, ?_, hrc⟩ fun t ht => h t (by simp [ht])
      rcases List.mem_cons.1 hr with e | e
      · subst e; rw [h0] at hrc; exact absurd hrc.symm hc
      · exact e
    · rw [if_neg (by rw [h0]; exact hc), h0]
theorem cnt_has {ps : List Pc} {q : Pc} (h : q ∈ ps) {k : Nat} (e : q.k = k) : 0 < cntK ps k := by
  unfold cntK
  exact List.length_pos_of_mem (List.mem_filter.2 ⟨h, by rw [e]; simp⟩)
theorem cnt_some {ps : List Pc} {k : Nat} (h : 0 < cntK ps k) : ∃ q ∈ ps, q.k = k := by
  unfold cntK at h
  obtain ⟨q, hq⟩ := List.exists_mem_of_length_pos h
  rw [List.mem_filter] at hq
  exact ⟨q, hq.1, by simpa using hq.2⟩
/-- Which pieces a section of a kind has. -/
theorem kinds_of {ps : List Pc} (hr : rightS ps = true) (h4 : ∀ q ∈ ps, q.k ≤ 4) : (∀ q ∈ ps, q.k = 0 ∨ q.k = kindS ps ∨ (kindS ps = 1 ∧ q.k = 2)) ∧ (kindS ps = 1 → cntK ps 1 = 1) := by
  have e1 : ∀ q ∈ ps, q.k = 1 → 0 < cntK ps 1 := fun q h e => cnt_has h e
  have e2 : ∀ q ∈ ps, q.k = 2 → 0 < cntK ps 2 := fun q h e => cnt_has h e
  have e3 : ∀ q ∈ ps, q.k = 3 → 0 < cntK ps 3 := fun q h e => cnt_has h e
  have e4 : ∀ q ∈ ps, q.k = 4 → 0 < cntK ps 4 := fun q h e => cnt_has h e
  unfold rightS at hr
  generalize c1 : cntK ps 1 = a1 at *
  generalize c2 : cntK ps 2 = a2 at *
  generalize c3 : cntK ps 3 = a3 at *
  generalize c4 : cntK ps 4 = a4 at *
  have hk : kindS ps = if 0 < a1 then 1 else if 0 < a3 then 3 else if 0 < a4 then 4 else 0 := by unfold kindS; rw [c1, c3, c4]
  generalize kindS ps = K at *
  have hK : (K = 1 ∧ 0 < a1) ∨ (K = 3 ∧ a1 = 0 ∧ 0 < a3) ∨ (K = 4 ∧ a1 = 0 ∧ a3 = 0 ∧ 0 < a4) ∨ (K = 0 ∧ a1 = 0 ∧ a3 = 0 ∧ a4 = 0) := by
    split at hk
    · exact .inl ⟨hk, by omega⟩
    · split at hk
      · exact .inr (.inl ⟨hk, by omega, by omega⟩)
      · split at hk
        · exact .inr (.inr (.inl ⟨hk, by omega, by omega, by omega⟩))
        · exact .inr (.inr (.inr ⟨hk, by omega, by omega, by omega⟩))
  rcases hK with ⟨rfl, g1⟩ | ⟨rfl, g1, g3⟩ | ⟨rfl, g1, g3, g4⟩ | ⟨rfl, g1, g3, g4⟩
  · rw [c1] at hr
    simp at hr
    obtain ⟨r1, r2⟩ := hr
    refine ⟨fun q hq => ?_, fun _ => by omega⟩
    have := h4 q hq; have := e1 q hq; have := e2 q hq; have := e3 q hq; have := e4 q hq
    omega
  · rw [c3] at hr
    simp at hr
    refine ⟨fun q hq => ?_, fun h => by omega⟩
    have := h4 q hq; have := e1 q hq; have := e2 q hq; have := e3 q hq; have := e4 q hq
    omega
  · rw [c4] at hr
    simp at hr
    refine ⟨fun q hq => ?_, fun h => by omega⟩
    have := h4 q hq; have := e1 q hq; have := e2 q hq; have := e3 q hq; have := e4 q hq
    omega
  · simp at hr
    refine ⟨fun q hq => ?_, fun h => by omega⟩
    have := h4 q hq; have := e1 q hq; have := e2 q hq; have := e3 q hq; have := e4 q hq
    omega
theorem plc_only : ∀ (n : Nat) (ps : List Pc), ps.length ≤ n → cntK ps 1 ≤ 1 → ∀ q ∈ ps, q.k = 1 → plcOf ps = placeR q.t
  | 0, ps, h, _, q, hq, _ => by
    have : ps = [] := List.eq_nil_of_length_eq_zero (by omega)
    subst this; cases hq
  | n + 1, ps, h, hc, q, hq, h1 => by
    rcases List.eq_nil_or_concat ps with rfl | ⟨qs, p, rfl⟩
    · cases hq
    · rw [List.concat_eq_append] at hq hc h ⊢
      have hl : qs.length ≤ n := by simp at h; omega
      rw [plc_snoc]
      rw [rcnt_snoc] at hc
      by_cases hp : p.k = 1
      · rw [if_pos hp] at hc ⊢
        rcases List.mem_append.1 hq with z | z
        · have := cnt_has z h1; omega
        · rw [List.mem_singleton.1 z]
      · rw [if_neg hp] at hc ⊢
        rcases List.mem_append.1 hq with z | z
        · exact plc_only n qs hl (by omega) q z h1
        · rw [List.mem_singleton.1 z] at h1; exact absurd h1 hp
/-- What is known of a format's section. -/
structure SecF (ps : List Pc) : Prop where
  four : ∀ q ∈ ps, q.k ≤ 4
  len : ps.length ≤ 60
  texts : ∀ q ∈ ps, q.t.length ≤ 60
  right : rightS ps = true
  place : ∀ q ∈ ps, q.k = 1 → placeB q.t = true
  part : ∀ q ∈ ps, q.k = 3 → partB q.t = true
theorem first_part12 {l : List UInt8} {p : Pc} {k : Nat} (h : firstR l = some (p, k)) (h3 : p.k = 3) : partB p.t = true := by
  cases l with
  | nil => cases h
  | cons c r =>
    unfold firstR at h
    simp only at h
    unfold quotedR escapedR partR at h
    repeat' split at h
    all_goals first | (cases h; assumption) | (cases h; simp at h3; done) | (cases h; done) | (cases h; simp at h3)
theorem rd_parts {l : List UInt8} {pre : List Pc} {r : List UInt8} (h : Rd l pre r) : ∀ p ∈ pre, p.k = 3 → partB p.t = true := by
  induction h with
  | none => simp
  | more h0 hf ih =>
    intro p hp
    rcases List.mem_append.1 hp with h | h
    · exact ih p h
    · obtain rfl := List.mem_singleton.1 h
      exact first_part12 hf
theorem secF_of {S : List UInt8} {ss : List (List Pc)} (ho : secsOpt S = some ss) : ∀ ps ∈ ss, SecF ps := by
  obtain ⟨hsane, _, _⟩ := sane_of ho
  intro ps hps
  have ho2 := ho
  unfold secsOpt at ho2
  split at ho2
  · cases ho2
  · unfold readR at ho2
    split at ho2
    · cases ho2
    · rename_i xs hxs
      split at ho2
      · rename_i hall
        cases ho2
        have hrd := rd_of_pieces S.length S [] xs (Nat.le_refl _) Rd.none hxs
        rw [List.nil_append] at hrd
        have hm := secsR_mem _ xs (Nat.le_refl _) ps hps
        rw [Bool.and_eq_true, Bool.and_eq_true] at hall
        have hpl := hall.1.1
        rw [List.all_eq_true] at hpl
        refine ⟨fun q hq => ?_, (hsane ps hps).len, (hsane ps hps).texts, (hsane ps hps).right, fun q hq h1 => ?_, fun q hq => rd_parts hrd q (hm q hq)⟩
        · have h5 := rd_kinds hrd q (hm q hq)
          have h6 := secs_no5 _ xs (Nat.le_refl _) ps hps q hq
          omega
        · have := hpl q (hm q hq)
          rw [h1] at this
          simpa using this
      · cases ho2
end Go.Proofs.YtnhaapcpklfkpaaGreatDoor
namespace Go.Proofs.YtnhaapcpklfkpaaGreatDoor
open Go.RowKit
set_option linter.unusedSimpArgs false

theorem half12_top {N d K : Int} (hd : 0 < d) (h : N ≤ K * d) : halfEven N d ≤ K := by
  have h1 := Int.emod_add_mul_ediv N d
  have h2 := Int.emod_nonneg N (Int.ne_of_gt hd)
  unfold halfEven
  have hle : N / d ≤ K := by
    have := Int.ediv_le_ediv hd h
    rwa [Int.mul_ediv_cancel _ (Int.ne_of_gt hd)] at this
  split
  · rename_i hc
    have hr : 0 < N % d := by omega
    have : N / d < K := by
      rcases Int.lt_or_eq_of_le hle with g | g
      · exact g
      · rw [g, Int.mul_comm d K] at h1; omega
    omega
  · exact hle
theorem round_zero {n : Int} (h0 : 0 ≤ n) (h1 : n ≤ 1000000000000000000) : (roundR n 0).2 = 0 := by
  have e1 : (6 - (0 : Int)).toNat = 6 := rfl
  have e2 : p10 6 = 1000000 := by decide
  unfold roundR
  rw [fitsB_of (by omega) h1, show plB 0 = true by decide, Bool.and_self, if_pos rfl, e1, e2, absI_pos h0, decide_eq_false (show ¬ n < 0 by omega)]
  have h2 := half12_top (N := n) (d := 1000000) (K := 1000000000000) (by decide) (by omega)
  have h3 := halfEven_nn (N := n) (d := 1000000) h0 (by decide)
  show (told (halfEven n 1000000 * 1000000)).2 = 0
  rw [told_yes (fitsB_of (by omega) (by omega))]
theorem plc_none : ∀ (n : Nat) (ps : List Pc), ps.length ≤ n → cntK ps 1 = 0 → plcOf ps = zeroPlc
  | 0, ps, h, _ => by
    have : ps = [] := List.eq_nil_of_length_eq_zero (by omega)
    subst this; rfl
  | n + 1, ps, h, hc => by
    rcases List.eq_nil_or_concat ps with rfl | ⟨qs, p, rfl⟩
    · rfl
    · rw [List.concat_eq_append] at hc h ⊢
      have hl : qs.length ≤ n := by simp at h; omega
      rw [plc_snoc]
      rw [rcnt_snoc] at hc
      by_cases hp : p.k = 1
      · rw [if_pos hp] at hc; omega
      · rw [if_neg hp] at hc ⊢
        exact plc_none n qs hl (by omega)
/-- What the answer's number tells of a place. -/
def ntA (h : Nat) (n : Int) (q : Pc) : List UInt8 × Int := (if (sizedP q.t h n).2 = 0 then numA q.t (sizedP q.t h n).1.toNat else [], (sizedP q.t h n).2)
theorem sizedP_two (t : List UInt8) (h : Nat) (n : Int) : (sizedP t h n).2 = 0 ∨ sizedP t h n = (0, 5) := by
  unfold sizedP
  split
  · split
    · exact .inl rfl
    · exact .inr rfl
  · exact .inr rfl
theorem sizedP_bd {t : List UInt8} {h : Nat} {n : Int} (h0 : 0 ≤ n) (h1 : n ≤ 1000000000000000000) : 0 ≤ (sizedP t h n).1 ∧ (sizedP t h n).1 ≤ 1000000000000000000 := by
  obtain ⟨a, b⟩ := hund_nn h h0 h1
  unfold sizedP
  split
  · split
    · rename_i q
      obtain ⟨c, d, _⟩ := round_nn a q
      exact ⟨c, d⟩
    · decide
  · decide
theorem numA_cut {t : List UInt8} {h : Nat} {n : Int} (ht : t.length ≤ 1000) (h0 : 0 ≤ n) (h1 : n ≤ 1000000000000000000) (k : Nat) : (ntA h n ⟨k, t⟩).1.length ≤ 5000 := by
  obtain ⟨a, b⟩ := sizedP_bd (t := t) (h := h) h0 h1
  unfold ntA
  simp only
  split
  · exact numA_len (by omega) ht
  · simp
/-- A section of a number or of words. -/
theorem wr_num {ps : List Pc} (hs : SecF ps) (hk : kindS ps = 0 ∨ kindS ps = 1) {n : Int} (h0 : 0 ≤ n) (h1 : n ≤ 1000000000000000000) (dt : Pc → List UInt8) :
    (∃ m : Nat, sizedR ps n = ((m : Int), 0) ∧ m ≤ 1000000000000000000 ∧ wrA (ntA (cntK ps 2) n) dt [] [] ps = (secT (plcOf ps) m 0 0 0 [] ps, 0)) ∨ (sizedR ps n = (0, 5) ∧ wrA (ntA (cntK ps 2) n) dt [] [] ps = ([], 5)) := by
  obtain ⟨hks, hone⟩ := kinds_of hs.right hs.four
  rcases hk with hk | hk
  · -- words alone
    have hno : ∀ q ∈ ps, q.k = 0 := fun q hq => by have := hks q hq; omega
    have hc2 : cntK ps 2 = 0 := Nat.eq_zero_of_not_pos fun h => by obtain ⟨q, hq, e⟩ := cnt_some h; have := hno q hq; omega
    have hc1 : cntK ps 1 = 0 := Nat.eq_zero_of_not_pos fun h => by obtain ⟨q, hq, e⟩ := cnt_some h; have := hno q hq; omega
    have hpl := plc_none _ ps (Nat.le_refl _) hc1
    have hz := round_zero h0 h1
    obtain ⟨r1, r2, _⟩ := round_nn h0 hz
    have hsz : sizedR ps n = ((roundR n 0).1, 0) := by
      unfold sizedR decsI
      rw [hc2, hpl]
      show (if (0 : Int) = 0 then (if (roundR n 0).2 = 0 then ((roundR n 0).1, (0 : Int)) else (0, 5)) else (0, 5)) = _
      rw [if_pos rfl, if_pos hz]
    refine .inl ⟨(roundR n 0).1.toNat, by rw [Int.toNat_of_nonneg r1]; exact hsz, by omega, ?_⟩
    rw [wrA_all (f := pieceT (plcOf ps) (roundR n 0).1.toNat 0 0 0 []) ps [] fun q hq => by
      have := hno q hq
      unfold pA pieceT
      rw [this]; rfl]
    rfl
  · have hnum : ∀ q ∈ ps, q.k = 0 ∨ q.k = 1 ∨ q.k = 2 := fun q hq => by have := hks q hq; omega
    have hc1 := hone hk
    obtain ⟨q1, hq1, e1⟩ := cnt_some (show 0 < cntK ps 1 by omega)
    have hpl := fun q hq (e : q.k = 1) => plc_only _ ps (Nat.le_refl _) (by omega) q hq e
    have hsz : ∀ q ∈ ps, q.k = 1 → sizedP q.t (cntK ps 2) n = sizedR ps n := fun q hq e => sized_is n (hs.place q hq e) (hpl q hq e) rfl
    rcases sizedP_two q1.t (cntK ps 2) n with hz | hz
    · obtain ⟨b1, b2⟩ := sizedP_bd (t := q1.t) (h := cntK ps 2) h0 h1
      rw [hsz q1 hq1 e1] at hz b1 b2
      obtain ⟨m, hm⟩ := Int.eq_ofNat_of_zero_le b1
      have hsm : sizedR ps n = ((m : Int), 0) := Prod.ext hm hz
      refine .inl ⟨m, hsm, by omega, ?_⟩
      rw [wrA_all (f := pieceT (plcOf ps) m 0 0 0 []) ps [] fun q hq => by
        rcases hnum q hq with e | e | e
        · unfold pA pieceT; rw [e]; rfl
        · have h2 := hsz q hq e
          rw [hsm] at h2
          have h3 := sized_mod (hund_nn _ h0 h1).1 h2
          have h4 := num_is h3
          unfold pA pieceT ntA
          rw [if_pos e, if_pos e, h2, if_pos rfl, hpl q hq e]
          show (numA q.t (Int.toNat (m : Int)), (0 : Int)) = _
          rw [Int.toNat_natCast, h4]
        · unfold pA pieceT; rw [e]; rfl]
      rfl
    · rw [hsz q1 hq1 e1] at hz
      refine .inr ⟨hz, wrA_bad (by decide) ps [] ⟨q1, hq1, ?_⟩ fun q hq => ?_⟩
      · unfold pA ntA; rw [if_pos e1]; show (sizedP q1.t (cntK ps 2) n).2 = 5; rw [hsz q1 hq1 e1, hz]
      · rcases hnum q hq with e | e | e
        · left; unfold pA; rw [e]; rfl
        · right; unfold pA ntA; rw [if_pos e]; show (sizedP q.t (cntK ps 2) n).2 = 5; rw [hsz q hq e, hz]
        · left; unfold pA; rw [e]; rfl
theorem wr_day {ps : List Pc} (hs : SecF ps) (hk : kindS ps = 3) (nt : Pc → List UInt8 × Int) (y m d : Nat) : wrA nt (fun q => dayT q.t y m d) [] [] ps = (secT zeroPlc 0 y m d [] ps, 0) := by
  obtain ⟨hks, _⟩ := kinds_of hs.right hs.four
  rw [wrA_all (f := pieceT zeroPlc 0 y m d []) ps [] fun q hq => by
    have := hks q hq
    have e : q.k = 0 ∨ q.k = 3 := by omega
    rcases e with e | e <;> (unfold pA pieceT; rw [e]; rfl)]
  rfl
theorem wr_text {ps : List Pc} (hs : SecF ps) (hk : kindS ps = 4) (nt : Pc → List UInt8 × Int) (dt : Pc → List UInt8) (x : List UInt8) : wrA nt dt x [] ps = (secT zeroPlc 0 0 0 0 x ps, 0) := by
  obtain ⟨hks, _⟩ := kinds_of hs.right hs.four
  rw [wrA_all (f := pieceT zeroPlc 0 0 0 0 x) ps [] fun q hq => by
    have := hks q hq
    have e : q.k = 0 ∨ q.k = 4 := by omega
    rcases e with e | e <;> (unfold pA pieceT; rw [e]; rfl)]
  rfl
end Go.Proofs.YtnhaapcpklfkpaaGreatDoor
namespace Go.Proofs.YtnhaapcpklfkpaaGreatDoor
open Go.RowKit
set_option linter.unusedSimpArgs false

/-- What is told of a number by a section that is not one of days. -/
def NumW (ps : List Pc) (n : Int) (T : List UInt8) (E : Int) : Prop :=
  (∃ m : Nat, sizedR ps n = ((m : Int), 0) ∧ m ≤ 1000000000000000000 ∧ T = secT (plcOf ps) m 0 0 0 [] ps ∧ E = 0) ∨ (sizedR ps n = (0, 5) ∧ T = [] ∧ E = 5)
theorem wr_num_calls {u : Value} {ps : List Pc} {n : Int} (hs : SecF ps) (hk : kindS ps = 0 ∨ kindS ps = 1) (h0 : 0 ≤ n) (h1 : n ≤ 1000000000000000000) : ∃ T E, NumW ps n T E ∧ ∀ W : World, PcsAt W u (ps.map kkP) → Calls Tryz.prog 15 #[u, .int .i64 n, .int .i64 0, .string ⟨#[]⟩] W fun e w' => e = .returned (.tuple #[.string ⟨T.toArray⟩, .int .i64 E]) ∧ Below W.heap.size W w' := by
  obtain ⟨hks, _⟩ := kinds_of hs.right hs.four
  have hc : ∀ W : World, PcsAt W u (ps.map kkP) → Calls Tryz.prog 15 #[u, .int .i64 n, .int .i64 0, .string ⟨#[]⟩] W fun e w' => e = .returned (.tuple #[.string ⟨(wrA (ntA (cntK ps 2) n) (fun _ => []) [] [] ps).1.toArray⟩, .int .i64 (wrA (ntA (cntK ps 2) n) (fun _ => []) [] [] ps).2]) ∧ Below W.heap.size W w' := fun W hW =>
    rwrite_any u ps n 0 [] (ntA (cntK ps 2) n) (fun _ => []) W hW hs.four hs.len hs.texts (by simp)
      (fun q hq _ => ⟨numA_cut (by have := hs.texts q hq; omega) h0 h1 q.k, fun W2 => rnumber_any q.t (cntK ps 2) n W2 h0 h1 (by have := cnt_le ps 2; have := hs.len; omega) (by have := hs.texts q hq; omega)⟩)
      (fun q hq e => by have := hks q hq; omega)
  rcases wr_num hs hk h0 h1 (fun _ => []) with ⟨m, h2, h3, h4⟩ | ⟨h2, h4⟩
  · rw [h4] at hc
    exact ⟨_, _, .inl ⟨m, h2, h3, rfl, rfl⟩, hc⟩
  · rw [h4] at hc
    exact ⟨_, _, .inr ⟨h2, rfl, rfl⟩, hc⟩
theorem wr_day_calls {u : Value} {ps : List Pc} {n s : Int} {y k d : Nat} (hs : SecF ps) (hk : kindS ps = 3) (hd : Dat.DayIs y k d s) (W : World) (hW : PcsAt W u (ps.map kkP)) : Calls Tryz.prog 15 #[u, .int .i64 n, .int .i64 s, .string ⟨#[]⟩] W fun e w' => e = .returned (.tuple #[.string ⟨(secT zeroPlc 0 y (k + 1) d [] ps).toArray⟩, .int .i64 0]) ∧ Below W.heap.size W w' := by
  obtain ⟨hks, _⟩ := kinds_of hs.right hs.four
  have hy := hd.y2
  have hk1 := hd.k1
  have hd2 : d ≤ 31 := by have h1 := hd.d2; have h2 := lenM_le y (k + 1); omega
  have hc := rwrite_any u ps n s [] (fun _ => ([], 0)) (fun q => dayT q.t y (k + 1) d) W hW hs.four hs.len hs.texts (by simp)
      (fun q hq e => by have := hks q hq; omega)
      (fun q hq e => ⟨by
        unfold dayT
        rw [padTo_len]
        have ht := hs.texts q hq
        have hl : (Lib.decDigits (dayN q.t y (k + 1) d)).length ≤ 20 := dec_len (by unfold dayN; (repeat' split) <;> omega)
        omega, fun W2 => rday_any q.t y k d s W2 (hs.part q hq e) hd⟩)
  rw [wr_day hs hk] at hc
  exact hc
theorem wr_text_calls {u : Value} {ps : List Pc} {x : List UInt8} (hs : SecF ps) (hk : kindS ps = 4) (hx : x.length ≤ 5000) (W : World) (hW : PcsAt W u (ps.map kkP)) : Calls Tryz.prog 15 #[u, .int .i64 0, .int .i64 0, .string ⟨x.toArray⟩] W fun e w' => e = .returned (.tuple #[.string ⟨(secT zeroPlc 0 0 0 0 x ps).toArray⟩, .int .i64 0]) ∧ Below W.heap.size W w' := by
  obtain ⟨hks, _⟩ := kinds_of hs.right hs.four
  have hc := rwrite_any u ps 0 0 x (fun _ => ([], 0)) (fun _ => []) W hW hs.four hs.len hs.texts hx
      (fun q hq e => by have := hks q hq; omega)
      (fun q hq e => by have := hks q hq; omega)
  rw [wr_text hs hk] at hc
  exact hc
end Go.Proofs.YtnhaapcpklfkpaaGreatDoor
namespace Go.Proofs.YtnhaapcpklfkpaaGreatDoor
open Go.RowKit
set_option linter.unusedSimpArgs false

theorem kind_calls {u : Value} {ps : List Pc} (hs : SecF ps) (W : World) (hW : PcsAt W u (ps.map kkP)) : Calls Tryz.prog 14 #[u] W fun e w' => e = .returned (.int .i64 ((kk (kindS ps) : Nat) : Int)) ∧ Below W.heap.size W w' := by
  have hrk := rKind_any u (ps.map kkP) W hW (fun q hq => by
    obtain ⟨p, hp, rfl⟩ := List.mem_map.1 hq
    have := hs.four p hp
    exact kk_lt (by omega) (by omega)) (by rw [List.length_map]; have := hs.len; omega)
  rw [rkind_is (fun q hq => by have := hs.four q hq; omega), hs.right, if_pos rfl] at hrk
  exact hrk
theorem read_some {S : List UInt8} {ss : List (List Pc)} (ho : secsOpt S = some ss) (W : World) : Calls Tryz.prog 11 #[.string ⟨S.toArray⟩] W fun e w' => (∃ (g cap : Nat) (G : List (Value × List Pc)) (C : Array Value), e = .returned (.tuple #[.slice (some ⟨g, 0, none⟩) G.length cap, .int .i64 0]) ∧ RR W.heap.size w' g cap G C ∧ G.map Prod.snd = ss.map (·.map kkP)) ∧ Below W.heap.size W w' :=
  (rRead_any S W).mono fun e w' h => by
    rcases readT_cases h.1 with ⟨h1, _⟩ | ⟨ss', g, cap, G, C, h1, _, h3, h4, h5⟩
    · rw [ho] at h1; cases h1
    · rw [ho] at h1; cases h1
      exact ⟨⟨g, cap, G, C, h3, h4, h5⟩, h.2⟩
theorem read_none {S : List UInt8} (ho : secsOpt S = none) (W : World) : Calls Tryz.prog 11 #[.string ⟨S.toArray⟩] W fun e w' => (e = .returned (.tuple #[.slice none 0 0, .int .i64 (checkR S)]) ∧ checkR S ≠ 0) ∧ Below W.heap.size W w' :=
  (rRead_any S W).mono fun e w' h => by
    rcases readT_cases h.1 with ⟨_, h2, h3⟩ | ⟨ss', g, cap, G, C, h1, _⟩
    · exact ⟨⟨h2, h3⟩, h.2⟩
    · rw [ho] at h1; cases h1
/-- What pick tells of a format's sections. -/
theorem pick_calls {n₀ g cap : Nat} {G : List (Value × List Pc)} {C : Array Value} {w1 : World} {ss : List (List Pc)} (n : Int) (h : RR n₀ w1 g cap G C) (hg : G.map Prod.snd = ss.map (·.map kkP)) (hs : ∀ ps ∈ ss, SecF ps) (h3 : ss.length ≤ 3) :
    (leftS ss = [] → ∀ W : World, Below w1.heap.size w1 W → Calls Tryz.prog 16 #[.slice (some ⟨g, 0, none⟩) G.length cap, .int .i64 n] W fun e w' => e = .returned (.tuple #[.slice none 0 0, .bool false, .bool false]) ∧ Below W.heap.size W w') ∧
    ∀ ps, (leftS ss)[chosenR (leftS ss).length n]? = some ps → ∃ up ul uc, (∀ W : World, Below w1.heap.size w1 W → PcsAt W (.slice up ul uc) (ps.map kkP)) ∧ ∀ W : World, Below w1.heap.size w1 W → Calls Tryz.prog 16 #[.slice (some ⟨g, 0, none⟩) G.length cap, .int .i64 n] W fun e w' => e = .returned (.tuple #[.slice up ul uc, .bool (decide ((leftS ss).length = 1)), .bool true]) ∧ Below W.heap.size W w' := by
  have hGl : G.length = ss.length := by have := congrArg List.length hg; simpa using this
  have hsm := some_left hg (fun ps hps => ⟨fun q hq => by have := (hs ps hps).four q hq; omega, (hs ps hps).right⟩)
  have hll : (someX G).length = (leftS ss).length := by have := congrArg List.length hsm; simpa using this
  have hxs : ∀ x ∈ G, ∃ ps ∈ ss, x.2 = ps.map kkP := fun x hx => by
    have : x.2 ∈ ss.map (·.map kkP) := by rw [← hg]; exact List.mem_map.2 ⟨x, hx, rfl⟩
    obtain ⟨ps, h1, h2⟩ := List.mem_map.1 this
    exact ⟨ps, h1, h2.symm⟩
  have hpc : ∀ x ∈ G, ∀ W : World, Below w1.heap.size w1 W → PcsAt W x.1 x.2 := fun x hx W hW => by
    obtain ⟨i, hi⟩ := List.getElem?_of_mem hx
    exact (pcs_of' (h.rows i x hi)).below hW
  have hk : ∀ W : World, Below w1.heap.size w1 W → ∀ x ∈ G, ∀ W2 : World, Below W.heap.size W W2 → Calls Tryz.prog 14 #[x.1] W2 fun e w' => e = .returned (.int .i64 (rKind x.2)) ∧ Below W2.heap.size W2 w' := fun W hW x hx W2 hW2 => by
    obtain ⟨ps, hps, e⟩ := hxs x hx
    have hp := hpc x hx W2 (upW hW hW2)
    rw [e] at hp ⊢
    have := kind_calls (hs ps hps) W2 hp
    rw [rkind_is (fun q hq => by have := (hs ps hps).four q hq; omega), (hs ps hps).right, if_pos rfl]
    exact this
  refine ⟨fun h0 W hW => ?_, fun ps hps => ?_⟩
  · refine (rpick_any n₀ g cap G C n W (h.keep (KC.of_below hW)) (by omega) (hk W hW)).mono fun e w' q => ⟨?_, q.2⟩
    rcases q.1 with ⟨_, e1⟩ | ⟨x, hx, _⟩
    · exact e1
    · have : (someX G).length = 0 := by rw [hll, h0]; rfl
      have := (List.getElem?_eq_some_iff.1 hx).1
      omega
  · have hc := (List.getElem?_eq_some_iff.1 hps).1
    rw [← hll] at hps hc
    have hsg := List.getElem?_eq_getElem hc
    have hx2 : (someX G)[chosenR (someX G).length n].2 = ps.map kkP := by
      have := congrArg (fun l => l[chosenR (someX G).length n]?) hsm
      simp only [List.getElem?_map, hsg, hps, Option.map_some] at this
      exact Option.some.inj this
    have hxm : (someX G)[chosenR (someX G).length n] ∈ G := (List.mem_filter.1 (show _ ∈ List.filter _ G from List.getElem_mem hc)).1
    have hp1 := hpc _ hxm
    rw [hx2] at hp1
    obtain ⟨up, uc, hu, _⟩ := hp1 w1 (Below.refl _ _)
    refine ⟨up, (ps.map kkP).length, uc, fun W hW => by rw [← hu]; exact hp1 W hW, fun W hW => ?_⟩
    refine (rpick_any n₀ g cap G C n W (h.keep (KC.of_below hW)) (by omega) (hk W hW)).mono fun e w' q => ⟨?_, q.2⟩
    rcases q.1 with ⟨e0, _⟩ | ⟨x, hx, e1⟩
    · rw [e0] at hc; cases hc
    · rw [hsg] at hx
      cases hx
      rw [e1, hu, hll]
/-- A value in its box. -/
def boxW (w : World) (k n : Int) (s : ByteArray) (b : Bool) (c : Int) : World := w.alloc (.cells #[.int .i64 k, .int .i64 n, .string s, .bool b, .int .i64 c] 25)
theorem box12_cells {w : World} {k n : Int} {s : ByteArray} {b : Bool} {c : Int} {W : World} (h : Below (boxW w k n s b c).heap.size (boxW w k n s b c) W) : W.cell? ⟨w.heap.size, 0, none⟩ = some (.int .i64 k) ∧ W.cell? ⟨w.heap.size, 1, none⟩ = some (.int .i64 n) ∧ W.cell? ⟨w.heap.size, 2, none⟩ = some (.string s) ∧ W.cell? ⟨w.heap.size, 3, none⟩ = some (.bool b) ∧ W.cell? ⟨w.heap.size, 4, none⟩ = some (.int .i64 c) := by
  have hlt : w.heap.size < (boxW w k n s b c).heap.size := by unfold boxW; simp
  refine ⟨?_, ?_, ?_, ?_, ?_⟩
  all_goals
    refine (h.cell (p := ⟨w.heap.size, _, none⟩) hlt).trans ?_
    unfold boxW
    simp [go_sem]
theorem box12_below (w : World) (k n : Int) (s : ByteArray) (b : Bool) (c : Int) : Below w.heap.size w (boxW w k n s b c) := (Below.refl _ _).alloc (Nat.le_refl _) _
set_option maxRecDepth 100000 in
set_option maxHeartbeats 4000000 in
theorem rApply_none (S : List UInt8) (k n : Int) (s : ByteArray) (b : Bool) (c : Int) (w : World) (ho : secsOpt S = none) :
    Calls Tryz.prog 5 #[.string ⟨S.toArray⟩, .agg #[.int .i64 k, .int .i64 n, .string s, .bool b, .int .i64 c]] w fun e w' => e = .returned (.tuple #[.string ⟨#[]⟩, .int .i64 2]) ∧ Below w.heap.size w w' := by
  have HR := hide (read_none ho (boxW w k n s b c))
  have HB := hide (box12_below w k n s b c)
  unfold boxW at HR HB
  clear ho
  go_enter Tryz.func5, Tryz.ntmps5
  go_wp2_with (go_at_call 11; refine HR.out.mono ?_; rintro e w1 ⟨⟨rfl, hc⟩, hb1⟩; replace HB := hide (upW HB.out hb1); (have hz1 : (checkR S == 0) = false := (by rw [beq_eq_false_iff_ne]; exact hc)); (have hz2 : (checkR S != 0) = true := (by rw [bne, hz1]; rfl)); clear hb1)
  go_ret2
  exact ⟨rfl, HB.out⟩
end Go.Proofs.YtnhaapcpklfkpaaGreatDoor
namespace Go.Proofs.YtnhaapcpklfkpaaGreatDoor
open Go.RowKit
set_option linter.unusedSimpArgs false

set_option maxRecDepth 100000 in
set_option maxHeartbeats 8000000 in
theorem rApply_wrong (S : List UInt8) (k n : Int) (s : ByteArray) (b : Bool) (c : Int) (ss : List (List Pc)) (w : World) (ho : secsOpt S = some ss) (hz : s.size ≤ maxLen) (hr : rightB k n s b c = false) :
    Calls Tryz.prog 5 #[.string ⟨S.toArray⟩, .agg #[.int .i64 k, .int .i64 n, .string s, .bool b, .int .i64 c]] w fun e w' => e = .returned (.tuple #[.string ⟨#[]⟩, .int .i64 2]) ∧ Below w.heap.size w w' := by
  have HR := hide (read_some ho (boxW w k n s b c))
  have HB := hide (box12_below w k n s b c)
  have HQ : Hid (∀ W : World, Below (boxW w k n s b c).heap.size (boxW w k n s b c) W → W.cell? ⟨w.heap.size, 0, none⟩ = some (.int .i64 k) ∧ W.cell? ⟨w.heap.size, 1, none⟩ = some (.int .i64 n) ∧ W.cell? ⟨w.heap.size, 2, none⟩ = some (.string s) ∧ W.cell? ⟨w.heap.size, 3, none⟩ = some (.bool b) ∧ W.cell? ⟨w.heap.size, 4, none⟩ = some (.int .i64 c)) := fun W hW => box12_cells hW
  have HX := hide (Below.refl (boxW w k n s b c).heap.size (boxW w k n s b c))
  have HRt : Hid (∀ W : World, Calls Tryz.prog 12 #[.agg #[.int .i64 k, .int .i64 n, .string s, .bool b, .int .i64 c]] W fun e w' => e = .returned (.bool false) ∧ Below W.heap.size W w') := fun W => by have := rright_any k n s b c W hz; rwa [hr] at this
  unfold boxW at HR HB HQ HX
  clear ho hz hr
  go_enter Tryz.func5, Tryz.ntmps5
  go_wp2_with (first | (go_at_call 11; refine HR.out.mono ?_; rintro e w1 ⟨⟨g, cap, G, C, rfl, hrr, hG⟩, hb1⟩; obtain ⟨q0, q1, q2, q3, q4⟩ := HQ.out _ hb1; have HRR := hide hrr; have HG := hide hG; have HX1 := hide hb1; have HB1 := hide (upW HB.out hb1); have HY := hide (Below.refl w1.heap.size w1); clear hrr hG hb1 HR HB HX) | (go_at_call 12; refine (HRt.out _).mono ?_; rintro e w2 ⟨rfl, hb2⟩; replace HY := hide (upW HY.out hb2); obtain ⟨q0, q1, q2, q3, q4⟩ := HQ.out _ (upW HX1.out HY.out); clear hb2))
  go_ret2
  exact ⟨rfl, upW HB1.out HY.out⟩
set_option maxRecDepth 100000 in
set_option maxHeartbeats 8000000 in
theorem rApply_fault (S : List UInt8) (k n : Int) (s : ByteArray) (b : Bool) (c : Int) (ss : List (List Pc)) (w : World) (ho : secsOpt S = some ss) (hz : s.size ≤ maxLen) (hr : rightB k n s b c = true) (hk : k = 4) :
    Calls Tryz.prog 5 #[.string ⟨S.toArray⟩, .agg #[.int .i64 k, .int .i64 n, .string s, .bool b, .int .i64 c]] w fun e w' => e = .returned (.tuple #[.string ⟨#[]⟩, .int .i64 c]) ∧ Below w.heap.size w w' := by
  have hc1 : (c == 0) = false := by
    rw [beq_eq_false_iff_ne]
    rcases right_cases hr with h | h | h | h | h
    · omega
    · omega
    · omega
    · omega
    · have := h.2.2.2.2; omega
  have hc2 : (c != 0) = true := by rw [bne, hc1]; rfl
  have hv : wordsV k n s b c = ([], c) := by unfold wordsV; rw [if_neg (by rw [hr]; decide), if_pos hk]
  have HWd : Hid (∀ W : World, Calls Tryz.prog 13 #[.agg #[.int .i64 k, .int .i64 n, .string s, .bool b, .int .i64 c]] W fun e w' => e = .returned (.tuple #[.string ⟨#[]⟩, .int .i64 c]) ∧ Below W.heap.size W w') := fun W => by have := rwordsV_any k n s b c W hz; rwa [hv] at this
  have HR := hide (read_some ho (boxW w k n s b c))
  have HB := hide (box12_below w k n s b c)
  have HQ : Hid (∀ W : World, Below (boxW w k n s b c).heap.size (boxW w k n s b c) W → W.cell? ⟨w.heap.size, 0, none⟩ = some (.int .i64 k) ∧ W.cell? ⟨w.heap.size, 1, none⟩ = some (.int .i64 n) ∧ W.cell? ⟨w.heap.size, 2, none⟩ = some (.string s) ∧ W.cell? ⟨w.heap.size, 3, none⟩ = some (.bool b) ∧ W.cell? ⟨w.heap.size, 4, none⟩ = some (.int .i64 c)) := fun W hW => box12_cells hW
  have HX := hide (Below.refl (boxW w k n s b c).heap.size (boxW w k n s b c))
  have HRt : Hid (∀ W : World, Calls Tryz.prog 12 #[.agg #[.int .i64 k, .int .i64 n, .string s, .bool b, .int .i64 c]] W fun e w' => e = .returned (.bool true) ∧ Below W.heap.size W w') := fun W => by have := rright_any k n s b c W hz; rwa [hr] at this
  clear hv hk
  unfold boxW at HR HB HQ HX
  clear ho hz hr
  go_enter Tryz.func5, Tryz.ntmps5
  go_wp2_with (first | (go_at_call 11; refine HR.out.mono ?_; rintro e w1 ⟨⟨g, cap, G, C, rfl, hrr, hG⟩, hb1⟩; obtain ⟨q0, q1, q2, q3, q4⟩ := HQ.out _ hb1; have HRR := hide hrr; have HG := hide hG; have HX1 := hide hb1; have HB1 := hide (upW HB.out hb1); have HY := hide (Below.refl w1.heap.size w1); clear hrr hG hb1 HR HB HX) | (go_at_call 12; refine (HRt.out _).mono ?_; rintro e w2 ⟨rfl, hb2⟩; replace HY := hide (upW HY.out hb2); obtain ⟨q0, q1, q2, q3, q4⟩ := HQ.out _ (upW HX1.out HY.out); clear hb2) | (go_at_call 13; refine (HWd.out _).mono ?_; rintro e w3 ⟨rfl, hb2⟩; replace HY := hide (upW HY.out hb2); obtain ⟨q0, q1, q2, q3, q4⟩ := HQ.out _ (upW HX1.out HY.out); clear hb2))
  go_ret2
  exact ⟨rfl, upW HB1.out HY.out⟩
end Go.Proofs.YtnhaapcpklfkpaaGreatDoor
namespace Go.Proofs.YtnhaapcpklfkpaaGreatDoor
open Go.RowKit
set_option linter.unusedSimpArgs false

theorem words_some {ss : List (List Pc)} {ps : List Pc} (x : List UInt8) (h : ss.find? textB = some ps) : wordsSS ss x = secT zeroPlc 0 0 0 0 x ps := by unfold wordsSS; rw [h]
theorem words_none {ss : List (List Pc)} (x : List UInt8) (h : ss.find? textB = none) : wordsSS ss x = x := by unfold wordsSS; rw [h]
theorem find_here {ss : List (List Pc)} {i : Nat} {F : Option (List Pc)} (hi : i < ss.length) (h : (ss.drop i).find? textB = F) (ht : textB ss[i] = true) : F = some ss[i] := by
  rw [List.drop_eq_getElem_cons hi, List.find?_cons, ht] at h
  exact h.symm
theorem find_on {ss : List (List Pc)} {i : Nat} {F : Option (List Pc)} (hi : i < ss.length) (h : (ss.drop i).find? textB = F) (ht : textB ss[i] = false) : (ss.drop (i + 1)).find? textB = F := by
  rw [List.drop_eq_getElem_cons hi, List.find?_cons, ht] at h
  exact h
set_option maxRecDepth 100000 in
set_option maxHeartbeats 8000000 in
theorem rApply_words (S : List UInt8) (k n : Int) (s : ByteArray) (b : Bool) (c : Int) (ss : List (List Pc)) (w : World) (ho : secsOpt S = some ss) (hz : s.size ≤ maxLen) (hr : rightB k n s b c = true) (hk : k = 2 ∨ k = 3) :
    Calls Tryz.prog 5 #[.string ⟨S.toArray⟩, .agg #[.int .i64 k, .int .i64 n, .string s, .bool b, .int .i64 c]] w fun e w' => e = .returned (.tuple #[.string ⟨(wordsSS ss (wordsV k n s b c).1).toArray⟩, .int .i64 0]) ∧ Below w.heap.size w w' := by
  have hv0 : checkV k n s b c = 0 := by unfold checkV; rw [hr]; rfl
  have hxl := words_len hk hv0
  have hv2 : (wordsV k n s b c).2 = 0 := by
    unfold wordsV
    rw [hr]
    rcases hk with rfl | rfl <;> simp
  have HWd : Hid (∀ W : World, Calls Tryz.prog 13 #[.agg #[.int .i64 k, .int .i64 n, .string s, .bool b, .int .i64 c]] W fun e w' => e = .returned (.tuple #[.string ⟨(wordsV k n s b c).1.toArray⟩, .int .i64 0]) ∧ Below W.heap.size W w') := fun W => by have := rwordsV_any k n s b c W hz; rwa [hv2] at this
  have HR := hide (read_some ho (boxW w k n s b c))
  have HB := hide (box12_below w k n s b c)
  have HQ : Hid (∀ W : World, Below (boxW w k n s b c).heap.size (boxW w k n s b c) W → W.cell? ⟨w.heap.size, 0, none⟩ = some (.int .i64 k) ∧ W.cell? ⟨w.heap.size, 1, none⟩ = some (.int .i64 n) ∧ W.cell? ⟨w.heap.size, 2, none⟩ = some (.string s) ∧ W.cell? ⟨w.heap.size, 3, none⟩ = some (.bool b) ∧ W.cell? ⟨w.heap.size, 4, none⟩ = some (.int .i64 c)) := fun W hW => box12_cells hW
  have HX := hide (Below.refl (boxW w k n s b c).heap.size (boxW w k n s b c))
  have HRt : Hid (∀ W : World, Calls Tryz.prog 12 #[.agg #[.int .i64 k, .int .i64 n, .string s, .bool b, .int .i64 c]] W fun e w' => e = .returned (.bool true) ∧ Below W.heap.size W w') := fun W => by have := rright_any k n s b c W hz; rwa [hr] at this
  obtain ⟨_, hss1, hss3⟩ := sane_of ho
  have HSF := hide (secF_of ho)
  obtain ⟨F, hF⟩ : ∃ F, ss.find? textB = F := ⟨_, rfl⟩
  have HF := hide hF
  clear hv0 hv2 hF
  generalize (wordsV k n s b c).1 = x at *
  have szx := mk_size x
  obtain ⟨R, hR⟩ : ∃ R, wordsSS ss x = R := ⟨_, rfl⟩
  rw [hR]
  have HRes := hide hR
  clear hR
  rcases hk with rfl | rfl
  all_goals
    unfold boxW at HR HB HQ HX
    clear ho hz hr
    go_enter Tryz.func5, Tryz.ntmps5
    go_wp2_with (first | (go_at_call 11; refine HR.out.mono ?_; rintro e w1 ⟨⟨g, cap, G, C, rfl, hrr, hG⟩, hb1⟩; obtain ⟨q0, q1, q2, q3, q4⟩ := HQ.out _ hb1; have HRR := hide hrr; have HG := hide hG; have HX1 := hide hb1; have HB1 := hide (upW HB.out hb1); have HY := hide (Below.refl w1.heap.size w1); clear hrr hG hb1 HR HB HX) | (go_at_call 12; refine (HRt.out _).mono ?_; rintro e w2 ⟨rfl, hb2⟩; replace HY := hide (upW HY.out hb2); obtain ⟨q0, q1, q2, q3, q4⟩ := HQ.out _ (upW HX1.out HY.out); clear hb2) | (go_at_call 13; refine (HWd.out _).mono ?_; rintro e w3 ⟨rfl, hb2⟩; replace HY := hide (upW HY.out hb2); obtain ⟨q0, q1, q2, q3, q4⟩ := HQ.out _ (upW HX1.out HY.out); clear hb2))
    have HGl : Hid (G.length = ss.length) := by show _ = _; have := congrArg List.length HG.out; simpa using this
    have hG3 : (G.length : Int) ≤ 3 := by have := HGl.out; omega
    have hgs : g < w1.heap.size := (Array.getElem?_eq_some_iff.1 HRR.out.row).1
    have hcapm : (cap : Int) ≤ 9223372036854775807 := by have := HRR.out.mx; unfold maxLen at this; omega
    have hlc : (G.length : Int) ≤ (cap : Int) := by have := HRR.out.le; omega
    go_loopw [10] (fun iv wx => ∃ i : Nat, i ≤ G.length ∧ iv = .int .i64 i ∧ Hid ((ss.drop i).find? textB = F) ∧ Hid (Below w1.heap.size w1 wx)) (fun iv _ => G.length - (intOf iv).toNat)
    case atStart => exact ⟨0, Nat.zero_le _, rfl, HF, HY⟩
    case round =>
      obtain ⟨i, hi, rfl, HI, HZ⟩ := hrel
      by_cases hli : i < G.length
      · have gi : (i : Int) < (G.length : Int) := by omega
        have gi0 : (0 : Int) ≤ (i : Int) := by omega
        have hlis : i < ss.length := by have := HGl.out; omega
        have hGe := List.getElem?_eq_getElem hli
        have hcell := (HZ.out.cell (p := ⟨g, i, none⟩) hgs).trans (HRR.out.cells i _ hGe)
        have hsec : G[i].2 = ss[i].map kkP := by
          have := congrArg (fun l => l[i]?) HG.out
          simp only [List.getElem?_map, hGe, List.getElem?_eq_getElem hlis, Option.map_some] at this
          exact Option.some.inj this
        have hp0 := pcs_of' (HRR.out.rows i _ hGe)
        rw [hsec] at hp0
        have HPc : Hid (∀ W : World, Below w1.heap.size w1 W → PcsAt W G[i].1 (ss[i].map kkP)) := fun W hW => hp0.below hW
        obtain ⟨up, uc, hu, _⟩ := hp0
        have hsf := HSF.out _ (List.getElem_mem hlis)
        have HKd := hide (fun W hW => kind_calls hsf W (HPc.out W hW))
        generalize (ss[i].map kkP).length = ul at hu
        by_cases ht : kindS ss[i] = 4
        · have hkk : ((kk (kindS ss[i]) : Nat) : Int) = 3 := by rw [ht]; rfl
          rw [hkk] at HKd
          have hfs := find_here hlis HI.out (by unfold textB; rw [ht]; rfl)
          have hR2 : Hid (R = secT zeroPlc 0 0 0 0 x ss[i]) := HRes.out.symm.trans (words_some x (HF.out.trans hfs))
          have HWr := hide (fun W hW => wr_text_calls (x := x) hsf ht hxl W (HPc.out W hW))
          clear hfs ht hkk hsf HPc hsec HI HSF HRR HG HRes HF hGe
          generalize secT zeroPlc 0 0 0 0 x ss[i] = Z at *
          generalize G[i].1 = uv at *
          subst hu
          go_wp2_with (first | (go_at_call 14; refine (HKd.out _ HZ.out).mono ?_; rintro e w4 ⟨rfl, hb2⟩; have hcell2 := (hb2.cell (p := ⟨g, i, none⟩) (Nat.lt_of_lt_of_le hgs HZ.out.size)).trans hcell; replace HZ := hide (upW HZ.out hb2); clear hb2) | (go_at_call 15; refine (HWr.out _ HZ.out).mono ?_; rintro e w5 ⟨rfl, hb2⟩; replace HZ := hide (upW HZ.out hb2); clear hb2))
          go_ret2
          rw [hR2.out]
          exact ⟨rfl, upW HB1.out HZ.out⟩
        · have hkk : ¬ ((kk (kindS ss[i]) : Nat) : Int) = 3 := fun e => ht ((kind_text (kindS_le _)).1 e)
          have hkk2 : (((kk (kindS ss[i]) : Nat) : Int) == 3) = false := by rw [beq_eq_false_iff_ne]; exact hkk
          have HI2 : Hid ((ss.drop (i + 1)).find? textB = F) := find_on hlis HI.out (by unfold textB; rw [beq_eq_false_iff_ne]; exact ht)
          clear ht hsf HPc hsec HI HSF HRR HG HRes HF hGe
          generalize ((kk (kindS ss[i]) : Nat) : Int) = kv at *
          generalize G[i].1 = uv at *
          subst hu
          go_wp2_with (go_at_call 14; refine (HKd.out _ HZ.out).mono ?_; rintro e w4 ⟨rfl, hb2⟩; replace HZ := hide (upW HZ.out hb2); clear hb2)
          go_roundw
          case rel => exact ⟨i + 1, hli, by go_num, HI2, HZ⟩
          case measure => simp [intOf] <;> omega
      · have gi : ¬ (i : Int) < (G.length : Int) := by omega
        have hfn : F = none := by have := HI.out; rw [List.drop_eq_nil_of_le (by have := HGl.out; omega)] at this; exact this.symm
        have hR2 : Hid (R = x) := HRes.out.symm.trans (words_none x (HF.out.trans hfn))
        clear HI hfn HSF HRR HG HRes HF
        go_wp2
        go_ret2
        rw [hR2.out]
        exact ⟨rfl, upW HB1.out HZ.out⟩
end Go.Proofs.YtnhaapcpklfkpaaGreatDoor
namespace Go.Proofs.YtnhaapcpklfkpaaGreatDoor
open Go.RowKit
set_option linter.unusedSimpArgs false

theorem wr_num_all {ps : List Pc} {n : Int} (hs : SecF ps) (hk : kindS ps = 0 ∨ kindS ps = 1) (h0 : 0 ≤ n) (h1 : n ≤ 1000000000000000000) : ∃ T E, NumW ps n T E ∧ ∀ (u : Value) (W : World), PcsAt W u (ps.map kkP) → Calls Tryz.prog 15 #[u, .int .i64 n, .int .i64 0, .string ⟨#[]⟩] W fun e w' => e = .returned (.tuple #[.string ⟨T.toArray⟩, .int .i64 E]) ∧ Below W.heap.size W w' := by
  rcases wr_num hs hk h0 h1 (fun _ => []) with ⟨m, h2, h3, h4⟩ | ⟨h2, h4⟩
  · refine ⟨_, _, .inl ⟨m, h2, h3, rfl, rfl⟩, fun u W hW => ?_⟩
    obtain ⟨T, E, hN, hc⟩ := wr_num_calls (u := u) hs hk h0 h1
    rcases hN with ⟨m', g2, _, rfl, rfl⟩ | ⟨g2, _, _⟩
    · have e : m' = m := by rw [h2] at g2; have := congrArg Prod.fst g2; simp only at this; omega
      subst e
      exact hc W hW
    · rw [h2] at g2; have := congrArg Prod.snd g2; simp at this
  · refine ⟨_, _, .inr ⟨h2, rfl, rfl⟩, fun u W hW => ?_⟩
    obtain ⟨T, E, hN, hc⟩ := wr_num_calls (u := u) hs hk h0 h1
    rcases hN with ⟨m', g2, _, rfl, rfl⟩ | ⟨g2, rfl, rfl⟩
    · rw [h2] at g2; have := congrArg Prod.snd g2; simp at this
    · exact hc W hW
theorem secF_len {ps : List Pc} (hs : SecF ps) {m : Nat} (hm : m ≤ 1000000000000000000) : (secT (plcOf ps) m 0 0 0 [] ps).length ≤ 300000 := by
  have hsa : Sane ps := ⟨hs.len, hs.texts, hs.right⟩
  exact secTs_len hsa ⟨hsa.plc.1, hsa.plc.2.1⟩ (by omega) (by omega) (by omega) (by omega) (by simp)
theorem floor_two {n : Int} (h : ¬ (floorR n).2 = 0) : (floorR n).1 = 0 := by
  unfold floorR told at *
  split at h
  · split at h
    · exact absurd rfl h
    · rename_i a b; rw [if_pos a, if_neg b]
  · rename_i a; rw [if_neg a]
theorem words_num {k n : Int} {s : ByteArray} {b : Bool} {c : Int} (hr : rightB k n s b c = true) (hk : k = 0 ∨ k = 1) : (wordsV k n s b c).2 = 0 ∧ fitsB n = true := by
  refine ⟨?_, ?_⟩
  · unfold wordsV
    rw [hr]
    rcases hk with rfl | rfl <;> simp
  · rcases right_cases hr with h | h | h | h | h
    · obtain ⟨_, rfl, _⟩ := h; decide
    · exact h.2.1
    · omega
    · omega
    · omega
theorem words_one {n : Int} (h : fitsB n = true) : (wordsV 1 n ⟨#[]⟩ false 0).2 = 0 := by
  have : rightB 1 n ⟨#[]⟩ false 0 = true := by unfold rightB; simp [h]
  exact (words_num this (.inr rfl)).1
set_option maxRecDepth 100000 in
set_option maxHeartbeats 8000000 in
theorem rApply_num0 (S : List UInt8) (k n : Int) (s : ByteArray) (b : Bool) (c : Int) (ss : List (List Pc)) (w : World) (ho : secsOpt S = some ss) (hz : s.size ≤ maxLen) (hr : rightB k n s b c = true) (hk : k = 0 ∨ k = 1) (h0 : leftS ss = []) :
    Calls Tryz.prog 5 #[.string ⟨S.toArray⟩, .agg #[.int .i64 k, .int .i64 n, .string s, .bool b, .int .i64 c]] w fun e w' => e = .returned (.tuple #[.string ⟨(wordsV 1 n ⟨#[]⟩ false 0).1.toArray⟩, .int .i64 0]) ∧ Below w.heap.size w w' := by
  obtain ⟨hv2, hfit⟩ := words_num hr hk
  obtain ⟨n1, n2⟩ := fitsB_true hfit
  obtain ⟨_, hss1, hss3⟩ := sane_of ho
  have HSF := hide (secF_of ho)
  have HWd : Hid (∀ W : World, Calls Tryz.prog 13 #[.agg #[.int .i64 k, .int .i64 n, .string s, .bool b, .int .i64 c]] W fun e w' => e = .returned (.tuple #[.string ⟨(wordsV k n s b c).1.toArray⟩, .int .i64 0]) ∧ Below W.heap.size W w') := fun W => by have := rwordsV_any k n s b c W hz; rwa [hv2] at this
  have HR := hide (read_some ho (boxW w k n s b c))
  have HB := hide (box12_below w k n s b c)
  have HQ : Hid (∀ W : World, Below (boxW w k n s b c).heap.size (boxW w k n s b c) W → W.cell? ⟨w.heap.size, 0, none⟩ = some (.int .i64 k) ∧ W.cell? ⟨w.heap.size, 1, none⟩ = some (.int .i64 n) ∧ W.cell? ⟨w.heap.size, 2, none⟩ = some (.string s) ∧ W.cell? ⟨w.heap.size, 3, none⟩ = some (.bool b) ∧ W.cell? ⟨w.heap.size, 4, none⟩ = some (.int .i64 c)) := fun W hW => box12_cells hW
  have HX := hide (Below.refl (boxW w k n s b c).heap.size (boxW w k n s b c))
  have HRt : Hid (∀ W : World, Calls Tryz.prog 12 #[.agg #[.int .i64 k, .int .i64 n, .string s, .bool b, .int .i64 c]] W fun e w' => e = .returned (.bool true) ∧ Below W.heap.size W w') := fun W => by have := rright_any k n s b c W hz; rwa [hr] at this
  clear hv2
  generalize (wordsV k n s b c).1 = x at *
  have hk2 : (k == 2) = false := by rw [beq_eq_false_iff_ne]; omega
  have hk3 : (k == 3) = false := by rw [beq_eq_false_iff_ne]; omega
  have hk2n : ¬ k = 2 := by omega
  have hk3n : ¬ k = 3 := by omega
  clear hk
  have hw1 := words_one hfit
  have HW1 : Hid (∀ W : World, Calls Tryz.prog 13 #[.agg #[.int .i64 1, .int .i64 n, .string ⟨#[]⟩, .bool false, .int .i64 0]] W fun e w' => e = .returned (.tuple #[.string ⟨(wordsV 1 n ⟨#[]⟩ false 0).1.toArray⟩, .int .i64 0]) ∧ Below W.heap.size W w') := fun W => by have := rwordsV_any 1 n ⟨#[]⟩ false 0 W (by decide); rwa [hw1] at this
  clear hw1
  generalize (wordsV 1 n ⟨#[]⟩ false 0).1 = x1 at *
  unfold boxW at HR HB HQ HX
  clear ho hz hr
  go_enter Tryz.func5, Tryz.ntmps5
  go_wp2_with (first | (go_at_call 11; refine HR.out.mono ?_; rintro e w1 ⟨⟨g, cap, G, C, rfl, hrr, hG⟩, hb1⟩; obtain ⟨q0, q1, q2, q3, q4⟩ := HQ.out _ hb1; have HPk := hide ((pick_calls n hrr hG HSF.out hss3).1 h0); have HX1 := hide hb1; have HB1 := hide (upW HB.out hb1); have HY := hide (Below.refl w1.heap.size w1); clear hrr hG hb1 HR HB HX) | (go_at_call 12; refine (HRt.out _).mono ?_; rintro e w2 ⟨rfl, hb2⟩; replace HY := hide (upW HY.out hb2); obtain ⟨q0, q1, q2, q3, q4⟩ := HQ.out _ (upW HX1.out HY.out); clear hb2) | (go_at_call 16; refine (HPk.out _ HY.out).mono ?_; rintro e w4 ⟨rfl, hb2⟩; replace HY := hide (upW HY.out hb2); obtain ⟨q0, q1, q2, q3, q4⟩ := HQ.out _ (upW HX1.out HY.out); clear hb2; clear HPk) | (go_at_call 13; first | (refine (HWd.out _).mono ?_; clear HWd; rintro e w3 ⟨rfl, hb2⟩; replace HY := hide (upW HY.out hb2); obtain ⟨q0, q1, q2, q3, q4⟩ := HQ.out _ (upW HX1.out HY.out); clear hb2) | (refine (HW1.out _).mono ?_; rintro e w5 ⟨rfl, hb2⟩; replace HY := hide (upW HY.out hb2); clear hb2)))
  go_ret2
  exact ⟨rfl, upW HB1.out HY.out⟩
end Go.Proofs.YtnhaapcpklfkpaaGreatDoor
namespace Go.Proofs.YtnhaapcpklfkpaaGreatDoor
open Go.RowKit
set_option linter.unusedSimpArgs false

set_option maxRecDepth 100000 in
set_option maxHeartbeats 8000000 in
theorem rApply_num_00 (S : List UInt8) (k n : Int) (s : ByteArray) (b : Bool) (c : Int) (ss : List (List Pc)) (w : World) (ho : secsOpt S = some ss) (hz : s.size ≤ maxLen) (ps : List Pc) (T : List UInt8) (hr : rightB k n s b c = true) (hk : k = 0 ∨ k = 1) (hps : (leftS ss)[chosenR (leftS ss).length n]? = some ps) (hsf : SecF ps) (hkd : kindS ps = 0 ∨ kindS ps = 1) (hal0 : ¬ (leftS ss).length = 1) (_hn : ¬ n < 0)
    (hWu : ∀ (u : Value) (W : World), PcsAt W u (ps.map kkP) → Calls Tryz.prog 15 #[u, .int .i64 (absI n), .int .i64 0, .string ⟨#[]⟩] W fun e w' => e = .returned (.tuple #[.string ⟨T.toArray⟩, .int .i64 0]) ∧ Below W.heap.size W w')  (_hT : T.length ≤ 300000) :
    Calls Tryz.prog 5 #[.string ⟨S.toArray⟩, .agg #[.int .i64 k, .int .i64 n, .string s, .bool b, .int .i64 c]] w fun e w' => e = .returned (.tuple #[.string ⟨T.toArray⟩, .int .i64 0]) ∧ Below w.heap.size w w' := by
  obtain ⟨hv2, hfit⟩ := words_num hr hk
  obtain ⟨n1, n2⟩ := fitsB_true hfit
  obtain ⟨_, hss1, hss3⟩ := sane_of ho
  have HSF := hide (secF_of ho)
  have HWd : Hid (∀ W : World, Calls Tryz.prog 13 #[.agg #[.int .i64 k, .int .i64 n, .string s, .bool b, .int .i64 c]] W fun e w' => e = .returned (.tuple #[.string ⟨(wordsV k n s b c).1.toArray⟩, .int .i64 0]) ∧ Below W.heap.size W w') := fun W => by have := rwordsV_any k n s b c W hz; rwa [hv2] at this
  have HR := hide (read_some ho (boxW w k n s b c))
  have HB := hide (box12_below w k n s b c)
  have HQ : Hid (∀ W : World, Below (boxW w k n s b c).heap.size (boxW w k n s b c) W → W.cell? ⟨w.heap.size, 0, none⟩ = some (.int .i64 k) ∧ W.cell? ⟨w.heap.size, 1, none⟩ = some (.int .i64 n) ∧ W.cell? ⟨w.heap.size, 2, none⟩ = some (.string s) ∧ W.cell? ⟨w.heap.size, 3, none⟩ = some (.bool b) ∧ W.cell? ⟨w.heap.size, 4, none⟩ = some (.int .i64 c)) := fun W hW => box12_cells hW
  have HX := hide (Below.refl (boxW w k n s b c).heap.size (boxW w k n s b c))
  have HRt : Hid (∀ W : World, Calls Tryz.prog 12 #[.agg #[.int .i64 k, .int .i64 n, .string s, .bool b, .int .i64 c]] W fun e w' => e = .returned (.bool true) ∧ Below W.heap.size W w') := fun W => by have := rright_any k n s b c W hz; rwa [hr] at this
  clear hv2
  generalize (wordsV k n s b c).1 = x at *
  have hk2 : (k == 2) = false := by rw [beq_eq_false_iff_ne]; omega
  have hk3 : (k == 3) = false := by rw [beq_eq_false_iff_ne]; omega
  have hk2n : ¬ k = 2 := by omega
  have hk3n : ¬ k = 3 := by omega
  clear hk
  have HWu := hide hWu
  have hal : decide ((leftS ss).length = 1) = false := by exact decide_eq_false hal0
  have HSz : Hid (∀ W : World, Calls Tryz.prog 18 #[.int .i64 n] W fun e w' => e = .returned (.int .i64 (absI n)) ∧ w' = W) := fun W => rsize_any n W n1 n2
  have hkk : ((kk (kindS ps) : Nat) : Int) = ((kindS ps : Nat) : Int) := by rcases hkd with e | e <;> rw [e] <;> rfl
  have hd2 : (((kindS ps : Nat) : Int) == 2) = false := by rw [beq_eq_false_iff_ne]; omega
  have hd3 : (((kindS ps : Nat) : Int) != 2) = true := by rw [bne, hd2]; rfl
  have hd4 : ¬ ((kindS ps : Nat) : Int) = 2 := by omega
  have HFl := HSz
  clear hWu hkd
  unfold boxW at HR HB HQ HX
  clear ho hz hr
  go_enter Tryz.func5, Tryz.ntmps5
  generalize absI n = N at *
  generalize ((kindS ps : Nat) : Int) = kv at *
  go_wp2_with (first | (go_at_call 11; refine HR.out.mono ?_; rintro e w1 ⟨⟨g, cap, G, C, rfl, hrr, hG⟩, hb1⟩; obtain ⟨q0, q1, q2, q3, q4⟩ := HQ.out _ hb1; obtain ⟨up, ul, uc, hPc, hPk⟩ := (pick_calls n hrr hG HSF.out hss3).2 ps hps; have HPk := hide hPk; have HKd := hide (fun W hW => kind_calls hsf W (hPc W hW)); have HWr := hide (fun W hW => HWu.out _ W (hPc W hW)); clear hPc hPk; rw [hkk] at HKd; rw [hal] at HPk; have HX1 := hide hb1; have HB1 := hide (upW HB.out hb1); have HY := hide (Below.refl w1.heap.size w1); clear hrr hG hb1 HR HB HX) | (go_at_call 12; refine (HRt.out _).mono ?_; rintro e w2 ⟨rfl, hb2⟩; replace HY := hide (upW HY.out hb2); obtain ⟨q0, q1, q2, q3, q4⟩ := HQ.out _ (upW HX1.out HY.out); clear hb2) | (go_at_call 13; refine (HWd.out _).mono ?_; rintro e w3 ⟨rfl, hb2⟩; replace HY := hide (upW HY.out hb2); obtain ⟨q0, q1, q2, q3, q4⟩ := HQ.out _ (upW HX1.out HY.out); clear hb2) | (go_at_call 16; refine (HPk.out _ HY.out).mono ?_; rintro e w4 ⟨rfl, hb2⟩; replace HY := hide (upW HY.out hb2); obtain ⟨q0, q1, q2, q3, q4⟩ := HQ.out _ (upW HX1.out HY.out); clear hb2; clear HPk) | (go_at_call 14; refine (HKd.out _ HY.out).mono ?_; rintro e w5 ⟨rfl, hb2⟩; replace HY := hide (upW HY.out hb2); obtain ⟨q0, q1, q2, q3, q4⟩ := HQ.out _ (upW HX1.out HY.out); clear hb2) | (go_at_call 17; refine (HFl.out _).mono ?_; rintro e wz ⟨rfl, hz⟩; subst wz) | (go_at_call 18; refine (HSz.out _).mono ?_; rintro e wz ⟨rfl, hz⟩; subst wz) | (go_at_call 15; refine (HWr.out _ HY.out).mono ?_; rintro e w6 ⟨rfl, hb2⟩; replace HY := hide (upW HY.out hb2); obtain ⟨q0, q1, q2, q3, q4⟩ := HQ.out _ (upW HX1.out HY.out); clear hb2))
  go_ret2
  exact ⟨rfl, upW HB1.out HY.out⟩
set_option maxRecDepth 100000 in
set_option maxHeartbeats 8000000 in
theorem rApply_num_01 (S : List UInt8) (k n : Int) (s : ByteArray) (b : Bool) (c : Int) (ss : List (List Pc)) (w : World) (ho : secsOpt S = some ss) (hz : s.size ≤ maxLen) (ps : List Pc) (T : List UInt8) (hr : rightB k n s b c = true) (hk : k = 0 ∨ k = 1) (hps : (leftS ss)[chosenR (leftS ss).length n]? = some ps) (hsf : SecF ps) (hkd : kindS ps = 0 ∨ kindS ps = 1) (hal0 : ¬ (leftS ss).length = 1) (_hn : n < 0)
    (hWu : ∀ (u : Value) (W : World), PcsAt W u (ps.map kkP) → Calls Tryz.prog 15 #[u, .int .i64 (absI n), .int .i64 0, .string ⟨#[]⟩] W fun e w' => e = .returned (.tuple #[.string ⟨T.toArray⟩, .int .i64 0]) ∧ Below W.heap.size W w')  (_hT : T.length ≤ 300000) :
    Calls Tryz.prog 5 #[.string ⟨S.toArray⟩, .agg #[.int .i64 k, .int .i64 n, .string s, .bool b, .int .i64 c]] w fun e w' => e = .returned (.tuple #[.string ⟨T.toArray⟩, .int .i64 0]) ∧ Below w.heap.size w w' := by
  obtain ⟨hv2, hfit⟩ := words_num hr hk
  obtain ⟨n1, n2⟩ := fitsB_true hfit
  obtain ⟨_, hss1, hss3⟩ := sane_of ho
  have HSF := hide (secF_of ho)
  have HWd : Hid (∀ W : World, Calls Tryz.prog 13 #[.agg #[.int .i64 k, .int .i64 n, .string s, .bool b, .int .i64 c]] W fun e w' => e = .returned (.tuple #[.string ⟨(wordsV k n s b c).1.toArray⟩, .int .i64 0]) ∧ Below W.heap.size W w') := fun W => by have := rwordsV_any k n s b c W hz; rwa [hv2] at this
  have HR := hide (read_some ho (boxW w k n s b c))
  have HB := hide (box12_below w k n s b c)
  have HQ : Hid (∀ W : World, Below (boxW w k n s b c).heap.size (boxW w k n s b c) W → W.cell? ⟨w.heap.size, 0, none⟩ = some (.int .i64 k) ∧ W.cell? ⟨w.heap.size, 1, none⟩ = some (.int .i64 n) ∧ W.cell? ⟨w.heap.size, 2, none⟩ = some (.string s) ∧ W.cell? ⟨w.heap.size, 3, none⟩ = some (.bool b) ∧ W.cell? ⟨w.heap.size, 4, none⟩ = some (.int .i64 c)) := fun W hW => box12_cells hW
  have HX := hide (Below.refl (boxW w k n s b c).heap.size (boxW w k n s b c))
  have HRt : Hid (∀ W : World, Calls Tryz.prog 12 #[.agg #[.int .i64 k, .int .i64 n, .string s, .bool b, .int .i64 c]] W fun e w' => e = .returned (.bool true) ∧ Below W.heap.size W w') := fun W => by have := rright_any k n s b c W hz; rwa [hr] at this
  clear hv2
  generalize (wordsV k n s b c).1 = x at *
  have hk2 : (k == 2) = false := by rw [beq_eq_false_iff_ne]; omega
  have hk3 : (k == 3) = false := by rw [beq_eq_false_iff_ne]; omega
  have hk2n : ¬ k = 2 := by omega
  have hk3n : ¬ k = 3 := by omega
  clear hk
  have HWu := hide hWu
  have hal : decide ((leftS ss).length = 1) = false := by exact decide_eq_false hal0
  have HSz : Hid (∀ W : World, Calls Tryz.prog 18 #[.int .i64 n] W fun e w' => e = .returned (.int .i64 (absI n)) ∧ w' = W) := fun W => rsize_any n W n1 n2
  have hkk : ((kk (kindS ps) : Nat) : Int) = ((kindS ps : Nat) : Int) := by rcases hkd with e | e <;> rw [e] <;> rfl
  have hd2 : (((kindS ps : Nat) : Int) == 2) = false := by rw [beq_eq_false_iff_ne]; omega
  have hd3 : (((kindS ps : Nat) : Int) != 2) = true := by rw [bne, hd2]; rfl
  have hd4 : ¬ ((kindS ps : Nat) : Int) = 2 := by omega
  have HFl := HSz
  clear hWu hkd
  unfold boxW at HR HB HQ HX
  clear ho hz hr
  go_enter Tryz.func5, Tryz.ntmps5
  generalize absI n = N at *
  generalize ((kindS ps : Nat) : Int) = kv at *
  go_wp2_with (first | (go_at_call 11; refine HR.out.mono ?_; rintro e w1 ⟨⟨g, cap, G, C, rfl, hrr, hG⟩, hb1⟩; obtain ⟨q0, q1, q2, q3, q4⟩ := HQ.out _ hb1; obtain ⟨up, ul, uc, hPc, hPk⟩ := (pick_calls n hrr hG HSF.out hss3).2 ps hps; have HPk := hide hPk; have HKd := hide (fun W hW => kind_calls hsf W (hPc W hW)); have HWr := hide (fun W hW => HWu.out _ W (hPc W hW)); clear hPc hPk; rw [hkk] at HKd; rw [hal] at HPk; have HX1 := hide hb1; have HB1 := hide (upW HB.out hb1); have HY := hide (Below.refl w1.heap.size w1); clear hrr hG hb1 HR HB HX) | (go_at_call 12; refine (HRt.out _).mono ?_; rintro e w2 ⟨rfl, hb2⟩; replace HY := hide (upW HY.out hb2); obtain ⟨q0, q1, q2, q3, q4⟩ := HQ.out _ (upW HX1.out HY.out); clear hb2) | (go_at_call 13; refine (HWd.out _).mono ?_; rintro e w3 ⟨rfl, hb2⟩; replace HY := hide (upW HY.out hb2); obtain ⟨q0, q1, q2, q3, q4⟩ := HQ.out _ (upW HX1.out HY.out); clear hb2) | (go_at_call 16; refine (HPk.out _ HY.out).mono ?_; rintro e w4 ⟨rfl, hb2⟩; replace HY := hide (upW HY.out hb2); obtain ⟨q0, q1, q2, q3, q4⟩ := HQ.out _ (upW HX1.out HY.out); clear hb2; clear HPk) | (go_at_call 14; refine (HKd.out _ HY.out).mono ?_; rintro e w5 ⟨rfl, hb2⟩; replace HY := hide (upW HY.out hb2); obtain ⟨q0, q1, q2, q3, q4⟩ := HQ.out _ (upW HX1.out HY.out); clear hb2) | (go_at_call 17; refine (HFl.out _).mono ?_; rintro e wz ⟨rfl, hz⟩; subst wz) | (go_at_call 18; refine (HSz.out _).mono ?_; rintro e wz ⟨rfl, hz⟩; subst wz) | (go_at_call 15; refine (HWr.out _ HY.out).mono ?_; rintro e w6 ⟨rfl, hb2⟩; replace HY := hide (upW HY.out hb2); obtain ⟨q0, q1, q2, q3, q4⟩ := HQ.out _ (upW HX1.out HY.out); clear hb2))
  go_ret2
  exact ⟨rfl, upW HB1.out HY.out⟩
set_option maxRecDepth 100000 in
set_option maxHeartbeats 8000000 in
theorem rApply_num_10 (S : List UInt8) (k n : Int) (s : ByteArray) (b : Bool) (c : Int) (ss : List (List Pc)) (w : World) (ho : secsOpt S = some ss) (hz : s.size ≤ maxLen) (ps : List Pc) (T : List UInt8) (hr : rightB k n s b c = true) (hk : k = 0 ∨ k = 1) (hps : (leftS ss)[chosenR (leftS ss).length n]? = some ps) (hsf : SecF ps) (hkd : kindS ps = 0 ∨ kindS ps = 1) (hal0 : (leftS ss).length = 1) (_hn : ¬ n < 0)
    (hWu : ∀ (u : Value) (W : World), PcsAt W u (ps.map kkP) → Calls Tryz.prog 15 #[u, .int .i64 (absI n), .int .i64 0, .string ⟨#[]⟩] W fun e w' => e = .returned (.tuple #[.string ⟨T.toArray⟩, .int .i64 0]) ∧ Below W.heap.size W w')  (_hT : T.length ≤ 300000) :
    Calls Tryz.prog 5 #[.string ⟨S.toArray⟩, .agg #[.int .i64 k, .int .i64 n, .string s, .bool b, .int .i64 c]] w fun e w' => e = .returned (.tuple #[.string ⟨T.toArray⟩, .int .i64 0]) ∧ Below w.heap.size w w' := by
  obtain ⟨hv2, hfit⟩ := words_num hr hk
  obtain ⟨n1, n2⟩ := fitsB_true hfit
  obtain ⟨_, hss1, hss3⟩ := sane_of ho
  have HSF := hide (secF_of ho)
  have HWd : Hid (∀ W : World, Calls Tryz.prog 13 #[.agg #[.int .i64 k, .int .i64 n, .string s, .bool b, .int .i64 c]] W fun e w' => e = .returned (.tuple #[.string ⟨(wordsV k n s b c).1.toArray⟩, .int .i64 0]) ∧ Below W.heap.size W w') := fun W => by have := rwordsV_any k n s b c W hz; rwa [hv2] at this
  have HR := hide (read_some ho (boxW w k n s b c))
  have HB := hide (box12_below w k n s b c)
  have HQ : Hid (∀ W : World, Below (boxW w k n s b c).heap.size (boxW w k n s b c) W → W.cell? ⟨w.heap.size, 0, none⟩ = some (.int .i64 k) ∧ W.cell? ⟨w.heap.size, 1, none⟩ = some (.int .i64 n) ∧ W.cell? ⟨w.heap.size, 2, none⟩ = some (.string s) ∧ W.cell? ⟨w.heap.size, 3, none⟩ = some (.bool b) ∧ W.cell? ⟨w.heap.size, 4, none⟩ = some (.int .i64 c)) := fun W hW => box12_cells hW
  have HX := hide (Below.refl (boxW w k n s b c).heap.size (boxW w k n s b c))
  have HRt : Hid (∀ W : World, Calls Tryz.prog 12 #[.agg #[.int .i64 k, .int .i64 n, .string s, .bool b, .int .i64 c]] W fun e w' => e = .returned (.bool true) ∧ Below W.heap.size W w') := fun W => by have := rright_any k n s b c W hz; rwa [hr] at this
  clear hv2
  generalize (wordsV k n s b c).1 = x at *
  have hk2 : (k == 2) = false := by rw [beq_eq_false_iff_ne]; omega
  have hk3 : (k == 3) = false := by rw [beq_eq_false_iff_ne]; omega
  have hk2n : ¬ k = 2 := by omega
  have hk3n : ¬ k = 3 := by omega
  clear hk
  have HWu := hide hWu
  have hal : decide ((leftS ss).length = 1) = true := by rw [hal0]; rfl
  have HSz : Hid (∀ W : World, Calls Tryz.prog 18 #[.int .i64 n] W fun e w' => e = .returned (.int .i64 (absI n)) ∧ w' = W) := fun W => rsize_any n W n1 n2
  have hkk : ((kk (kindS ps) : Nat) : Int) = ((kindS ps : Nat) : Int) := by rcases hkd with e | e <;> rw [e] <;> rfl
  have hd2 : (((kindS ps : Nat) : Int) == 2) = false := by rw [beq_eq_false_iff_ne]; omega
  have hd3 : (((kindS ps : Nat) : Int) != 2) = true := by rw [bne, hd2]; rfl
  have hd4 : ¬ ((kindS ps : Nat) : Int) = 2 := by omega
  have HFl := HSz
  clear hWu hkd
  unfold boxW at HR HB HQ HX
  clear ho hz hr
  go_enter Tryz.func5, Tryz.ntmps5
  generalize absI n = N at *
  generalize ((kindS ps : Nat) : Int) = kv at *
  go_wp2_with (first | (go_at_call 11; refine HR.out.mono ?_; rintro e w1 ⟨⟨g, cap, G, C, rfl, hrr, hG⟩, hb1⟩; obtain ⟨q0, q1, q2, q3, q4⟩ := HQ.out _ hb1; obtain ⟨up, ul, uc, hPc, hPk⟩ := (pick_calls n hrr hG HSF.out hss3).2 ps hps; have HPk := hide hPk; have HKd := hide (fun W hW => kind_calls hsf W (hPc W hW)); have HWr := hide (fun W hW => HWu.out _ W (hPc W hW)); clear hPc hPk; rw [hkk] at HKd; rw [hal] at HPk; have HX1 := hide hb1; have HB1 := hide (upW HB.out hb1); have HY := hide (Below.refl w1.heap.size w1); clear hrr hG hb1 HR HB HX) | (go_at_call 12; refine (HRt.out _).mono ?_; rintro e w2 ⟨rfl, hb2⟩; replace HY := hide (upW HY.out hb2); obtain ⟨q0, q1, q2, q3, q4⟩ := HQ.out _ (upW HX1.out HY.out); clear hb2) | (go_at_call 13; refine (HWd.out _).mono ?_; rintro e w3 ⟨rfl, hb2⟩; replace HY := hide (upW HY.out hb2); obtain ⟨q0, q1, q2, q3, q4⟩ := HQ.out _ (upW HX1.out HY.out); clear hb2) | (go_at_call 16; refine (HPk.out _ HY.out).mono ?_; rintro e w4 ⟨rfl, hb2⟩; replace HY := hide (upW HY.out hb2); obtain ⟨q0, q1, q2, q3, q4⟩ := HQ.out _ (upW HX1.out HY.out); clear hb2; clear HPk) | (go_at_call 14; refine (HKd.out _ HY.out).mono ?_; rintro e w5 ⟨rfl, hb2⟩; replace HY := hide (upW HY.out hb2); obtain ⟨q0, q1, q2, q3, q4⟩ := HQ.out _ (upW HX1.out HY.out); clear hb2) | (go_at_call 17; refine (HFl.out _).mono ?_; rintro e wz ⟨rfl, hz⟩; subst wz) | (go_at_call 18; refine (HSz.out _).mono ?_; rintro e wz ⟨rfl, hz⟩; subst wz) | (go_at_call 15; refine (HWr.out _ HY.out).mono ?_; rintro e w6 ⟨rfl, hb2⟩; replace HY := hide (upW HY.out hb2); obtain ⟨q0, q1, q2, q3, q4⟩ := HQ.out _ (upW HX1.out HY.out); clear hb2))
  go_ret2
  exact ⟨rfl, upW HB1.out HY.out⟩
set_option maxRecDepth 100000 in
set_option maxHeartbeats 8000000 in
theorem rApply_num_11 (S : List UInt8) (k n : Int) (s : ByteArray) (b : Bool) (c : Int) (ss : List (List Pc)) (w : World) (ho : secsOpt S = some ss) (hz : s.size ≤ maxLen) (ps : List Pc) (T : List UInt8) (hr : rightB k n s b c = true) (hk : k = 0 ∨ k = 1) (hps : (leftS ss)[chosenR (leftS ss).length n]? = some ps) (hsf : SecF ps) (hkd : kindS ps = 0 ∨ kindS ps = 1) (hal0 : (leftS ss).length = 1) (_hn : n < 0)
    (hWu : ∀ (u : Value) (W : World), PcsAt W u (ps.map kkP) → Calls Tryz.prog 15 #[u, .int .i64 (absI n), .int .i64 0, .string ⟨#[]⟩] W fun e w' => e = .returned (.tuple #[.string ⟨T.toArray⟩, .int .i64 0]) ∧ Below W.heap.size W w')  (_hT : T.length ≤ 300000) :
    Calls Tryz.prog 5 #[.string ⟨S.toArray⟩, .agg #[.int .i64 k, .int .i64 n, .string s, .bool b, .int .i64 c]] w fun e w' => e = .returned (.tuple #[.string ⟨(45 :: T).toArray⟩, .int .i64 0]) ∧ Below w.heap.size w w' := by
  obtain ⟨hv2, hfit⟩ := words_num hr hk
  obtain ⟨n1, n2⟩ := fitsB_true hfit
  obtain ⟨_, hss1, hss3⟩ := sane_of ho
  have HSF := hide (secF_of ho)
  have HWd : Hid (∀ W : World, Calls Tryz.prog 13 #[.agg #[.int .i64 k, .int .i64 n, .string s, .bool b, .int .i64 c]] W fun e w' => e = .returned (.tuple #[.string ⟨(wordsV k n s b c).1.toArray⟩, .int .i64 0]) ∧ Below W.heap.size W w') := fun W => by have := rwordsV_any k n s b c W hz; rwa [hv2] at this
  have HR := hide (read_some ho (boxW w k n s b c))
  have HB := hide (box12_below w k n s b c)
  have HQ : Hid (∀ W : World, Below (boxW w k n s b c).heap.size (boxW w k n s b c) W → W.cell? ⟨w.heap.size, 0, none⟩ = some (.int .i64 k) ∧ W.cell? ⟨w.heap.size, 1, none⟩ = some (.int .i64 n) ∧ W.cell? ⟨w.heap.size, 2, none⟩ = some (.string s) ∧ W.cell? ⟨w.heap.size, 3, none⟩ = some (.bool b) ∧ W.cell? ⟨w.heap.size, 4, none⟩ = some (.int .i64 c)) := fun W hW => box12_cells hW
  have HX := hide (Below.refl (boxW w k n s b c).heap.size (boxW w k n s b c))
  have HRt : Hid (∀ W : World, Calls Tryz.prog 12 #[.agg #[.int .i64 k, .int .i64 n, .string s, .bool b, .int .i64 c]] W fun e w' => e = .returned (.bool true) ∧ Below W.heap.size W w') := fun W => by have := rright_any k n s b c W hz; rwa [hr] at this
  clear hv2
  generalize (wordsV k n s b c).1 = x at *
  have hk2 : (k == 2) = false := by rw [beq_eq_false_iff_ne]; omega
  have hk3 : (k == 3) = false := by rw [beq_eq_false_iff_ne]; omega
  have hk2n : ¬ k = 2 := by omega
  have hk3n : ¬ k = 3 := by omega
  clear hk
  have HWu := hide hWu
  have hal : decide ((leftS ss).length = 1) = true := by rw [hal0]; rfl
  have HSz : Hid (∀ W : World, Calls Tryz.prog 18 #[.int .i64 n] W fun e w' => e = .returned (.int .i64 (absI n)) ∧ w' = W) := fun W => rsize_any n W n1 n2
  have hkk : ((kk (kindS ps) : Nat) : Int) = ((kindS ps : Nat) : Int) := by rcases hkd with e | e <;> rw [e] <;> rfl
  have hd2 : (((kindS ps : Nat) : Int) == 2) = false := by rw [beq_eq_false_iff_ne]; omega
  have hd3 : (((kindS ps : Nat) : Int) != 2) = true := by rw [bne, hd2]; rfl
  have hd4 : ¬ ((kindS ps : Nat) : Int) = 2 := by omega
  have HFl := HSz
  have HA : Hid ((⟨#[45]⟩ : ByteArray) ++ ⟨T.toArray⟩ = ⟨(45 :: T).toArray⟩) := by show _ = _; rw [show (⟨#[45]⟩ : ByteArray) = ⟨[45].toArray⟩ from rfl, ba_app]; rfl
  have szT := mk_size T
  have m1 : (9223372036854775807 < 1 + T.length) = False := eq_false (by omega)
  clear hWu hkd
  unfold boxW at HR HB HQ HX
  clear ho hz hr
  go_enter Tryz.func5, Tryz.ntmps5
  generalize absI n = N at *
  generalize ((kindS ps : Nat) : Int) = kv at *
  go_wp2_with (first | (go_at_call 11; refine HR.out.mono ?_; rintro e w1 ⟨⟨g, cap, G, C, rfl, hrr, hG⟩, hb1⟩; obtain ⟨q0, q1, q2, q3, q4⟩ := HQ.out _ hb1; obtain ⟨up, ul, uc, hPc, hPk⟩ := (pick_calls n hrr hG HSF.out hss3).2 ps hps; have HPk := hide hPk; have HKd := hide (fun W hW => kind_calls hsf W (hPc W hW)); have HWr := hide (fun W hW => HWu.out _ W (hPc W hW)); clear hPc hPk; rw [hkk] at HKd; rw [hal] at HPk; have HX1 := hide hb1; have HB1 := hide (upW HB.out hb1); have HY := hide (Below.refl w1.heap.size w1); clear hrr hG hb1 HR HB HX) | (go_at_call 12; refine (HRt.out _).mono ?_; rintro e w2 ⟨rfl, hb2⟩; replace HY := hide (upW HY.out hb2); obtain ⟨q0, q1, q2, q3, q4⟩ := HQ.out _ (upW HX1.out HY.out); clear hb2) | (go_at_call 13; refine (HWd.out _).mono ?_; rintro e w3 ⟨rfl, hb2⟩; replace HY := hide (upW HY.out hb2); obtain ⟨q0, q1, q2, q3, q4⟩ := HQ.out _ (upW HX1.out HY.out); clear hb2) | (go_at_call 16; refine (HPk.out _ HY.out).mono ?_; rintro e w4 ⟨rfl, hb2⟩; replace HY := hide (upW HY.out hb2); obtain ⟨q0, q1, q2, q3, q4⟩ := HQ.out _ (upW HX1.out HY.out); clear hb2; clear HPk) | (go_at_call 14; refine (HKd.out _ HY.out).mono ?_; rintro e w5 ⟨rfl, hb2⟩; replace HY := hide (upW HY.out hb2); obtain ⟨q0, q1, q2, q3, q4⟩ := HQ.out _ (upW HX1.out HY.out); clear hb2) | (go_at_call 17; refine (HFl.out _).mono ?_; rintro e wz ⟨rfl, hz⟩; subst wz) | (go_at_call 18; refine (HSz.out _).mono ?_; rintro e wz ⟨rfl, hz⟩; subst wz) | (go_at_call 15; refine (HWr.out _ HY.out).mono ?_; rintro e w6 ⟨rfl, hb2⟩; replace HY := hide (upW HY.out hb2); obtain ⟨q0, q1, q2, q3, q4⟩ := HQ.out _ (upW HX1.out HY.out); clear hb2))
  go_ret2
  exact ⟨ret_sn HA.out rfl, upW HB1.out HY.out⟩
end Go.Proofs.YtnhaapcpklfkpaaGreatDoor
namespace Go.Proofs.YtnhaapcpklfkpaaGreatDoor
open Go.RowKit
set_option linter.unusedSimpArgs false

set_option maxRecDepth 100000 in
set_option maxHeartbeats 8000000 in
theorem rApply_far_00 (S : List UInt8) (k n : Int) (s : ByteArray) (b : Bool) (c : Int) (ss : List (List Pc)) (w : World) (ho : secsOpt S = some ss) (hz : s.size ≤ maxLen) (ps : List Pc) (T : List UInt8) (hr : rightB k n s b c = true) (hk : k = 0 ∨ k = 1) (hps : (leftS ss)[chosenR (leftS ss).length n]? = some ps) (hsf : SecF ps) (hkd : kindS ps = 0 ∨ kindS ps = 1) (hal0 : ¬ (leftS ss).length = 1) (_hn : ¬ n < 0)
    (hWu : ∀ (u : Value) (W : World), PcsAt W u (ps.map kkP) → Calls Tryz.prog 15 #[u, .int .i64 (absI n), .int .i64 0, .string ⟨#[]⟩] W fun e w' => e = .returned (.tuple #[.string ⟨T.toArray⟩, .int .i64 5]) ∧ Below W.heap.size W w')  (hTe : T = []) :
    Calls Tryz.prog 5 #[.string ⟨S.toArray⟩, .agg #[.int .i64 k, .int .i64 n, .string s, .bool b, .int .i64 c]] w fun e w' => e = .returned (.tuple #[.string ⟨#[]⟩, .int .i64 5]) ∧ Below w.heap.size w w' := by
  obtain ⟨hv2, hfit⟩ := words_num hr hk
  obtain ⟨n1, n2⟩ := fitsB_true hfit
  obtain ⟨_, hss1, hss3⟩ := sane_of ho
  have HSF := hide (secF_of ho)
  have HWd : Hid (∀ W : World, Calls Tryz.prog 13 #[.agg #[.int .i64 k, .int .i64 n, .string s, .bool b, .int .i64 c]] W fun e w' => e = .returned (.tuple #[.string ⟨(wordsV k n s b c).1.toArray⟩, .int .i64 0]) ∧ Below W.heap.size W w') := fun W => by have := rwordsV_any k n s b c W hz; rwa [hv2] at this
  have HR := hide (read_some ho (boxW w k n s b c))
  have HB := hide (box12_below w k n s b c)
  have HQ : Hid (∀ W : World, Below (boxW w k n s b c).heap.size (boxW w k n s b c) W → W.cell? ⟨w.heap.size, 0, none⟩ = some (.int .i64 k) ∧ W.cell? ⟨w.heap.size, 1, none⟩ = some (.int .i64 n) ∧ W.cell? ⟨w.heap.size, 2, none⟩ = some (.string s) ∧ W.cell? ⟨w.heap.size, 3, none⟩ = some (.bool b) ∧ W.cell? ⟨w.heap.size, 4, none⟩ = some (.int .i64 c)) := fun W hW => box12_cells hW
  have HX := hide (Below.refl (boxW w k n s b c).heap.size (boxW w k n s b c))
  have HRt : Hid (∀ W : World, Calls Tryz.prog 12 #[.agg #[.int .i64 k, .int .i64 n, .string s, .bool b, .int .i64 c]] W fun e w' => e = .returned (.bool true) ∧ Below W.heap.size W w') := fun W => by have := rright_any k n s b c W hz; rwa [hr] at this
  clear hv2
  generalize (wordsV k n s b c).1 = x at *
  have hk2 : (k == 2) = false := by rw [beq_eq_false_iff_ne]; omega
  have hk3 : (k == 3) = false := by rw [beq_eq_false_iff_ne]; omega
  have hk2n : ¬ k = 2 := by omega
  have hk3n : ¬ k = 3 := by omega
  clear hk
  have HWu := hide hWu
  have hal : decide ((leftS ss).length = 1) = false := by exact decide_eq_false hal0
  have HSz : Hid (∀ W : World, Calls Tryz.prog 18 #[.int .i64 n] W fun e w' => e = .returned (.int .i64 (absI n)) ∧ w' = W) := fun W => rsize_any n W n1 n2
  have hkk : ((kk (kindS ps) : Nat) : Int) = ((kindS ps : Nat) : Int) := by rcases hkd with e | e <;> rw [e] <;> rfl
  have hd2 : (((kindS ps : Nat) : Int) == 2) = false := by rw [beq_eq_false_iff_ne]; omega
  have hd3 : (((kindS ps : Nat) : Int) != 2) = true := by rw [bne, hd2]; rfl
  have hd4 : ¬ ((kindS ps : Nat) : Int) = 2 := by omega
  have HFl := HSz
  subst hTe
  clear hWu hkd
  unfold boxW at HR HB HQ HX
  clear ho hz hr
  go_enter Tryz.func5, Tryz.ntmps5
  generalize absI n = N at *
  generalize ((kindS ps : Nat) : Int) = kv at *
  go_wp2_with (first | (go_at_call 11; refine HR.out.mono ?_; rintro e w1 ⟨⟨g, cap, G, C, rfl, hrr, hG⟩, hb1⟩; obtain ⟨q0, q1, q2, q3, q4⟩ := HQ.out _ hb1; obtain ⟨up, ul, uc, hPc, hPk⟩ := (pick_calls n hrr hG HSF.out hss3).2 ps hps; have HPk := hide hPk; have HKd := hide (fun W hW => kind_calls hsf W (hPc W hW)); have HWr := hide (fun W hW => HWu.out _ W (hPc W hW)); clear hPc hPk; rw [hkk] at HKd; rw [hal] at HPk; have HX1 := hide hb1; have HB1 := hide (upW HB.out hb1); have HY := hide (Below.refl w1.heap.size w1); clear hrr hG hb1 HR HB HX) | (go_at_call 12; refine (HRt.out _).mono ?_; rintro e w2 ⟨rfl, hb2⟩; replace HY := hide (upW HY.out hb2); obtain ⟨q0, q1, q2, q3, q4⟩ := HQ.out _ (upW HX1.out HY.out); clear hb2) | (go_at_call 13; refine (HWd.out _).mono ?_; rintro e w3 ⟨rfl, hb2⟩; replace HY := hide (upW HY.out hb2); obtain ⟨q0, q1, q2, q3, q4⟩ := HQ.out _ (upW HX1.out HY.out); clear hb2) | (go_at_call 16; refine (HPk.out _ HY.out).mono ?_; rintro e w4 ⟨rfl, hb2⟩; replace HY := hide (upW HY.out hb2); obtain ⟨q0, q1, q2, q3, q4⟩ := HQ.out _ (upW HX1.out HY.out); clear hb2; clear HPk) | (go_at_call 14; refine (HKd.out _ HY.out).mono ?_; rintro e w5 ⟨rfl, hb2⟩; replace HY := hide (upW HY.out hb2); obtain ⟨q0, q1, q2, q3, q4⟩ := HQ.out _ (upW HX1.out HY.out); clear hb2) | (go_at_call 17; refine (HFl.out _).mono ?_; rintro e wz ⟨rfl, hz⟩; subst wz) | (go_at_call 18; refine (HSz.out _).mono ?_; rintro e wz ⟨rfl, hz⟩; subst wz) | (go_at_call 15; refine (HWr.out _ HY.out).mono ?_; rintro e w6 ⟨rfl, hb2⟩; replace HY := hide (upW HY.out hb2); obtain ⟨q0, q1, q2, q3, q4⟩ := HQ.out _ (upW HX1.out HY.out); clear hb2))
  go_ret2
  exact ⟨rfl, upW HB1.out HY.out⟩
set_option maxRecDepth 100000 in
set_option maxHeartbeats 8000000 in
theorem rApply_far_01 (S : List UInt8) (k n : Int) (s : ByteArray) (b : Bool) (c : Int) (ss : List (List Pc)) (w : World) (ho : secsOpt S = some ss) (hz : s.size ≤ maxLen) (ps : List Pc) (T : List UInt8) (hr : rightB k n s b c = true) (hk : k = 0 ∨ k = 1) (hps : (leftS ss)[chosenR (leftS ss).length n]? = some ps) (hsf : SecF ps) (hkd : kindS ps = 0 ∨ kindS ps = 1) (hal0 : ¬ (leftS ss).length = 1) (_hn : n < 0)
    (hWu : ∀ (u : Value) (W : World), PcsAt W u (ps.map kkP) → Calls Tryz.prog 15 #[u, .int .i64 (absI n), .int .i64 0, .string ⟨#[]⟩] W fun e w' => e = .returned (.tuple #[.string ⟨T.toArray⟩, .int .i64 5]) ∧ Below W.heap.size W w')  (hTe : T = []) :
    Calls Tryz.prog 5 #[.string ⟨S.toArray⟩, .agg #[.int .i64 k, .int .i64 n, .string s, .bool b, .int .i64 c]] w fun e w' => e = .returned (.tuple #[.string ⟨#[]⟩, .int .i64 5]) ∧ Below w.heap.size w w' := by
  obtain ⟨hv2, hfit⟩ := words_num hr hk
  obtain ⟨n1, n2⟩ := fitsB_true hfit
  obtain ⟨_, hss1, hss3⟩ := sane_of ho
  have HSF := hide (secF_of ho)
  have HWd : Hid (∀ W : World, Calls Tryz.prog 13 #[.agg #[.int .i64 k, .int .i64 n, .string s, .bool b, .int .i64 c]] W fun e w' => e = .returned (.tuple #[.string ⟨(wordsV k n s b c).1.toArray⟩, .int .i64 0]) ∧ Below W.heap.size W w') := fun W => by have := rwordsV_any k n s b c W hz; rwa [hv2] at this
  have HR := hide (read_some ho (boxW w k n s b c))
  have HB := hide (box12_below w k n s b c)
  have HQ : Hid (∀ W : World, Below (boxW w k n s b c).heap.size (boxW w k n s b c) W → W.cell? ⟨w.heap.size, 0, none⟩ = some (.int .i64 k) ∧ W.cell? ⟨w.heap.size, 1, none⟩ = some (.int .i64 n) ∧ W.cell? ⟨w.heap.size, 2, none⟩ = some (.string s) ∧ W.cell? ⟨w.heap.size, 3, none⟩ = some (.bool b) ∧ W.cell? ⟨w.heap.size, 4, none⟩ = some (.int .i64 c)) := fun W hW => box12_cells hW
  have HX := hide (Below.refl (boxW w k n s b c).heap.size (boxW w k n s b c))
  have HRt : Hid (∀ W : World, Calls Tryz.prog 12 #[.agg #[.int .i64 k, .int .i64 n, .string s, .bool b, .int .i64 c]] W fun e w' => e = .returned (.bool true) ∧ Below W.heap.size W w') := fun W => by have := rright_any k n s b c W hz; rwa [hr] at this
  clear hv2
  generalize (wordsV k n s b c).1 = x at *
  have hk2 : (k == 2) = false := by rw [beq_eq_false_iff_ne]; omega
  have hk3 : (k == 3) = false := by rw [beq_eq_false_iff_ne]; omega
  have hk2n : ¬ k = 2 := by omega
  have hk3n : ¬ k = 3 := by omega
  clear hk
  have HWu := hide hWu
  have hal : decide ((leftS ss).length = 1) = false := by exact decide_eq_false hal0
  have HSz : Hid (∀ W : World, Calls Tryz.prog 18 #[.int .i64 n] W fun e w' => e = .returned (.int .i64 (absI n)) ∧ w' = W) := fun W => rsize_any n W n1 n2
  have hkk : ((kk (kindS ps) : Nat) : Int) = ((kindS ps : Nat) : Int) := by rcases hkd with e | e <;> rw [e] <;> rfl
  have hd2 : (((kindS ps : Nat) : Int) == 2) = false := by rw [beq_eq_false_iff_ne]; omega
  have hd3 : (((kindS ps : Nat) : Int) != 2) = true := by rw [bne, hd2]; rfl
  have hd4 : ¬ ((kindS ps : Nat) : Int) = 2 := by omega
  have HFl := HSz
  subst hTe
  clear hWu hkd
  unfold boxW at HR HB HQ HX
  clear ho hz hr
  go_enter Tryz.func5, Tryz.ntmps5
  generalize absI n = N at *
  generalize ((kindS ps : Nat) : Int) = kv at *
  go_wp2_with (first | (go_at_call 11; refine HR.out.mono ?_; rintro e w1 ⟨⟨g, cap, G, C, rfl, hrr, hG⟩, hb1⟩; obtain ⟨q0, q1, q2, q3, q4⟩ := HQ.out _ hb1; obtain ⟨up, ul, uc, hPc, hPk⟩ := (pick_calls n hrr hG HSF.out hss3).2 ps hps; have HPk := hide hPk; have HKd := hide (fun W hW => kind_calls hsf W (hPc W hW)); have HWr := hide (fun W hW => HWu.out _ W (hPc W hW)); clear hPc hPk; rw [hkk] at HKd; rw [hal] at HPk; have HX1 := hide hb1; have HB1 := hide (upW HB.out hb1); have HY := hide (Below.refl w1.heap.size w1); clear hrr hG hb1 HR HB HX) | (go_at_call 12; refine (HRt.out _).mono ?_; rintro e w2 ⟨rfl, hb2⟩; replace HY := hide (upW HY.out hb2); obtain ⟨q0, q1, q2, q3, q4⟩ := HQ.out _ (upW HX1.out HY.out); clear hb2) | (go_at_call 13; refine (HWd.out _).mono ?_; rintro e w3 ⟨rfl, hb2⟩; replace HY := hide (upW HY.out hb2); obtain ⟨q0, q1, q2, q3, q4⟩ := HQ.out _ (upW HX1.out HY.out); clear hb2) | (go_at_call 16; refine (HPk.out _ HY.out).mono ?_; rintro e w4 ⟨rfl, hb2⟩; replace HY := hide (upW HY.out hb2); obtain ⟨q0, q1, q2, q3, q4⟩ := HQ.out _ (upW HX1.out HY.out); clear hb2; clear HPk) | (go_at_call 14; refine (HKd.out _ HY.out).mono ?_; rintro e w5 ⟨rfl, hb2⟩; replace HY := hide (upW HY.out hb2); obtain ⟨q0, q1, q2, q3, q4⟩ := HQ.out _ (upW HX1.out HY.out); clear hb2) | (go_at_call 17; refine (HFl.out _).mono ?_; rintro e wz ⟨rfl, hz⟩; subst wz) | (go_at_call 18; refine (HSz.out _).mono ?_; rintro e wz ⟨rfl, hz⟩; subst wz) | (go_at_call 15; refine (HWr.out _ HY.out).mono ?_; rintro e w6 ⟨rfl, hb2⟩; replace HY := hide (upW HY.out hb2); obtain ⟨q0, q1, q2, q3, q4⟩ := HQ.out _ (upW HX1.out HY.out); clear hb2))
  go_ret2
  exact ⟨rfl, upW HB1.out HY.out⟩
set_option maxRecDepth 100000 in
set_option maxHeartbeats 8000000 in
theorem rApply_far_10 (S : List UInt8) (k n : Int) (s : ByteArray) (b : Bool) (c : Int) (ss : List (List Pc)) (w : World) (ho : secsOpt S = some ss) (hz : s.size ≤ maxLen) (ps : List Pc) (T : List UInt8) (hr : rightB k n s b c = true) (hk : k = 0 ∨ k = 1) (hps : (leftS ss)[chosenR (leftS ss).length n]? = some ps) (hsf : SecF ps) (hkd : kindS ps = 0 ∨ kindS ps = 1) (hal0 : (leftS ss).length = 1) (_hn : ¬ n < 0)
    (hWu : ∀ (u : Value) (W : World), PcsAt W u (ps.map kkP) → Calls Tryz.prog 15 #[u, .int .i64 (absI n), .int .i64 0, .string ⟨#[]⟩] W fun e w' => e = .returned (.tuple #[.string ⟨T.toArray⟩, .int .i64 5]) ∧ Below W.heap.size W w')  (hTe : T = []) :
    Calls Tryz.prog 5 #[.string ⟨S.toArray⟩, .agg #[.int .i64 k, .int .i64 n, .string s, .bool b, .int .i64 c]] w fun e w' => e = .returned (.tuple #[.string ⟨#[]⟩, .int .i64 5]) ∧ Below w.heap.size w w' := by
  obtain ⟨hv2, hfit⟩ := words_num hr hk
  obtain ⟨n1, n2⟩ := fitsB_true hfit
  obtain ⟨_, hss1, hss3⟩ := sane_of ho
  have HSF := hide (secF_of ho)
  have HWd : Hid (∀ W : World, Calls Tryz.prog 13 #[.agg #[.int .i64 k, .int .i64 n, .string s, .bool b, .int .i64 c]] W fun e w' => e = .returned (.tuple #[.string ⟨(wordsV k n s b c).1.toArray⟩, .int .i64 0]) ∧ Below W.heap.size W w') := fun W => by have := rwordsV_any k n s b c W hz; rwa [hv2] at this
  have HR := hide (read_some ho (boxW w k n s b c))
  have HB := hide (box12_below w k n s b c)
  have HQ : Hid (∀ W : World, Below (boxW w k n s b c).heap.size (boxW w k n s b c) W → W.cell? ⟨w.heap.size, 0, none⟩ = some (.int .i64 k) ∧ W.cell? ⟨w.heap.size, 1, none⟩ = some (.int .i64 n) ∧ W.cell? ⟨w.heap.size, 2, none⟩ = some (.string s) ∧ W.cell? ⟨w.heap.size, 3, none⟩ = some (.bool b) ∧ W.cell? ⟨w.heap.size, 4, none⟩ = some (.int .i64 c)) := fun W hW => box12_cells hW
  have HX := hide (Below.refl (boxW w k n s b c).heap.size (boxW w k n s b c))
  have HRt : Hid (∀ W : World, Calls Tryz.prog 12 #[.agg #[.int .i64 k, .int .i64 n, .string s, .bool b, .int .i64 c]] W fun e w' => e = .returned (.bool true) ∧ Below W.heap.size W w') := fun W => by have := rright_any k n s b c W hz; rwa [hr] at this
  clear hv2
  generalize (wordsV k n s b c).1 = x at *
  have hk2 : (k == 2) = false := by rw [beq_eq_false_iff_ne]; omega
  have hk3 : (k == 3) = false := by rw [beq_eq_false_iff_ne]; omega
  have hk2n : ¬ k = 2 := by omega
  have hk3n : ¬ k = 3 := by omega
  clear hk
  have HWu := hide hWu
  have hal : decide ((leftS ss).length = 1) = true := by rw [hal0]; rfl
  have HSz : Hid (∀ W : World, Calls Tryz.prog 18 #[.int .i64 n] W fun e w' => e = .returned (.int .i64 (absI n)) ∧ w' = W) := fun W => rsize_any n W n1 n2
  have hkk : ((kk (kindS ps) : Nat) : Int) = ((kindS ps : Nat) : Int) := by rcases hkd with e | e <;> rw [e] <;> rfl
  have hd2 : (((kindS ps : Nat) : Int) == 2) = false := by rw [beq_eq_false_iff_ne]; omega
  have hd3 : (((kindS ps : Nat) : Int) != 2) = true := by rw [bne, hd2]; rfl
  have hd4 : ¬ ((kindS ps : Nat) : Int) = 2 := by omega
  have HFl := HSz
  subst hTe
  clear hWu hkd
  unfold boxW at HR HB HQ HX
  clear ho hz hr
  go_enter Tryz.func5, Tryz.ntmps5
  generalize absI n = N at *
  generalize ((kindS ps : Nat) : Int) = kv at *
  go_wp2_with (first | (go_at_call 11; refine HR.out.mono ?_; rintro e w1 ⟨⟨g, cap, G, C, rfl, hrr, hG⟩, hb1⟩; obtain ⟨q0, q1, q2, q3, q4⟩ := HQ.out _ hb1; obtain ⟨up, ul, uc, hPc, hPk⟩ := (pick_calls n hrr hG HSF.out hss3).2 ps hps; have HPk := hide hPk; have HKd := hide (fun W hW => kind_calls hsf W (hPc W hW)); have HWr := hide (fun W hW => HWu.out _ W (hPc W hW)); clear hPc hPk; rw [hkk] at HKd; rw [hal] at HPk; have HX1 := hide hb1; have HB1 := hide (upW HB.out hb1); have HY := hide (Below.refl w1.heap.size w1); clear hrr hG hb1 HR HB HX) | (go_at_call 12; refine (HRt.out _).mono ?_; rintro e w2 ⟨rfl, hb2⟩; replace HY := hide (upW HY.out hb2); obtain ⟨q0, q1, q2, q3, q4⟩ := HQ.out _ (upW HX1.out HY.out); clear hb2) | (go_at_call 13; refine (HWd.out _).mono ?_; rintro e w3 ⟨rfl, hb2⟩; replace HY := hide (upW HY.out hb2); obtain ⟨q0, q1, q2, q3, q4⟩ := HQ.out _ (upW HX1.out HY.out); clear hb2) | (go_at_call 16; refine (HPk.out _ HY.out).mono ?_; rintro e w4 ⟨rfl, hb2⟩; replace HY := hide (upW HY.out hb2); obtain ⟨q0, q1, q2, q3, q4⟩ := HQ.out _ (upW HX1.out HY.out); clear hb2; clear HPk) | (go_at_call 14; refine (HKd.out _ HY.out).mono ?_; rintro e w5 ⟨rfl, hb2⟩; replace HY := hide (upW HY.out hb2); obtain ⟨q0, q1, q2, q3, q4⟩ := HQ.out _ (upW HX1.out HY.out); clear hb2) | (go_at_call 17; refine (HFl.out _).mono ?_; rintro e wz ⟨rfl, hz⟩; subst wz) | (go_at_call 18; refine (HSz.out _).mono ?_; rintro e wz ⟨rfl, hz⟩; subst wz) | (go_at_call 15; refine (HWr.out _ HY.out).mono ?_; rintro e w6 ⟨rfl, hb2⟩; replace HY := hide (upW HY.out hb2); obtain ⟨q0, q1, q2, q3, q4⟩ := HQ.out _ (upW HX1.out HY.out); clear hb2))
  go_ret2
  exact ⟨rfl, upW HB1.out HY.out⟩
set_option maxRecDepth 100000 in
set_option maxHeartbeats 8000000 in
theorem rApply_far_11 (S : List UInt8) (k n : Int) (s : ByteArray) (b : Bool) (c : Int) (ss : List (List Pc)) (w : World) (ho : secsOpt S = some ss) (hz : s.size ≤ maxLen) (ps : List Pc) (T : List UInt8) (hr : rightB k n s b c = true) (hk : k = 0 ∨ k = 1) (hps : (leftS ss)[chosenR (leftS ss).length n]? = some ps) (hsf : SecF ps) (hkd : kindS ps = 0 ∨ kindS ps = 1) (hal0 : (leftS ss).length = 1) (_hn : n < 0)
    (hWu : ∀ (u : Value) (W : World), PcsAt W u (ps.map kkP) → Calls Tryz.prog 15 #[u, .int .i64 (absI n), .int .i64 0, .string ⟨#[]⟩] W fun e w' => e = .returned (.tuple #[.string ⟨T.toArray⟩, .int .i64 5]) ∧ Below W.heap.size W w')  (hTe : T = []) :
    Calls Tryz.prog 5 #[.string ⟨S.toArray⟩, .agg #[.int .i64 k, .int .i64 n, .string s, .bool b, .int .i64 c]] w fun e w' => e = .returned (.tuple #[.string ⟨#[]⟩, .int .i64 5]) ∧ Below w.heap.size w w' := by
  obtain ⟨hv2, hfit⟩ := words_num hr hk
  obtain ⟨n1, n2⟩ := fitsB_true hfit
  obtain ⟨_, hss1, hss3⟩ := sane_of ho
  have HSF := hide (secF_of ho)
  have HWd : Hid (∀ W : World, Calls Tryz.prog 13 #[.agg #[.int .i64 k, .int .i64 n, .string s, .bool b, .int .i64 c]] W fun e w' => e = .returned (.tuple #[.string ⟨(wordsV k n s b c).1.toArray⟩, .int .i64 0]) ∧ Below W.heap.size W w') := fun W => by have := rwordsV_any k n s b c W hz; rwa [hv2] at this
  have HR := hide (read_some ho (boxW w k n s b c))
  have HB := hide (box12_below w k n s b c)
  have HQ : Hid (∀ W : World, Below (boxW w k n s b c).heap.size (boxW w k n s b c) W → W.cell? ⟨w.heap.size, 0, none⟩ = some (.int .i64 k) ∧ W.cell? ⟨w.heap.size, 1, none⟩ = some (.int .i64 n) ∧ W.cell? ⟨w.heap.size, 2, none⟩ = some (.string s) ∧ W.cell? ⟨w.heap.size, 3, none⟩ = some (.bool b) ∧ W.cell? ⟨w.heap.size, 4, none⟩ = some (.int .i64 c)) := fun W hW => box12_cells hW
  have HX := hide (Below.refl (boxW w k n s b c).heap.size (boxW w k n s b c))
  have HRt : Hid (∀ W : World, Calls Tryz.prog 12 #[.agg #[.int .i64 k, .int .i64 n, .string s, .bool b, .int .i64 c]] W fun e w' => e = .returned (.bool true) ∧ Below W.heap.size W w') := fun W => by have := rright_any k n s b c W hz; rwa [hr] at this
  clear hv2
  generalize (wordsV k n s b c).1 = x at *
  have hk2 : (k == 2) = false := by rw [beq_eq_false_iff_ne]; omega
  have hk3 : (k == 3) = false := by rw [beq_eq_false_iff_ne]; omega
  have hk2n : ¬ k = 2 := by omega
  have hk3n : ¬ k = 3 := by omega
  clear hk
  have HWu := hide hWu
  have hal : decide ((leftS ss).length = 1) = true := by rw [hal0]; rfl
  have HSz : Hid (∀ W : World, Calls Tryz.prog 18 #[.int .i64 n] W fun e w' => e = .returned (.int .i64 (absI n)) ∧ w' = W) := fun W => rsize_any n W n1 n2
  have hkk : ((kk (kindS ps) : Nat) : Int) = ((kindS ps : Nat) : Int) := by rcases hkd with e | e <;> rw [e] <;> rfl
  have hd2 : (((kindS ps : Nat) : Int) == 2) = false := by rw [beq_eq_false_iff_ne]; omega
  have hd3 : (((kindS ps : Nat) : Int) != 2) = true := by rw [bne, hd2]; rfl
  have hd4 : ¬ ((kindS ps : Nat) : Int) = 2 := by omega
  have HFl := HSz
  subst hTe
  clear hWu hkd
  unfold boxW at HR HB HQ HX
  clear ho hz hr
  go_enter Tryz.func5, Tryz.ntmps5
  generalize absI n = N at *
  generalize ((kindS ps : Nat) : Int) = kv at *
  go_wp2_with (first | (go_at_call 11; refine HR.out.mono ?_; rintro e w1 ⟨⟨g, cap, G, C, rfl, hrr, hG⟩, hb1⟩; obtain ⟨q0, q1, q2, q3, q4⟩ := HQ.out _ hb1; obtain ⟨up, ul, uc, hPc, hPk⟩ := (pick_calls n hrr hG HSF.out hss3).2 ps hps; have HPk := hide hPk; have HKd := hide (fun W hW => kind_calls hsf W (hPc W hW)); have HWr := hide (fun W hW => HWu.out _ W (hPc W hW)); clear hPc hPk; rw [hkk] at HKd; rw [hal] at HPk; have HX1 := hide hb1; have HB1 := hide (upW HB.out hb1); have HY := hide (Below.refl w1.heap.size w1); clear hrr hG hb1 HR HB HX) | (go_at_call 12; refine (HRt.out _).mono ?_; rintro e w2 ⟨rfl, hb2⟩; replace HY := hide (upW HY.out hb2); obtain ⟨q0, q1, q2, q3, q4⟩ := HQ.out _ (upW HX1.out HY.out); clear hb2) | (go_at_call 13; refine (HWd.out _).mono ?_; rintro e w3 ⟨rfl, hb2⟩; replace HY := hide (upW HY.out hb2); obtain ⟨q0, q1, q2, q3, q4⟩ := HQ.out _ (upW HX1.out HY.out); clear hb2) | (go_at_call 16; refine (HPk.out _ HY.out).mono ?_; rintro e w4 ⟨rfl, hb2⟩; replace HY := hide (upW HY.out hb2); obtain ⟨q0, q1, q2, q3, q4⟩ := HQ.out _ (upW HX1.out HY.out); clear hb2; clear HPk) | (go_at_call 14; refine (HKd.out _ HY.out).mono ?_; rintro e w5 ⟨rfl, hb2⟩; replace HY := hide (upW HY.out hb2); obtain ⟨q0, q1, q2, q3, q4⟩ := HQ.out _ (upW HX1.out HY.out); clear hb2) | (go_at_call 17; refine (HFl.out _).mono ?_; rintro e wz ⟨rfl, hz⟩; subst wz) | (go_at_call 18; refine (HSz.out _).mono ?_; rintro e wz ⟨rfl, hz⟩; subst wz) | (go_at_call 15; refine (HWr.out _ HY.out).mono ?_; rintro e w6 ⟨rfl, hb2⟩; replace HY := hide (upW HY.out hb2); obtain ⟨q0, q1, q2, q3, q4⟩ := HQ.out _ (upW HX1.out HY.out); clear hb2))
  go_ret2
  exact ⟨rfl, upW HB1.out HY.out⟩
end Go.Proofs.YtnhaapcpklfkpaaGreatDoor
namespace Go.Proofs.YtnhaapcpklfkpaaGreatDoor
open Go.RowKit
set_option linter.unusedSimpArgs false

set_option maxRecDepth 100000 in
set_option maxHeartbeats 8000000 in
theorem rApply_day_00 (S : List UInt8) (k n : Int) (s : ByteArray) (b : Bool) (c : Int) (ss : List (List Pc)) (w : World) (ho : secsOpt S = some ss) (hz : s.size ≤ maxLen) (ps : List Pc) (T : List UInt8) (hr : rightB k n s b c = true) (hk : k = 0 ∨ k = 1) (hps : (leftS ss)[chosenR (leftS ss).length n]? = some ps) (hsf : SecF ps) (hkd : kindS ps = 3) (hal0 : ¬ (leftS ss).length = 1) (_hn : ¬ n < 0) (hd1 : 1 ≤ dayOf n) (hd5 : dayOf n ≤ 2958464)
    (hWu : ∀ (u : Value) (W : World), PcsAt W u (ps.map kkP) → Calls Tryz.prog 15 #[u, .int .i64 (absI n), .int .i64 (dayOf n), .string ⟨#[]⟩] W fun e w' => e = .returned (.tuple #[.string ⟨T.toArray⟩, .int .i64 0]) ∧ Below W.heap.size W w') :
    Calls Tryz.prog 5 #[.string ⟨S.toArray⟩, .agg #[.int .i64 k, .int .i64 n, .string s, .bool b, .int .i64 c]] w fun e w' => e = .returned (.tuple #[.string ⟨T.toArray⟩, .int .i64 0]) ∧ Below w.heap.size w w' := by
  obtain ⟨hv2, hfit⟩ := words_num hr hk
  obtain ⟨n1, n2⟩ := fitsB_true hfit
  obtain ⟨_, hss1, hss3⟩ := sane_of ho
  have HSF := hide (secF_of ho)
  have HWd : Hid (∀ W : World, Calls Tryz.prog 13 #[.agg #[.int .i64 k, .int .i64 n, .string s, .bool b, .int .i64 c]] W fun e w' => e = .returned (.tuple #[.string ⟨(wordsV k n s b c).1.toArray⟩, .int .i64 0]) ∧ Below W.heap.size W w') := fun W => by have := rwordsV_any k n s b c W hz; rwa [hv2] at this
  have HR := hide (read_some ho (boxW w k n s b c))
  have HB := hide (box12_below w k n s b c)
  have HQ : Hid (∀ W : World, Below (boxW w k n s b c).heap.size (boxW w k n s b c) W → W.cell? ⟨w.heap.size, 0, none⟩ = some (.int .i64 k) ∧ W.cell? ⟨w.heap.size, 1, none⟩ = some (.int .i64 n) ∧ W.cell? ⟨w.heap.size, 2, none⟩ = some (.string s) ∧ W.cell? ⟨w.heap.size, 3, none⟩ = some (.bool b) ∧ W.cell? ⟨w.heap.size, 4, none⟩ = some (.int .i64 c)) := fun W hW => box12_cells hW
  have HX := hide (Below.refl (boxW w k n s b c).heap.size (boxW w k n s b c))
  have HRt : Hid (∀ W : World, Calls Tryz.prog 12 #[.agg #[.int .i64 k, .int .i64 n, .string s, .bool b, .int .i64 c]] W fun e w' => e = .returned (.bool true) ∧ Below W.heap.size W w') := fun W => by have := rright_any k n s b c W hz; rwa [hr] at this
  clear hv2
  generalize (wordsV k n s b c).1 = x at *
  have hk2 : (k == 2) = false := by rw [beq_eq_false_iff_ne]; omega
  have hk3 : (k == 3) = false := by rw [beq_eq_false_iff_ne]; omega
  have hk2n : ¬ k = 2 := by omega
  have hk3n : ¬ k = 3 := by omega
  clear hk
  have HWu := hide hWu
  have hal : decide ((leftS ss).length = 1) = false := by exact decide_eq_false hal0
  have HSz : Hid (∀ W : World, Calls Tryz.prog 18 #[.int .i64 n] W fun e w' => e = .returned (.int .i64 (absI n)) ∧ w' = W) := fun W => rsize_any n W n1 n2
  have hkk : ((kk (kindS ps) : Nat) : Int) = 2 := by rw [hkd]; rfl
  have hf2 : (floorR n).2 = 0 := Classical.byContradiction fun h => by
    have := floor_two h
    unfold dayOf at hd1
    rw [this] at hd1
    have : Int.tdiv 0 1000000 = 0 := by decide
    omega
  have HFl : Hid (∀ W : World, Calls Tryz.prog 17 #[.int .i64 n] W fun e w' => e = .returned (.tuple #[.int .i64 (floorR n).1, .int .i64 0]) ∧ w' = W) := fun W => by have := rfloor_any n W; rwa [hf2] at this
  obtain ⟨f1, f2⟩ := floor_bd n
  have hdd : Int.tdiv (floorR n).1 1000000 = dayOf n := rfl
  have hdw : IntKind.i64.wrap (dayOf n) = dayOf n := by rw [IntKind.wrap_i64]; omega
  clear hWu hkd hf2
  unfold boxW at HR HB HQ HX
  clear ho hz hr
  go_enter Tryz.func5, Tryz.ntmps5
  generalize (floorR n).1 = F at *
  generalize dayOf n = D at *
  generalize absI n = N at *
  have e1 : ¬ D < 1 := by omega
  have e2 : ¬ 2958464 < D := by omega
  go_wp2_with (first | (go_at_call 11; refine HR.out.mono ?_; rintro e w1 ⟨⟨g, cap, G, C, rfl, hrr, hG⟩, hb1⟩; obtain ⟨q0, q1, q2, q3, q4⟩ := HQ.out _ hb1; obtain ⟨up, ul, uc, hPc, hPk⟩ := (pick_calls n hrr hG HSF.out hss3).2 ps hps; have HPk := hide hPk; have HKd := hide (fun W hW => kind_calls hsf W (hPc W hW)); have HWr := hide (fun W hW => HWu.out _ W (hPc W hW)); clear hPc hPk; rw [hkk] at HKd; rw [hal] at HPk; have HX1 := hide hb1; have HB1 := hide (upW HB.out hb1); have HY := hide (Below.refl w1.heap.size w1); clear hrr hG hb1 HR HB HX) | (go_at_call 12; refine (HRt.out _).mono ?_; rintro e w2 ⟨rfl, hb2⟩; replace HY := hide (upW HY.out hb2); obtain ⟨q0, q1, q2, q3, q4⟩ := HQ.out _ (upW HX1.out HY.out); clear hb2) | (go_at_call 13; refine (HWd.out _).mono ?_; rintro e w3 ⟨rfl, hb2⟩; replace HY := hide (upW HY.out hb2); obtain ⟨q0, q1, q2, q3, q4⟩ := HQ.out _ (upW HX1.out HY.out); clear hb2) | (go_at_call 16; refine (HPk.out _ HY.out).mono ?_; rintro e w4 ⟨rfl, hb2⟩; replace HY := hide (upW HY.out hb2); obtain ⟨q0, q1, q2, q3, q4⟩ := HQ.out _ (upW HX1.out HY.out); clear hb2; clear HPk) | (go_at_call 14; refine (HKd.out _ HY.out).mono ?_; rintro e w5 ⟨rfl, hb2⟩; replace HY := hide (upW HY.out hb2); obtain ⟨q0, q1, q2, q3, q4⟩ := HQ.out _ (upW HX1.out HY.out); clear hb2) | (go_at_call 17; refine (HFl.out _).mono ?_; rintro e wz ⟨rfl, hz⟩; subst wz) | (go_at_call 18; refine (HSz.out _).mono ?_; rintro e wz ⟨rfl, hz⟩; subst wz) | (go_at_call 15; refine (HWr.out _ HY.out).mono ?_; rintro e w6 ⟨rfl, hb2⟩; replace HY := hide (upW HY.out hb2); obtain ⟨q0, q1, q2, q3, q4⟩ := HQ.out _ (upW HX1.out HY.out); clear hb2))
  go_ret2
  exact ⟨rfl, upW HB1.out HY.out⟩
set_option maxRecDepth 100000 in
set_option maxHeartbeats 8000000 in
theorem rApply_day_01 (S : List UInt8) (k n : Int) (s : ByteArray) (b : Bool) (c : Int) (ss : List (List Pc)) (w : World) (ho : secsOpt S = some ss) (hz : s.size ≤ maxLen) (ps : List Pc) (T : List UInt8) (hr : rightB k n s b c = true) (hk : k = 0 ∨ k = 1) (hps : (leftS ss)[chosenR (leftS ss).length n]? = some ps) (hsf : SecF ps) (hkd : kindS ps = 3) (hal0 : ¬ (leftS ss).length = 1) (_hn : n < 0) (hd1 : 1 ≤ dayOf n) (hd5 : dayOf n ≤ 2958464)
    (hWu : ∀ (u : Value) (W : World), PcsAt W u (ps.map kkP) → Calls Tryz.prog 15 #[u, .int .i64 (absI n), .int .i64 (dayOf n), .string ⟨#[]⟩] W fun e w' => e = .returned (.tuple #[.string ⟨T.toArray⟩, .int .i64 0]) ∧ Below W.heap.size W w') :
    Calls Tryz.prog 5 #[.string ⟨S.toArray⟩, .agg #[.int .i64 k, .int .i64 n, .string s, .bool b, .int .i64 c]] w fun e w' => e = .returned (.tuple #[.string ⟨T.toArray⟩, .int .i64 0]) ∧ Below w.heap.size w w' := by
  obtain ⟨hv2, hfit⟩ := words_num hr hk
  obtain ⟨n1, n2⟩ := fitsB_true hfit
  obtain ⟨_, hss1, hss3⟩ := sane_of ho
  have HSF := hide (secF_of ho)
  have HWd : Hid (∀ W : World, Calls Tryz.prog 13 #[.agg #[.int .i64 k, .int .i64 n, .string s, .bool b, .int .i64 c]] W fun e w' => e = .returned (.tuple #[.string ⟨(wordsV k n s b c).1.toArray⟩, .int .i64 0]) ∧ Below W.heap.size W w') := fun W => by have := rwordsV_any k n s b c W hz; rwa [hv2] at this
  have HR := hide (read_some ho (boxW w k n s b c))
  have HB := hide (box12_below w k n s b c)
  have HQ : Hid (∀ W : World, Below (boxW w k n s b c).heap.size (boxW w k n s b c) W → W.cell? ⟨w.heap.size, 0, none⟩ = some (.int .i64 k) ∧ W.cell? ⟨w.heap.size, 1, none⟩ = some (.int .i64 n) ∧ W.cell? ⟨w.heap.size, 2, none⟩ = some (.string s) ∧ W.cell? ⟨w.heap.size, 3, none⟩ = some (.bool b) ∧ W.cell? ⟨w.heap.size, 4, none⟩ = some (.int .i64 c)) := fun W hW => box12_cells hW
  have HX := hide (Below.refl (boxW w k n s b c).heap.size (boxW w k n s b c))
  have HRt : Hid (∀ W : World, Calls Tryz.prog 12 #[.agg #[.int .i64 k, .int .i64 n, .string s, .bool b, .int .i64 c]] W fun e w' => e = .returned (.bool true) ∧ Below W.heap.size W w') := fun W => by have := rright_any k n s b c W hz; rwa [hr] at this
  clear hv2
  generalize (wordsV k n s b c).1 = x at *
  have hk2 : (k == 2) = false := by rw [beq_eq_false_iff_ne]; omega
  have hk3 : (k == 3) = false := by rw [beq_eq_false_iff_ne]; omega
  have hk2n : ¬ k = 2 := by omega
  have hk3n : ¬ k = 3 := by omega
  clear hk
  have HWu := hide hWu
  have hal : decide ((leftS ss).length = 1) = false := by exact decide_eq_false hal0
  have HSz : Hid (∀ W : World, Calls Tryz.prog 18 #[.int .i64 n] W fun e w' => e = .returned (.int .i64 (absI n)) ∧ w' = W) := fun W => rsize_any n W n1 n2
  have hkk : ((kk (kindS ps) : Nat) : Int) = 2 := by rw [hkd]; rfl
  have hf2 : (floorR n).2 = 0 := Classical.byContradiction fun h => by
    have := floor_two h
    unfold dayOf at hd1
    rw [this] at hd1
    have : Int.tdiv 0 1000000 = 0 := by decide
    omega
  have HFl : Hid (∀ W : World, Calls Tryz.prog 17 #[.int .i64 n] W fun e w' => e = .returned (.tuple #[.int .i64 (floorR n).1, .int .i64 0]) ∧ w' = W) := fun W => by have := rfloor_any n W; rwa [hf2] at this
  obtain ⟨f1, f2⟩ := floor_bd n
  have hdd : Int.tdiv (floorR n).1 1000000 = dayOf n := rfl
  have hdw : IntKind.i64.wrap (dayOf n) = dayOf n := by rw [IntKind.wrap_i64]; omega
  clear hWu hkd hf2
  unfold boxW at HR HB HQ HX
  clear ho hz hr
  go_enter Tryz.func5, Tryz.ntmps5
  generalize (floorR n).1 = F at *
  generalize dayOf n = D at *
  generalize absI n = N at *
  have e1 : ¬ D < 1 := by omega
  have e2 : ¬ 2958464 < D := by omega
  go_wp2_with (first | (go_at_call 11; refine HR.out.mono ?_; rintro e w1 ⟨⟨g, cap, G, C, rfl, hrr, hG⟩, hb1⟩; obtain ⟨q0, q1, q2, q3, q4⟩ := HQ.out _ hb1; obtain ⟨up, ul, uc, hPc, hPk⟩ := (pick_calls n hrr hG HSF.out hss3).2 ps hps; have HPk := hide hPk; have HKd := hide (fun W hW => kind_calls hsf W (hPc W hW)); have HWr := hide (fun W hW => HWu.out _ W (hPc W hW)); clear hPc hPk; rw [hkk] at HKd; rw [hal] at HPk; have HX1 := hide hb1; have HB1 := hide (upW HB.out hb1); have HY := hide (Below.refl w1.heap.size w1); clear hrr hG hb1 HR HB HX) | (go_at_call 12; refine (HRt.out _).mono ?_; rintro e w2 ⟨rfl, hb2⟩; replace HY := hide (upW HY.out hb2); obtain ⟨q0, q1, q2, q3, q4⟩ := HQ.out _ (upW HX1.out HY.out); clear hb2) | (go_at_call 13; refine (HWd.out _).mono ?_; rintro e w3 ⟨rfl, hb2⟩; replace HY := hide (upW HY.out hb2); obtain ⟨q0, q1, q2, q3, q4⟩ := HQ.out _ (upW HX1.out HY.out); clear hb2) | (go_at_call 16; refine (HPk.out _ HY.out).mono ?_; rintro e w4 ⟨rfl, hb2⟩; replace HY := hide (upW HY.out hb2); obtain ⟨q0, q1, q2, q3, q4⟩ := HQ.out _ (upW HX1.out HY.out); clear hb2; clear HPk) | (go_at_call 14; refine (HKd.out _ HY.out).mono ?_; rintro e w5 ⟨rfl, hb2⟩; replace HY := hide (upW HY.out hb2); obtain ⟨q0, q1, q2, q3, q4⟩ := HQ.out _ (upW HX1.out HY.out); clear hb2) | (go_at_call 17; refine (HFl.out _).mono ?_; rintro e wz ⟨rfl, hz⟩; subst wz) | (go_at_call 18; refine (HSz.out _).mono ?_; rintro e wz ⟨rfl, hz⟩; subst wz) | (go_at_call 15; refine (HWr.out _ HY.out).mono ?_; rintro e w6 ⟨rfl, hb2⟩; replace HY := hide (upW HY.out hb2); obtain ⟨q0, q1, q2, q3, q4⟩ := HQ.out _ (upW HX1.out HY.out); clear hb2))
  go_ret2
  exact ⟨rfl, upW HB1.out HY.out⟩
set_option maxRecDepth 100000 in
set_option maxHeartbeats 8000000 in
theorem rApply_day_10 (S : List UInt8) (k n : Int) (s : ByteArray) (b : Bool) (c : Int) (ss : List (List Pc)) (w : World) (ho : secsOpt S = some ss) (hz : s.size ≤ maxLen) (ps : List Pc) (T : List UInt8) (hr : rightB k n s b c = true) (hk : k = 0 ∨ k = 1) (hps : (leftS ss)[chosenR (leftS ss).length n]? = some ps) (hsf : SecF ps) (hkd : kindS ps = 3) (hal0 : (leftS ss).length = 1) (_hn : ¬ n < 0) (hd1 : 1 ≤ dayOf n) (hd5 : dayOf n ≤ 2958464)
    (hWu : ∀ (u : Value) (W : World), PcsAt W u (ps.map kkP) → Calls Tryz.prog 15 #[u, .int .i64 (absI n), .int .i64 (dayOf n), .string ⟨#[]⟩] W fun e w' => e = .returned (.tuple #[.string ⟨T.toArray⟩, .int .i64 0]) ∧ Below W.heap.size W w') :
    Calls Tryz.prog 5 #[.string ⟨S.toArray⟩, .agg #[.int .i64 k, .int .i64 n, .string s, .bool b, .int .i64 c]] w fun e w' => e = .returned (.tuple #[.string ⟨T.toArray⟩, .int .i64 0]) ∧ Below w.heap.size w w' := by
  obtain ⟨hv2, hfit⟩ := words_num hr hk
  obtain ⟨n1, n2⟩ := fitsB_true hfit
  obtain ⟨_, hss1, hss3⟩ := sane_of ho
  have HSF := hide (secF_of ho)
  have HWd : Hid (∀ W : World, Calls Tryz.prog 13 #[.agg #[.int .i64 k, .int .i64 n, .string s, .bool b, .int .i64 c]] W fun e w' => e = .returned (.tuple #[.string ⟨(wordsV k n s b c).1.toArray⟩, .int .i64 0]) ∧ Below W.heap.size W w') := fun W => by have := rwordsV_any k n s b c W hz; rwa [hv2] at this
  have HR := hide (read_some ho (boxW w k n s b c))
  have HB := hide (box12_below w k n s b c)
  have HQ : Hid (∀ W : World, Below (boxW w k n s b c).heap.size (boxW w k n s b c) W → W.cell? ⟨w.heap.size, 0, none⟩ = some (.int .i64 k) ∧ W.cell? ⟨w.heap.size, 1, none⟩ = some (.int .i64 n) ∧ W.cell? ⟨w.heap.size, 2, none⟩ = some (.string s) ∧ W.cell? ⟨w.heap.size, 3, none⟩ = some (.bool b) ∧ W.cell? ⟨w.heap.size, 4, none⟩ = some (.int .i64 c)) := fun W hW => box12_cells hW
  have HX := hide (Below.refl (boxW w k n s b c).heap.size (boxW w k n s b c))
  have HRt : Hid (∀ W : World, Calls Tryz.prog 12 #[.agg #[.int .i64 k, .int .i64 n, .string s, .bool b, .int .i64 c]] W fun e w' => e = .returned (.bool true) ∧ Below W.heap.size W w') := fun W => by have := rright_any k n s b c W hz; rwa [hr] at this
  clear hv2
  generalize (wordsV k n s b c).1 = x at *
  have hk2 : (k == 2) = false := by rw [beq_eq_false_iff_ne]; omega
  have hk3 : (k == 3) = false := by rw [beq_eq_false_iff_ne]; omega
  have hk2n : ¬ k = 2 := by omega
  have hk3n : ¬ k = 3 := by omega
  clear hk
  have HWu := hide hWu
  have hal : decide ((leftS ss).length = 1) = true := by rw [hal0]; rfl
  have HSz : Hid (∀ W : World, Calls Tryz.prog 18 #[.int .i64 n] W fun e w' => e = .returned (.int .i64 (absI n)) ∧ w' = W) := fun W => rsize_any n W n1 n2
  have hkk : ((kk (kindS ps) : Nat) : Int) = 2 := by rw [hkd]; rfl
  have hf2 : (floorR n).2 = 0 := Classical.byContradiction fun h => by
    have := floor_two h
    unfold dayOf at hd1
    rw [this] at hd1
    have : Int.tdiv 0 1000000 = 0 := by decide
    omega
  have HFl : Hid (∀ W : World, Calls Tryz.prog 17 #[.int .i64 n] W fun e w' => e = .returned (.tuple #[.int .i64 (floorR n).1, .int .i64 0]) ∧ w' = W) := fun W => by have := rfloor_any n W; rwa [hf2] at this
  obtain ⟨f1, f2⟩ := floor_bd n
  have hdd : Int.tdiv (floorR n).1 1000000 = dayOf n := rfl
  have hdw : IntKind.i64.wrap (dayOf n) = dayOf n := by rw [IntKind.wrap_i64]; omega
  clear hWu hkd hf2
  unfold boxW at HR HB HQ HX
  clear ho hz hr
  go_enter Tryz.func5, Tryz.ntmps5
  generalize (floorR n).1 = F at *
  generalize dayOf n = D at *
  generalize absI n = N at *
  have e1 : ¬ D < 1 := by omega
  have e2 : ¬ 2958464 < D := by omega
  go_wp2_with (first | (go_at_call 11; refine HR.out.mono ?_; rintro e w1 ⟨⟨g, cap, G, C, rfl, hrr, hG⟩, hb1⟩; obtain ⟨q0, q1, q2, q3, q4⟩ := HQ.out _ hb1; obtain ⟨up, ul, uc, hPc, hPk⟩ := (pick_calls n hrr hG HSF.out hss3).2 ps hps; have HPk := hide hPk; have HKd := hide (fun W hW => kind_calls hsf W (hPc W hW)); have HWr := hide (fun W hW => HWu.out _ W (hPc W hW)); clear hPc hPk; rw [hkk] at HKd; rw [hal] at HPk; have HX1 := hide hb1; have HB1 := hide (upW HB.out hb1); have HY := hide (Below.refl w1.heap.size w1); clear hrr hG hb1 HR HB HX) | (go_at_call 12; refine (HRt.out _).mono ?_; rintro e w2 ⟨rfl, hb2⟩; replace HY := hide (upW HY.out hb2); obtain ⟨q0, q1, q2, q3, q4⟩ := HQ.out _ (upW HX1.out HY.out); clear hb2) | (go_at_call 13; refine (HWd.out _).mono ?_; rintro e w3 ⟨rfl, hb2⟩; replace HY := hide (upW HY.out hb2); obtain ⟨q0, q1, q2, q3, q4⟩ := HQ.out _ (upW HX1.out HY.out); clear hb2) | (go_at_call 16; refine (HPk.out _ HY.out).mono ?_; rintro e w4 ⟨rfl, hb2⟩; replace HY := hide (upW HY.out hb2); obtain ⟨q0, q1, q2, q3, q4⟩ := HQ.out _ (upW HX1.out HY.out); clear hb2; clear HPk) | (go_at_call 14; refine (HKd.out _ HY.out).mono ?_; rintro e w5 ⟨rfl, hb2⟩; replace HY := hide (upW HY.out hb2); obtain ⟨q0, q1, q2, q3, q4⟩ := HQ.out _ (upW HX1.out HY.out); clear hb2) | (go_at_call 17; refine (HFl.out _).mono ?_; rintro e wz ⟨rfl, hz⟩; subst wz) | (go_at_call 18; refine (HSz.out _).mono ?_; rintro e wz ⟨rfl, hz⟩; subst wz) | (go_at_call 15; refine (HWr.out _ HY.out).mono ?_; rintro e w6 ⟨rfl, hb2⟩; replace HY := hide (upW HY.out hb2); obtain ⟨q0, q1, q2, q3, q4⟩ := HQ.out _ (upW HX1.out HY.out); clear hb2))
  go_ret2
  exact ⟨rfl, upW HB1.out HY.out⟩
set_option maxRecDepth 100000 in
set_option maxHeartbeats 8000000 in
theorem rApply_day_11 (S : List UInt8) (k n : Int) (s : ByteArray) (b : Bool) (c : Int) (ss : List (List Pc)) (w : World) (ho : secsOpt S = some ss) (hz : s.size ≤ maxLen) (ps : List Pc) (T : List UInt8) (hr : rightB k n s b c = true) (hk : k = 0 ∨ k = 1) (hps : (leftS ss)[chosenR (leftS ss).length n]? = some ps) (hsf : SecF ps) (hkd : kindS ps = 3) (hal0 : (leftS ss).length = 1) (_hn : n < 0) (hd1 : 1 ≤ dayOf n) (hd5 : dayOf n ≤ 2958464)
    (hWu : ∀ (u : Value) (W : World), PcsAt W u (ps.map kkP) → Calls Tryz.prog 15 #[u, .int .i64 (absI n), .int .i64 (dayOf n), .string ⟨#[]⟩] W fun e w' => e = .returned (.tuple #[.string ⟨T.toArray⟩, .int .i64 0]) ∧ Below W.heap.size W w') :
    Calls Tryz.prog 5 #[.string ⟨S.toArray⟩, .agg #[.int .i64 k, .int .i64 n, .string s, .bool b, .int .i64 c]] w fun e w' => e = .returned (.tuple #[.string ⟨T.toArray⟩, .int .i64 0]) ∧ Below w.heap.size w w' := by
  obtain ⟨hv2, hfit⟩ := words_num hr hk
  obtain ⟨n1, n2⟩ := fitsB_true hfit
  obtain ⟨_, hss1, hss3⟩ := sane_of ho
  have HSF := hide (secF_of ho)
  have HWd : Hid (∀ W : World, Calls Tryz.prog 13 #[.agg #[.int .i64 k, .int .i64 n, .string s, .bool b, .int .i64 c]] W fun e w' => e = .returned (.tuple #[.string ⟨(wordsV k n s b c).1.toArray⟩, .int .i64 0]) ∧ Below W.heap.size W w') := fun W => by have := rwordsV_any k n s b c W hz; rwa [hv2] at this
  have HR := hide (read_some ho (boxW w k n s b c))
  have HB := hide (box12_below w k n s b c)
  have HQ : Hid (∀ W : World, Below (boxW w k n s b c).heap.size (boxW w k n s b c) W → W.cell? ⟨w.heap.size, 0, none⟩ = some (.int .i64 k) ∧ W.cell? ⟨w.heap.size, 1, none⟩ = some (.int .i64 n) ∧ W.cell? ⟨w.heap.size, 2, none⟩ = some (.string s) ∧ W.cell? ⟨w.heap.size, 3, none⟩ = some (.bool b) ∧ W.cell? ⟨w.heap.size, 4, none⟩ = some (.int .i64 c)) := fun W hW => box12_cells hW
  have HX := hide (Below.refl (boxW w k n s b c).heap.size (boxW w k n s b c))
  have HRt : Hid (∀ W : World, Calls Tryz.prog 12 #[.agg #[.int .i64 k, .int .i64 n, .string s, .bool b, .int .i64 c]] W fun e w' => e = .returned (.bool true) ∧ Below W.heap.size W w') := fun W => by have := rright_any k n s b c W hz; rwa [hr] at this
  clear hv2
  generalize (wordsV k n s b c).1 = x at *
  have hk2 : (k == 2) = false := by rw [beq_eq_false_iff_ne]; omega
  have hk3 : (k == 3) = false := by rw [beq_eq_false_iff_ne]; omega
  have hk2n : ¬ k = 2 := by omega
  have hk3n : ¬ k = 3 := by omega
  clear hk
  have HWu := hide hWu
  have hal : decide ((leftS ss).length = 1) = true := by rw [hal0]; rfl
  have HSz : Hid (∀ W : World, Calls Tryz.prog 18 #[.int .i64 n] W fun e w' => e = .returned (.int .i64 (absI n)) ∧ w' = W) := fun W => rsize_any n W n1 n2
  have hkk : ((kk (kindS ps) : Nat) : Int) = 2 := by rw [hkd]; rfl
  have hf2 : (floorR n).2 = 0 := Classical.byContradiction fun h => by
    have := floor_two h
    unfold dayOf at hd1
    rw [this] at hd1
    have : Int.tdiv 0 1000000 = 0 := by decide
    omega
  have HFl : Hid (∀ W : World, Calls Tryz.prog 17 #[.int .i64 n] W fun e w' => e = .returned (.tuple #[.int .i64 (floorR n).1, .int .i64 0]) ∧ w' = W) := fun W => by have := rfloor_any n W; rwa [hf2] at this
  obtain ⟨f1, f2⟩ := floor_bd n
  have hdd : Int.tdiv (floorR n).1 1000000 = dayOf n := rfl
  have hdw : IntKind.i64.wrap (dayOf n) = dayOf n := by rw [IntKind.wrap_i64]; omega
  clear hWu hkd hf2
  unfold boxW at HR HB HQ HX
  clear ho hz hr
  go_enter Tryz.func5, Tryz.ntmps5
  generalize (floorR n).1 = F at *
  generalize dayOf n = D at *
  generalize absI n = N at *
  have e1 : ¬ D < 1 := by omega
  have e2 : ¬ 2958464 < D := by omega
  go_wp2_with (first | (go_at_call 11; refine HR.out.mono ?_; rintro e w1 ⟨⟨g, cap, G, C, rfl, hrr, hG⟩, hb1⟩; obtain ⟨q0, q1, q2, q3, q4⟩ := HQ.out _ hb1; obtain ⟨up, ul, uc, hPc, hPk⟩ := (pick_calls n hrr hG HSF.out hss3).2 ps hps; have HPk := hide hPk; have HKd := hide (fun W hW => kind_calls hsf W (hPc W hW)); have HWr := hide (fun W hW => HWu.out _ W (hPc W hW)); clear hPc hPk; rw [hkk] at HKd; rw [hal] at HPk; have HX1 := hide hb1; have HB1 := hide (upW HB.out hb1); have HY := hide (Below.refl w1.heap.size w1); clear hrr hG hb1 HR HB HX) | (go_at_call 12; refine (HRt.out _).mono ?_; rintro e w2 ⟨rfl, hb2⟩; replace HY := hide (upW HY.out hb2); obtain ⟨q0, q1, q2, q3, q4⟩ := HQ.out _ (upW HX1.out HY.out); clear hb2) | (go_at_call 13; refine (HWd.out _).mono ?_; rintro e w3 ⟨rfl, hb2⟩; replace HY := hide (upW HY.out hb2); obtain ⟨q0, q1, q2, q3, q4⟩ := HQ.out _ (upW HX1.out HY.out); clear hb2) | (go_at_call 16; refine (HPk.out _ HY.out).mono ?_; rintro e w4 ⟨rfl, hb2⟩; replace HY := hide (upW HY.out hb2); obtain ⟨q0, q1, q2, q3, q4⟩ := HQ.out _ (upW HX1.out HY.out); clear hb2; clear HPk) | (go_at_call 14; refine (HKd.out _ HY.out).mono ?_; rintro e w5 ⟨rfl, hb2⟩; replace HY := hide (upW HY.out hb2); obtain ⟨q0, q1, q2, q3, q4⟩ := HQ.out _ (upW HX1.out HY.out); clear hb2) | (go_at_call 17; refine (HFl.out _).mono ?_; rintro e wz ⟨rfl, hz⟩; subst wz) | (go_at_call 18; refine (HSz.out _).mono ?_; rintro e wz ⟨rfl, hz⟩; subst wz) | (go_at_call 15; refine (HWr.out _ HY.out).mono ?_; rintro e w6 ⟨rfl, hb2⟩; replace HY := hide (upW HY.out hb2); obtain ⟨q0, q1, q2, q3, q4⟩ := HQ.out _ (upW HX1.out HY.out); clear hb2))
  go_ret2
  exact ⟨rfl, upW HB1.out HY.out⟩
end Go.Proofs.YtnhaapcpklfkpaaGreatDoor
namespace Go.Proofs.YtnhaapcpklfkpaaGreatDoor
open Go.RowKit
set_option linter.unusedSimpArgs false

set_option maxRecDepth 100000 in
set_option maxHeartbeats 8000000 in
theorem rApply_bad (S : List UInt8) (k n : Int) (s : ByteArray) (b : Bool) (c : Int) (ss : List (List Pc)) (w : World) (ho : secsOpt S = some ss) (hz : s.size ≤ maxLen) (ps : List Pc) (hr : rightB k n s b c = true) (hk : k = 0 ∨ k = 1) (hps : (leftS ss)[chosenR (leftS ss).length n]? = some ps) (hsf : SecF ps) (hkd : kindS ps = 3) (hf : ¬ (floorR n).2 = 0) :
    Calls Tryz.prog 5 #[.string ⟨S.toArray⟩, .agg #[.int .i64 k, .int .i64 n, .string s, .bool b, .int .i64 c]] w fun e w' => e = .returned (.tuple #[.string ⟨#[]⟩, .int .i64 2]) ∧ Below w.heap.size w w' := by
  obtain ⟨hv2, hfit⟩ := words_num hr hk
  obtain ⟨n1, n2⟩ := fitsB_true hfit
  obtain ⟨_, hss1, hss3⟩ := sane_of ho
  have HSF := hide (secF_of ho)
  have HWd : Hid (∀ W : World, Calls Tryz.prog 13 #[.agg #[.int .i64 k, .int .i64 n, .string s, .bool b, .int .i64 c]] W fun e w' => e = .returned (.tuple #[.string ⟨(wordsV k n s b c).1.toArray⟩, .int .i64 0]) ∧ Below W.heap.size W w') := fun W => by have := rwordsV_any k n s b c W hz; rwa [hv2] at this
  have HR := hide (read_some ho (boxW w k n s b c))
  have HB := hide (box12_below w k n s b c)
  have HQ : Hid (∀ W : World, Below (boxW w k n s b c).heap.size (boxW w k n s b c) W → W.cell? ⟨w.heap.size, 0, none⟩ = some (.int .i64 k) ∧ W.cell? ⟨w.heap.size, 1, none⟩ = some (.int .i64 n) ∧ W.cell? ⟨w.heap.size, 2, none⟩ = some (.string s) ∧ W.cell? ⟨w.heap.size, 3, none⟩ = some (.bool b) ∧ W.cell? ⟨w.heap.size, 4, none⟩ = some (.int .i64 c)) := fun W hW => box12_cells hW
  have HX := hide (Below.refl (boxW w k n s b c).heap.size (boxW w k n s b c))
  have HRt : Hid (∀ W : World, Calls Tryz.prog 12 #[.agg #[.int .i64 k, .int .i64 n, .string s, .bool b, .int .i64 c]] W fun e w' => e = .returned (.bool true) ∧ Below W.heap.size W w') := fun W => by have := rright_any k n s b c W hz; rwa [hr] at this
  clear hv2
  generalize (wordsV k n s b c).1 = x at *
  have hk2 : (k == 2) = false := by rw [beq_eq_false_iff_ne]; omega
  have hk3 : (k == 3) = false := by rw [beq_eq_false_iff_ne]; omega
  have hk2n : ¬ k = 2 := by omega
  have hk3n : ¬ k = 3 := by omega
  clear hk
  have HWu : Hid (∀ (u : Value) (W : World), PcsAt W u (ps.map kkP) → True) := fun _ _ _ => trivial
  have hkk : ((kk (kindS ps) : Nat) : Int) = 2 := by rw [hkd]; rfl
  have HFl : Hid (∀ W : World, Calls Tryz.prog 17 #[.int .i64 n] W fun e w' => e = .returned (.tuple #[.int .i64 (floorR n).1, .int .i64 (floorR n).2]) ∧ w' = W) := fun W => by have := rfloor_any n W; exact this
  obtain ⟨f1, f2⟩ := floor_bd n
  have hdd : Int.tdiv (floorR n).1 1000000 = dayOf n := rfl
  have hdb : -1000000000000000000 ≤ dayOf n ∧ dayOf n ≤ 1000000000000000000 := by
    rw [← hdd]
    rcases Int.le_total 0 (floorR n).1 with q | q
    · rw [Int.tdiv_eq_ediv_of_nonneg q]; omega
    · have := Int.neg_tdiv (floorR n).1 1000000
      rw [Int.tdiv_eq_ediv_of_nonneg (show 0 ≤ -(floorR n).1 by omega)] at this
      omega
  have hdw : IntKind.i64.wrap (dayOf n) = dayOf n := by rw [IntKind.wrap_i64]; omega
  have g2 : ((floorR n).2 == 0) = false := by rw [beq_eq_false_iff_ne]; exact hf
  have g3 : ((floorR n).2 != 0) = true := by rw [bne, g2]; rfl
  generalize (floorR n).2 = F2 at *

  generalize hal : decide ((leftS ss).length = 1) = AL
  clear hkd
  unfold boxW at HR HB HQ HX
  clear ho hz hr
  go_enter Tryz.func5, Tryz.ntmps5
  generalize (floorR n).1 = F at *
  generalize dayOf n = D at *

  go_wp2_with (first | (go_at_call 11; refine HR.out.mono ?_; rintro e w1 ⟨⟨g, cap, G, C, rfl, hrr, hG⟩, hb1⟩; obtain ⟨q0, q1, q2, q3, q4⟩ := HQ.out _ hb1; obtain ⟨up, ul, uc, hPc, hPk⟩ := (pick_calls n hrr hG HSF.out hss3).2 ps hps; have HPk := hide hPk; have HKd := hide (fun W hW => kind_calls hsf W (hPc W hW)); have HWr := hide (fun W hW => HWu.out _ W (hPc W hW)); clear hPc hPk; rw [hkk] at HKd; rw [hal] at HPk; have HX1 := hide hb1; have HB1 := hide (upW HB.out hb1); have HY := hide (Below.refl w1.heap.size w1); clear hrr hG hb1 HR HB HX) | (go_at_call 12; refine (HRt.out _).mono ?_; rintro e w2 ⟨rfl, hb2⟩; replace HY := hide (upW HY.out hb2); obtain ⟨q0, q1, q2, q3, q4⟩ := HQ.out _ (upW HX1.out HY.out); clear hb2) | (go_at_call 13; refine (HWd.out _).mono ?_; rintro e w3 ⟨rfl, hb2⟩; replace HY := hide (upW HY.out hb2); obtain ⟨q0, q1, q2, q3, q4⟩ := HQ.out _ (upW HX1.out HY.out); clear hb2) | (go_at_call 16; refine (HPk.out _ HY.out).mono ?_; rintro e w4 ⟨rfl, hb2⟩; replace HY := hide (upW HY.out hb2); obtain ⟨q0, q1, q2, q3, q4⟩ := HQ.out _ (upW HX1.out HY.out); clear hb2; clear HPk) | (go_at_call 14; refine (HKd.out _ HY.out).mono ?_; rintro e w5 ⟨rfl, hb2⟩; replace HY := hide (upW HY.out hb2); obtain ⟨q0, q1, q2, q3, q4⟩ := HQ.out _ (upW HX1.out HY.out); clear hb2) | (go_at_call 17; refine (HFl.out _).mono ?_; rintro e wz ⟨rfl, hz⟩; subst wz) | (go_at_call 18; refine (HSz.out _).mono ?_; rintro e wz ⟨rfl, hz⟩; subst wz) | (go_at_call 15; refine (HWr.out _ HY.out).mono ?_; rintro e w6 ⟨rfl, hb2⟩; replace HY := hide (upW HY.out hb2); obtain ⟨q0, q1, q2, q3, q4⟩ := HQ.out _ (upW HX1.out HY.out); clear hb2))
  go_ret2
  exact ⟨rfl, upW HB1.out HY.out⟩
set_option maxRecDepth 100000 in
set_option maxHeartbeats 8000000 in
theorem rApply_low (S : List UInt8) (k n : Int) (s : ByteArray) (b : Bool) (c : Int) (ss : List (List Pc)) (w : World) (ho : secsOpt S = some ss) (hz : s.size ≤ maxLen) (ps : List Pc) (hr : rightB k n s b c = true) (hk : k = 0 ∨ k = 1) (hps : (leftS ss)[chosenR (leftS ss).length n]? = some ps) (hsf : SecF ps) (hkd : kindS ps = 3) (hf : (floorR n).2 = 0) (hd1 : dayOf n < 1) :
    Calls Tryz.prog 5 #[.string ⟨S.toArray⟩, .agg #[.int .i64 k, .int .i64 n, .string s, .bool b, .int .i64 c]] w fun e w' => e = .returned (.tuple #[.string ⟨#[]⟩, .int .i64 2]) ∧ Below w.heap.size w w' := by
  obtain ⟨hv2, hfit⟩ := words_num hr hk
  obtain ⟨n1, n2⟩ := fitsB_true hfit
  obtain ⟨_, hss1, hss3⟩ := sane_of ho
  have HSF := hide (secF_of ho)
  have HWd : Hid (∀ W : World, Calls Tryz.prog 13 #[.agg #[.int .i64 k, .int .i64 n, .string s, .bool b, .int .i64 c]] W fun e w' => e = .returned (.tuple #[.string ⟨(wordsV k n s b c).1.toArray⟩, .int .i64 0]) ∧ Below W.heap.size W w') := fun W => by have := rwordsV_any k n s b c W hz; rwa [hv2] at this
  have HR := hide (read_some ho (boxW w k n s b c))
  have HB := hide (box12_below w k n s b c)
  have HQ : Hid (∀ W : World, Below (boxW w k n s b c).heap.size (boxW w k n s b c) W → W.cell? ⟨w.heap.size, 0, none⟩ = some (.int .i64 k) ∧ W.cell? ⟨w.heap.size, 1, none⟩ = some (.int .i64 n) ∧ W.cell? ⟨w.heap.size, 2, none⟩ = some (.string s) ∧ W.cell? ⟨w.heap.size, 3, none⟩ = some (.bool b) ∧ W.cell? ⟨w.heap.size, 4, none⟩ = some (.int .i64 c)) := fun W hW => box12_cells hW
  have HX := hide (Below.refl (boxW w k n s b c).heap.size (boxW w k n s b c))
  have HRt : Hid (∀ W : World, Calls Tryz.prog 12 #[.agg #[.int .i64 k, .int .i64 n, .string s, .bool b, .int .i64 c]] W fun e w' => e = .returned (.bool true) ∧ Below W.heap.size W w') := fun W => by have := rright_any k n s b c W hz; rwa [hr] at this
  clear hv2
  generalize (wordsV k n s b c).1 = x at *
  have hk2 : (k == 2) = false := by rw [beq_eq_false_iff_ne]; omega
  have hk3 : (k == 3) = false := by rw [beq_eq_false_iff_ne]; omega
  have hk2n : ¬ k = 2 := by omega
  have hk3n : ¬ k = 3 := by omega
  clear hk
  have HWu : Hid (∀ (u : Value) (W : World), PcsAt W u (ps.map kkP) → True) := fun _ _ _ => trivial
  have hkk : ((kk (kindS ps) : Nat) : Int) = 2 := by rw [hkd]; rfl
  have HFl : Hid (∀ W : World, Calls Tryz.prog 17 #[.int .i64 n] W fun e w' => e = .returned (.tuple #[.int .i64 (floorR n).1, .int .i64 0]) ∧ w' = W) := fun W => by have := rfloor_any n W; rwa [hf] at this
  obtain ⟨f1, f2⟩ := floor_bd n
  have hdd : Int.tdiv (floorR n).1 1000000 = dayOf n := rfl
  have hdb : -1000000000000000000 ≤ dayOf n ∧ dayOf n ≤ 1000000000000000000 := by
    rw [← hdd]
    rcases Int.le_total 0 (floorR n).1 with q | q
    · rw [Int.tdiv_eq_ediv_of_nonneg q]; omega
    · have := Int.neg_tdiv (floorR n).1 1000000
      rw [Int.tdiv_eq_ediv_of_nonneg (show 0 ≤ -(floorR n).1 by omega)] at this
      omega
  have hdw : IntKind.i64.wrap (dayOf n) = dayOf n := by rw [IntKind.wrap_i64]; omega
  clear hf
  generalize hal : decide ((leftS ss).length = 1) = AL
  clear hkd
  unfold boxW at HR HB HQ HX
  clear ho hz hr
  go_enter Tryz.func5, Tryz.ntmps5
  generalize (floorR n).1 = F at *
  generalize dayOf n = D at *

  go_wp2_with (first | (go_at_call 11; refine HR.out.mono ?_; rintro e w1 ⟨⟨g, cap, G, C, rfl, hrr, hG⟩, hb1⟩; obtain ⟨q0, q1, q2, q3, q4⟩ := HQ.out _ hb1; obtain ⟨up, ul, uc, hPc, hPk⟩ := (pick_calls n hrr hG HSF.out hss3).2 ps hps; have HPk := hide hPk; have HKd := hide (fun W hW => kind_calls hsf W (hPc W hW)); have HWr := hide (fun W hW => HWu.out _ W (hPc W hW)); clear hPc hPk; rw [hkk] at HKd; rw [hal] at HPk; have HX1 := hide hb1; have HB1 := hide (upW HB.out hb1); have HY := hide (Below.refl w1.heap.size w1); clear hrr hG hb1 HR HB HX) | (go_at_call 12; refine (HRt.out _).mono ?_; rintro e w2 ⟨rfl, hb2⟩; replace HY := hide (upW HY.out hb2); obtain ⟨q0, q1, q2, q3, q4⟩ := HQ.out _ (upW HX1.out HY.out); clear hb2) | (go_at_call 13; refine (HWd.out _).mono ?_; rintro e w3 ⟨rfl, hb2⟩; replace HY := hide (upW HY.out hb2); obtain ⟨q0, q1, q2, q3, q4⟩ := HQ.out _ (upW HX1.out HY.out); clear hb2) | (go_at_call 16; refine (HPk.out _ HY.out).mono ?_; rintro e w4 ⟨rfl, hb2⟩; replace HY := hide (upW HY.out hb2); obtain ⟨q0, q1, q2, q3, q4⟩ := HQ.out _ (upW HX1.out HY.out); clear hb2; clear HPk) | (go_at_call 14; refine (HKd.out _ HY.out).mono ?_; rintro e w5 ⟨rfl, hb2⟩; replace HY := hide (upW HY.out hb2); obtain ⟨q0, q1, q2, q3, q4⟩ := HQ.out _ (upW HX1.out HY.out); clear hb2) | (go_at_call 17; refine (HFl.out _).mono ?_; rintro e wz ⟨rfl, hz⟩; subst wz) | (go_at_call 18; refine (HSz.out _).mono ?_; rintro e wz ⟨rfl, hz⟩; subst wz) | (go_at_call 15; refine (HWr.out _ HY.out).mono ?_; rintro e w6 ⟨rfl, hb2⟩; replace HY := hide (upW HY.out hb2); obtain ⟨q0, q1, q2, q3, q4⟩ := HQ.out _ (upW HX1.out HY.out); clear hb2))
  go_ret2
  exact ⟨rfl, upW HB1.out HY.out⟩
set_option maxRecDepth 100000 in
set_option maxHeartbeats 8000000 in
theorem rApply_high (S : List UInt8) (k n : Int) (s : ByteArray) (b : Bool) (c : Int) (ss : List (List Pc)) (w : World) (ho : secsOpt S = some ss) (hz : s.size ≤ maxLen) (ps : List Pc) (hr : rightB k n s b c = true) (hk : k = 0 ∨ k = 1) (hps : (leftS ss)[chosenR (leftS ss).length n]? = some ps) (hsf : SecF ps) (hkd : kindS ps = 3) (hf : (floorR n).2 = 0) (hd1 : 2958464 < dayOf n) :
    Calls Tryz.prog 5 #[.string ⟨S.toArray⟩, .agg #[.int .i64 k, .int .i64 n, .string s, .bool b, .int .i64 c]] w fun e w' => e = .returned (.tuple #[.string ⟨#[]⟩, .int .i64 2]) ∧ Below w.heap.size w w' := by
  obtain ⟨hv2, hfit⟩ := words_num hr hk
  obtain ⟨n1, n2⟩ := fitsB_true hfit
  obtain ⟨_, hss1, hss3⟩ := sane_of ho
  have HSF := hide (secF_of ho)
  have HWd : Hid (∀ W : World, Calls Tryz.prog 13 #[.agg #[.int .i64 k, .int .i64 n, .string s, .bool b, .int .i64 c]] W fun e w' => e = .returned (.tuple #[.string ⟨(wordsV k n s b c).1.toArray⟩, .int .i64 0]) ∧ Below W.heap.size W w') := fun W => by have := rwordsV_any k n s b c W hz; rwa [hv2] at this
  have HR := hide (read_some ho (boxW w k n s b c))
  have HB := hide (box12_below w k n s b c)
  have HQ : Hid (∀ W : World, Below (boxW w k n s b c).heap.size (boxW w k n s b c) W → W.cell? ⟨w.heap.size, 0, none⟩ = some (.int .i64 k) ∧ W.cell? ⟨w.heap.size, 1, none⟩ = some (.int .i64 n) ∧ W.cell? ⟨w.heap.size, 2, none⟩ = some (.string s) ∧ W.cell? ⟨w.heap.size, 3, none⟩ = some (.bool b) ∧ W.cell? ⟨w.heap.size, 4, none⟩ = some (.int .i64 c)) := fun W hW => box12_cells hW
  have HX := hide (Below.refl (boxW w k n s b c).heap.size (boxW w k n s b c))
  have HRt : Hid (∀ W : World, Calls Tryz.prog 12 #[.agg #[.int .i64 k, .int .i64 n, .string s, .bool b, .int .i64 c]] W fun e w' => e = .returned (.bool true) ∧ Below W.heap.size W w') := fun W => by have := rright_any k n s b c W hz; rwa [hr] at this
  clear hv2
  generalize (wordsV k n s b c).1 = x at *
  have hk2 : (k == 2) = false := by rw [beq_eq_false_iff_ne]; omega
  have hk3 : (k == 3) = false := by rw [beq_eq_false_iff_ne]; omega
  have hk2n : ¬ k = 2 := by omega
  have hk3n : ¬ k = 3 := by omega
  clear hk
  have HWu : Hid (∀ (u : Value) (W : World), PcsAt W u (ps.map kkP) → True) := fun _ _ _ => trivial
  have hkk : ((kk (kindS ps) : Nat) : Int) = 2 := by rw [hkd]; rfl
  have HFl : Hid (∀ W : World, Calls Tryz.prog 17 #[.int .i64 n] W fun e w' => e = .returned (.tuple #[.int .i64 (floorR n).1, .int .i64 0]) ∧ w' = W) := fun W => by have := rfloor_any n W; rwa [hf] at this
  obtain ⟨f1, f2⟩ := floor_bd n
  have hdd : Int.tdiv (floorR n).1 1000000 = dayOf n := rfl
  have hdb : -1000000000000000000 ≤ dayOf n ∧ dayOf n ≤ 1000000000000000000 := by
    rw [← hdd]
    rcases Int.le_total 0 (floorR n).1 with q | q
    · rw [Int.tdiv_eq_ediv_of_nonneg q]; omega
    · have := Int.neg_tdiv (floorR n).1 1000000
      rw [Int.tdiv_eq_ediv_of_nonneg (show 0 ≤ -(floorR n).1 by omega)] at this
      omega
  have hdw : IntKind.i64.wrap (dayOf n) = dayOf n := by rw [IntKind.wrap_i64]; omega
  clear hf
  generalize hal : decide ((leftS ss).length = 1) = AL
  clear hkd
  unfold boxW at HR HB HQ HX
  clear ho hz hr
  go_enter Tryz.func5, Tryz.ntmps5
  generalize (floorR n).1 = F at *
  generalize dayOf n = D at *
  have g4 : ¬ D < 1 := by omega
  go_wp2_with (first | (go_at_call 11; refine HR.out.mono ?_; rintro e w1 ⟨⟨g, cap, G, C, rfl, hrr, hG⟩, hb1⟩; obtain ⟨q0, q1, q2, q3, q4⟩ := HQ.out _ hb1; obtain ⟨up, ul, uc, hPc, hPk⟩ := (pick_calls n hrr hG HSF.out hss3).2 ps hps; have HPk := hide hPk; have HKd := hide (fun W hW => kind_calls hsf W (hPc W hW)); have HWr := hide (fun W hW => HWu.out _ W (hPc W hW)); clear hPc hPk; rw [hkk] at HKd; rw [hal] at HPk; have HX1 := hide hb1; have HB1 := hide (upW HB.out hb1); have HY := hide (Below.refl w1.heap.size w1); clear hrr hG hb1 HR HB HX) | (go_at_call 12; refine (HRt.out _).mono ?_; rintro e w2 ⟨rfl, hb2⟩; replace HY := hide (upW HY.out hb2); obtain ⟨q0, q1, q2, q3, q4⟩ := HQ.out _ (upW HX1.out HY.out); clear hb2) | (go_at_call 13; refine (HWd.out _).mono ?_; rintro e w3 ⟨rfl, hb2⟩; replace HY := hide (upW HY.out hb2); obtain ⟨q0, q1, q2, q3, q4⟩ := HQ.out _ (upW HX1.out HY.out); clear hb2) | (go_at_call 16; refine (HPk.out _ HY.out).mono ?_; rintro e w4 ⟨rfl, hb2⟩; replace HY := hide (upW HY.out hb2); obtain ⟨q0, q1, q2, q3, q4⟩ := HQ.out _ (upW HX1.out HY.out); clear hb2; clear HPk) | (go_at_call 14; refine (HKd.out _ HY.out).mono ?_; rintro e w5 ⟨rfl, hb2⟩; replace HY := hide (upW HY.out hb2); obtain ⟨q0, q1, q2, q3, q4⟩ := HQ.out _ (upW HX1.out HY.out); clear hb2) | (go_at_call 17; refine (HFl.out _).mono ?_; rintro e wz ⟨rfl, hz⟩; subst wz) | (go_at_call 18; refine (HSz.out _).mono ?_; rintro e wz ⟨rfl, hz⟩; subst wz) | (go_at_call 15; refine (HWr.out _ HY.out).mono ?_; rintro e w6 ⟨rfl, hb2⟩; replace HY := hide (upW HY.out hb2); obtain ⟨q0, q1, q2, q3, q4⟩ := HQ.out _ (upW HX1.out HY.out); clear hb2))
  go_ret2
  exact ⟨rfl, upW HB1.out HY.out⟩
end Go.Proofs.YtnhaapcpklfkpaaGreatDoor
namespace Go.Proofs.YtnhaapcpklfkpaaGreatDoor
open Go.RowKit
set_option linter.unusedSimpArgs false

def AppC (S : List UInt8) (k n : Int) (s : ByteArray) (b : Bool) (c : Int) (T : List UInt8) (E : Int) : Prop :=
  ∀ w : World, Calls Tryz.prog 5 #[.string ⟨S.toArray⟩, .agg #[.int .i64 k, .int .i64 n, .string s, .bool b, .int .i64 c]] w fun e w' => e = .returned (.tuple #[.string ⟨T.toArray⟩, .int .i64 E]) ∧ Below w.heap.size w w'
theorem maxabs12 {n : Int} : max n (-n) = absI n := by unfold absI; split <;> omega
theorem num_total (S : List UInt8) (k n : Int) (s : ByteArray) (b : Bool) (c : Int) (ss : List (List Pc)) (ho : secsOpt S = some ss) (hz : s.size ≤ maxLen) (hr : rightB k n s b c = true) (hk : k = 0 ∨ k = 1) : ∃ T E, NumQ ss n T E ∧ AppC S k n s b c T E := by
  obtain ⟨_, hfit⟩ := words_num hr hk
  obtain ⟨n1, n2⟩ := fitsB_true hfit
  by_cases h0 : leftS ss = []
  · have hq := NumQ.none (n := n) h0
    rw [words_one hfit] at hq
    exact ⟨_, _, hq, fun w => rApply_num0 S k n s b c ss w ho hz hr hk h0⟩
  · have hl1 : 1 ≤ (leftS ss).length := by
      cases hq : leftS ss with
      | nil => exact absurd hq h0
      | cons a l => simp
    have hlt := chosen_lt (n := n) hl1
    obtain ⟨ps, hps⟩ : ∃ ps, (leftS ss)[chosenR (leftS ss).length n]? = some ps := ⟨_, List.getElem?_eq_getElem hlt⟩
    have hmem : ps ∈ ss.filter fun ps => !textB ps := List.mem_of_getElem? hps
    rw [List.mem_filter] at hmem
    have hsf := secF_of ho ps hmem.1
    have hk4 : kindS ps ≠ 4 := by
      have := hmem.2
      unfold textB at this
      intro e
      rw [e] at this
      simp at this
    have hkc : kindS ps = 0 ∨ kindS ps = 1 ∨ kindS ps = 3 := by
      have := kindS_le ps
      have h2 : kindS ps ≠ 2 := by unfold kindS; (repeat' split) <;> omega
      omega
    by_cases hk3 : kindS ps = 3
    · by_cases hd : 1 ≤ dayOf n ∧ dayOf n ≤ 2958464
      · obtain ⟨y, kk', d, hday⟩ := Dat.day_exists hd.1 hd.2
        obtain ⟨Y, rfl⟩ := Int.eq_ofNat_of_zero_le (show 0 ≤ y by have := hday.y1; omega)
        obtain ⟨D, rfl⟩ := Int.eq_ofNat_of_zero_le (show 0 ≤ d by have := hday.d1; omega)
        have hday' : Dat.DayIs (Y : Int) kk' (D : Int) (dayOf n) := hday
        refine ⟨_, _, NumQ.day hps hk3 hday', fun w => ?_⟩
        have hW := fun (u : Value) (W : World) (hW : PcsAt W u (ps.map kkP)) => wr_day_calls (n := absI n) hsf hk3 hday' W hW
        by_cases ha : (leftS ss).length = 1 <;> by_cases hn : n < 0
        · exact rApply_day_11 S k n s b c ss w ho hz ps _ hr hk hps hsf hk3 ha hn hd.1 hd.2 hW
        · exact rApply_day_10 S k n s b c ss w ho hz ps _ hr hk hps hsf hk3 ha hn hd.1 hd.2 hW
        · exact rApply_day_01 S k n s b c ss w ho hz ps _ hr hk hps hsf hk3 ha hn hd.1 hd.2 hW
        · exact rApply_day_00 S k n s b c ss w ho hz ps _ hr hk hps hsf hk3 ha hn hd.1 hd.2 hW
      · refine ⟨_, _, NumQ.noday hps hk3 hd, fun w => ?_⟩
        by_cases hf : (floorR n).2 = 0
        · by_cases h1 : dayOf n < 1
          · exact rApply_low S k n s b c ss w ho hz ps hr hk hps hsf hk3 hf h1
          · exact rApply_high S k n s b c ss w ho hz ps hr hk hps hsf hk3 hf (by omega)
        · exact rApply_bad S k n s b c ss w ho hz ps hr hk hps hsf hk3 hf
    · have hkd : kindS ps = 0 ∨ kindS ps = 1 := by omega
      obtain ⟨T, E, hN, hW⟩ := wr_num_all hsf hkd (absI_nn n) (absI_le n1 n2)
      rcases hN with ⟨m, hsz, hm, rfl, rfl⟩ | ⟨hsz, rfl, rfl⟩
      · rw [← maxabs12] at hsz
        have hTl := secF_len hsf hm
        by_cases ha : (leftS ss).length = 1 <;> by_cases hn : n < 0
        · exact ⟨_, _, NumQ.minus hps hk3 hsz (by omega) ⟨ha, hn⟩, fun w => rApply_num_11 S k n s b c ss w ho hz ps _ hr hk hps hsf hkd ha hn hW hTl⟩
        · exact ⟨_, _, NumQ.num hps hk3 hsz (by omega) (fun h => hn h.2), fun w => rApply_num_10 S k n s b c ss w ho hz ps _ hr hk hps hsf hkd ha hn hW hTl⟩
        · exact ⟨_, _, NumQ.num hps hk3 hsz (by omega) (fun h => ha h.1), fun w => rApply_num_01 S k n s b c ss w ho hz ps _ hr hk hps hsf hkd ha hn hW hTl⟩
        · exact ⟨_, _, NumQ.num hps hk3 hsz (by omega) (fun h => ha h.1), fun w => rApply_num_00 S k n s b c ss w ho hz ps _ hr hk hps hsf hkd ha hn hW hTl⟩
      · rw [← maxabs12] at hsz
        refine ⟨_, _, NumQ.far hps hk3 hsz (by decide), fun w => ?_⟩
        by_cases ha : (leftS ss).length = 1 <;> by_cases hn : n < 0
        · exact rApply_far_11 S k n s b c ss w ho hz ps _ hr hk hps hsf hkd ha hn hW rfl
        · exact rApply_far_10 S k n s b c ss w ho hz ps _ hr hk hps hsf hkd ha hn hW rfl
        · exact rApply_far_01 S k n s b c ss w ho hz ps _ hr hk hps hsf hkd ha hn hW rfl
        · exact rApply_far_00 S k n s b c ss w ho hz ps _ hr hk hps hsf hkd ha hn hW rfl
/-- The answer and the program tell the same of every format and every value. -/
theorem app_total (S : List UInt8) (k n : Int) (s : ByteArray) (b : Bool) (c : Int) (hz : s.size ≤ maxLen) : ∃ T E, AppQ S k n s b c T E ∧ AppC S k n s b c T E := by
  cases ho : secsOpt S with
  | none => exact ⟨_, _, AppQ.none ho, fun w => rApply_none S k n s b c w ho⟩
  | some ss =>
    cases hr : rightB k n s b c with
    | false => exact ⟨_, _, AppQ.wrong ho (by unfold checkV; rw [hr]; rfl), fun w => rApply_wrong S k n s b c ss w ho hz hr⟩
    | true =>
      have hv : checkV k n s b c = 0 := by unfold checkV; rw [hr]; rfl
      have hk : k = 0 ∨ k = 1 ∨ k = 2 ∨ k = 3 ∨ k = 4 := by
        rcases right_cases hr with h | h | h | h | h
        · exact .inl h.1
        · exact .inr (.inl h.1)
        · exact .inr (.inr (.inl h.1))
        · exact .inr (.inr (.inr (.inl h.1)))
        · exact .inr (.inr (.inr (.inr h.1)))
      rcases hk with h | h | h | h | h
      · obtain ⟨T, E, h1, h2⟩ := num_total S k n s b c ss ho hz hr (.inl h)
        exact ⟨T, E, AppQ.number ho hv (.inl h) h1, h2⟩
      · obtain ⟨T, E, h1, h2⟩ := num_total S k n s b c ss ho hz hr (.inr h)
        exact ⟨T, E, AppQ.number ho hv (.inr h) h1, h2⟩
      · have hq := AppQ.words ho hv (.inl h)
        have he : (wordsV k n s b c).2 = 0 := by unfold wordsV; rw [hr]; subst h; simp
        rw [he] at hq
        exact ⟨_, _, hq, fun w => rApply_words S k n s b c ss w ho hz hr (.inl h)⟩
      · have hq := AppQ.words ho hv (.inr h)
        have he : (wordsV k n s b c).2 = 0 := by unfold wordsV; rw [hr]; subst h; simp
        rw [he] at hq
        exact ⟨_, _, hq, fun w => rApply_words S k n s b c ss w ho hz hr (.inr h)⟩
      · exact ⟨_, _, AppQ.fault ho hv h, fun w => rApply_fault S k n s b c ss w ho hz hr h⟩
end Go.Proofs.YtnhaapcpklfkpaaGreatDoor
namespace Go.Proofs.YtnhaapcpklfkpaaGreatDoor
open Go.RowKit
set_option linter.unusedSimpArgs false

theorem appQ_code {l : List UInt8} {k n : Int} {s : ByteArray} {b : Bool} {c : Int} {S : List UInt8} {E : Int} (h : AppQ l k n s b c S E) : 0 ≤ E ∧ E ≤ 7 := by
  cases h with
  | none _ => exact ⟨by omega, by omega⟩
  | wrong _ _ => exact ⟨by omega, by omega⟩
  | fault _ hv hk =>
    have hr : rightB k n s b c = true := by unfold checkV at hv; split at hv; · assumption
                                            · cases hv
    rcases right_cases hr with h | h | h | h | h
    · omega
    · omega
    · omega
    · omega
    · obtain ⟨_, _, _, _, h1⟩ := h; omega
  | words _ hv hk =>
    have hr : rightB k n s b c = true := by unfold checkV at hv; split at hv; · assumption
                                            · cases hv
    have he : (wordsV k n s b c).2 = 0 := by unfold wordsV; rw [hr]; rcases hk with rfl | rfl <;> simp
    rw [he]; exact ⟨by omega, by omega⟩
  | number _ hv hk hn =>
    have hr : rightB k n s b c = true := by unfold checkV at hv; split at hv; · assumption
                                            · cases hv
    obtain ⟨_, hfit⟩ := words_num hr hk
    cases hn with
    | none _ => rw [words_one hfit]; exact ⟨by omega, by omega⟩
    | day _ _ _ => exact ⟨by omega, by omega⟩
    | noday _ _ _ => exact ⟨by omega, by omega⟩
    | far _ _ hz h0 =>
      unfold sizedR at hz
      split at hz
      · split at hz
        · have := congrArg Prod.snd hz; simp only at this; omega
        · have := congrArg Prod.snd hz; simp only at this; omega
      · have := congrArg Prod.snd hz; simp only at this; omega
    | num _ _ _ _ _ => exact ⟨by omega, by omega⟩
    | minus _ _ _ _ _ => exact ⟨by omega, by omega⟩
set_option maxRecDepth 100000 in
set_option maxHeartbeats 4000000 in
theorem codesWrites_walk (code : ByteArray) (k n : Int) (s : ByteArray) (b : Bool) (c : Int) (w : World) (h : EnvC w) (hc : code.size ≤ maxLen) (hz : s.size ≤ maxLen) :
    Calls Tryz.prog 3 #[.string code, .agg #[.int .i64 k, .int .i64 n, .string s, .bool b, .int .i64 c]] w fun e w' => e = .returned (.bool true) ∧ Below w.heap.size w w' := by
  obtain ⟨C, rfl⟩ : ∃ C : List UInt8, code = ⟨C.toArray⟩ := ⟨code.data.toList, by simp⟩
  rw [mk_size] at hc
  obtain ⟨T, E, hq, hr⟩ := app_total C k n s b c hz
  obtain ⟨e1, e2⟩ := appQ_code hq
  have HL : Hid (∀ W : World, Below w.heap.size w W → Calls Tryz.prog 6 #[] W fun e w' => e = .returned (.bool true) ∧ Below W.heap.size W w') := fun W hW => lives_any W (h.below hW)
  have HP : Hid (∀ W : World, Below w.heap.size w W → Calls Tryz.prog 4 #[.string ⟨C.toArray⟩, .agg #[.int .i64 k, .int .i64 n, .string s, .bool b, .int .i64 c]] W fun e w' => e = .returned (.tuple #[.string ⟨T.toArray⟩, .int .i64 E]) ∧ Below W.heap.size W w') := fun W hW => Apply_any hq W (by unfold maxLen at hc; omega) (h.below hW).cell (h.below hW).tab (h.below hW).len hz
  have HA := hide hr
  unfold AppC at HA
  have hw : IntKind.i64.wrap E = E := by rw [IntKind.wrap_i64]; omega
  have hee : (E == E) = true := by simp
  have htt : (T == T) = true := by simp
  have HB := hide (box12_below w k n s b c)
  have HQ : Hid (∀ W : World, Below (boxW w k n s b c).heap.size (boxW w k n s b c) W → W.cell? ⟨w.heap.size, 0, none⟩ = some (.int .i64 k) ∧ W.cell? ⟨w.heap.size, 1, none⟩ = some (.int .i64 n) ∧ W.cell? ⟨w.heap.size, 2, none⟩ = some (.string s) ∧ W.cell? ⟨w.heap.size, 3, none⟩ = some (.bool b) ∧ W.cell? ⟨w.heap.size, 4, none⟩ = some (.int .i64 c)) := fun W hW => box12_cells hW
  unfold boxW at HB HQ
  clear hq hr h hc hz
  go_enter Tryz.func3, Tryz.ntmps3
  go_wp2_with (first | (go_at_call 4; refine (HP.out _ HB.out).mono ?_; clear HP; rintro e w1 ⟨rfl, hb1⟩; obtain ⟨q0, q1, q2, q3, q4⟩ := HQ.out _ hb1; replace HB := hide (upW HB.out hb1); clear hb1) | (go_at_call 5; refine (HA.out _).mono ?_; rintro e w2 ⟨rfl, hb1⟩; replace HB := hide (upW HB.out hb1); clear hb1) | (go_at_call 6; refine (HL.out _ HB.out).mono ?_; rintro e w3 ⟨rfl, hb1⟩; replace HB := hide (upW HB.out hb1); clear hb1))
  go_ret
  exact ⟨rfl, HB.out⟩
end Go.Proofs.YtnhaapcpklfkpaaGreatDoor
