/-
  The answer's like: by places, from the ends on.
-/
import Derived.Test.YthooimaadgabiaaDoorRf2
import Derived.Test.YthooimaadgabiaaDoorCr3
import Derived.Test.YthooimaadgabiaaDoorKVal3
namespace Go.Proofs.YthooimaadgabiaaDoor
open Go.RowKit
set_option linter.unusedSimpArgs false

theorem infoBool : (Tryd.prog.info? 4).map (fun i => (i.zero, i.size, i.bytes)) = some (some (.bool false), 1, 1) := by kernel_rfl
/-- Is what stands from a place on what the steps from one on stand for? -/
def fAt (l : List Stp) (s : List UInt8) (k j : Nat) : Bool := lk (l.drop k) (s.drop j)
theorem drop_len {α : Type} {l : List α} {i : Nat} (h : l.length ≤ i) : l.drop i = [] := List.drop_eq_nil_of_le h
theorem fAt_row {l : List Stp} {s : List UInt8} {k j : Nat} {p : Stp} (hp : l[k]? = some p) (h2 : p.k = 2) : fAt l s k j = (fAt l s (k + 1) j || (decide (j < s.length) && fAt l s k (j + 1))) := by
  unfold fAt
  rw [drop_at hp, lk_row h2]
  by_cases hj : j < s.length
  · rw [List.drop_eq_getElem_cons hj, starL, lk_row h2, decide_eq_true hj, Bool.true_and]
  · rw [drop_len (by omega : s.length ≤ j), starL, decide_eq_false hj, Bool.false_and, Bool.or_false]
theorem fAt_one {l : List Stp} {s : List UInt8} {k j : Nat} {p : Stp} (hp : l[k]? = some p) (h2 : p.k ≠ 2) (hj : j < s.length) : fAt l s k j = (takesB p s[j] && fAt l s (k + 1) (j + 1)) := by
  unfold fAt
  rw [drop_at hp, List.drop_eq_getElem_cons hj, lk_one h2]
theorem fAt_end {l : List Stp} {s : List UInt8} {k j : Nat} {p : Stp} (hp : l[k]? = some p) (h2 : p.k ≠ 2) (hj : s.length ≤ j) : fAt l s k j = false := by
  unfold fAt
  rw [drop_at hp, drop_len hj, lk_end h2]
theorem fAt_last (l : List Stp) (s : List UInt8) (j : Nat) : fAt l s l.length j = decide (s.length ≤ j) := by
  unfold fAt
  rw [List.drop_length]
  unfold lk
  by_cases h : s.length ≤ j
  · rw [drop_len h, decide_eq_true h]; rfl
  · rw [List.drop_eq_getElem_cons (by omega), decide_eq_false h]; rfl
/-- A row of truths lies in a block: what stands from each place on. -/
def NowAt (W : World) (g : Nat) (l : List Stp) (s : List UInt8) (k : Nat) : Prop := g < W.heap.size ∧ ∀ j, j ≤ s.length → W.cell? ⟨g, j, none⟩ = some (.bool (fAt l s k j))
theorem NowAt.below {W W' : World} {g k : Nat} {l : List Stp} {s : List UInt8} (h : NowAt W g l s k) (z : Below W.heap.size W W') : NowAt W' g l s k :=
  ⟨Nat.lt_of_lt_of_le h.1 z.size, fun j hj => (z.cell (p := ⟨g, j, Option.none⟩) h.1).trans (h.2 j hj)⟩
/-- The answer's steps lie in a row. -/
def RsAt (W : World) (v : Value) (l : List Stp) : Prop := l = [] ∨ ∃ g cap, v = .slice (some ⟨g, 0, none⟩) l.length cap ∧ g < W.heap.size ∧ ∀ j p, l[j]? = some p → W.cell? ⟨g, j * 2, none⟩ = some (.int .u8 (rkB p)) ∧ W.cell? ⟨g, j * 2 + 1, none⟩ = some (.int .u8 (p.o.toNat : Int))
theorem RsAt.below {W W' : World} {v : Value} {l : List Stp} (h : RsAt W v l) (z : Below W.heap.size W W') : RsAt W' v l := by
  rcases h with h | ⟨g, cap, rfl, hg, hc⟩
  · exact .inl h
  · exact .inr ⟨g, cap, rfl, Nat.lt_of_lt_of_le hg z.size, fun j p hj => ⟨(z.cell (p := ⟨g, j * 2, Option.none⟩) hg).trans (hc j p hj).1, (z.cell (p := ⟨g, j * 2 + 1, Option.none⟩) hg).trans (hc j p hj).2⟩⟩
theorem rstps_get : ∀ {l : List Stp} {j : Nat} {p : Stp}, l[j]? = some p → (rstpsC l)[j * 2]? = some (.int .u8 (rkB p)) ∧ (rstpsC l)[j * 2 + 1]? = some (.int .u8 (p.o.toNat : Int))
  | [], j, p, h => by simp at h
  | q :: l, 0, p, h => by
    simp at h
    subst h
    exact ⟨rfl, rfl⟩
  | q :: l, j + 1, p, h => by
    have := rstps_get (l := l) (j := j) (p := p) (by simpa using h)
    rw [show (j + 1) * 2 = j * 2 + 1 + 1 by omega]
    exact this
theorem rs_of_own {W : World} {base : Nat} {v : Value} {l : List Stp} (h : W.ownsRow base 101 2 v l.length (rstpsC l)) : RsAt W v l ∧ ∃ p cap, v = .slice p l.length cap := by
  have h' := h
  obtain ⟨_, ⟨rfl, h1⟩ | ⟨g, cap, cur, rfl, hb, hh, _⟩⟩ := h
  · exact ⟨.inl (List.eq_nil_of_length_eq_zero h1), none, 0, by rw [h1]⟩
  · refine ⟨.inr ⟨g, cap, rfl, (Array.getElem?_eq_some_iff.1 hh).1, fun j p hj => ?_⟩, _, cap, rfl⟩
    have hlt := (List.getElem?_eq_some_iff.1 hj).1
    obtain ⟨k1, k2⟩ := rstps_get hj
    exact ⟨(h'.cellAt (j * 2) (by omega)).trans k1, (h'.cellAt (j * 2 + 1) (by omega)).trans k2⟩
/-- A row of truths that is being filled from its end on. -/
def FillR (bs : List Bool) (l : List Stp) (s : List UInt8) (k m : Nat) : Prop := bs.length = s.length + 1 ∧ ∀ j, m ≤ j → j ≤ s.length → bs[j]? = some (fAt l s k j)
theorem FillR.zero (bs : List Bool) (l : List Stp) (s : List UInt8) (k : Nat) (h : bs.length = s.length + 1) : FillR bs l s k (s.length + 1) := ⟨h, fun j h1 h2 => absurd h1 (by omega)⟩
theorem FillR.put {bs : List Bool} {l : List Stp} {s : List UInt8} {k m : Nat} {x : Bool} (h : FillR bs l s k (m + 1)) (hm : m ≤ s.length) (hx : fAt l s k m = x) : FillR (bs.set m x) l s k m := by
  refine ⟨by rw [List.length_set]; exact h.1, fun j h1 h2 => ?_⟩
  by_cases e : j = m
  · subst e
    rw [List.getElem?_set_self (by rw [h.1]; omega), hx]
  · rw [List.getElem?_set_ne (fun q => e q.symm)]
    exact h.2 j (by omega) h2
def boolsC (bs : List Bool) : List Value := bs.map Value.bool
theorem bools_set (bs : List Bool) (m : Nat) (x : Bool) : (boolsC bs).set m (.bool x) = boolsC (bs.set m x) := by unfold boolsC; rw [List.map_set]
theorem bools_made (n : Nat) : (madeCells (Value.bool false).cells (n * 1)).toList = boolsC (List.replicate n false) := by
  rw [show (Value.bool false).cells = #[Value.bool false] from rfl]
  rw [Nat.mul_one, toList_madeCells_one]
  unfold boolsC
  rw [List.map_replicate]
theorem now_first {w w0 : World} {l : List Stp} {s : List UInt8} (h : w0.ownsRow w.heap.size 4 1 (.slice (some ⟨w.heap.size, 0, none⟩) (s.length + 1) (s.length + 1)) (s.length + 1) (boolsC (List.replicate (s.length + 1) false))) (hg : w.grownBy w0 none) :
    w0.cell? ⟨w.heap.size, s.length, none⟩ = some (.bool false) ∧ w0.frozen? ⟨w.heap.size, s.length, none⟩ = false ∧ NowAt (w0.setCell ⟨w.heap.size, s.length, none⟩ (.bool true)) w.heap.size l s l.length ∧ Below w.heap.size w (w0.setCell ⟨w.heap.size, s.length, none⟩ (.bool true)) := by
  have hb : Below w.heap.size w w0 := (Below.refl _ w).grown hg (Nat.le_refl _) (fun k hk => by cases hk)
  obtain ⟨s1, s2⟩ := h.stored s.length (.bool true)
  have s1' := s1
  obtain ⟨_, ⟨e, _⟩ | ⟨g', cap, cur, e, h2, h3, _⟩⟩ := s1'
  · simp at e
  simp only [Value.slice.injEq, Option.some.injEq, Addr.mk.injEq, and_true, true_and] at e
  obtain ⟨rfl, rfl⟩ := e
  refine ⟨?_, h.frozenAt _, ⟨(Array.getElem?_eq_some_iff.1 h3).1, fun j hj => ?_⟩, hb.setCell (Nat.le_refl _) _⟩
  · rw [h.cellAt s.length (by omega)]; simp [boolsC]
  · rw [s1.cellAt j (by omega), bools_set, fAt_last]
    unfold boolsC
    rw [List.getElem?_map]
    by_cases e : j = s.length
    · subst e
      rw [List.getElem?_set_self (by simp)]; simp
    · rw [List.getElem?_set_ne (fun q => e q.symm), List.getElem?_replicate, if_pos (by omega), decide_eq_false (by omega)]; rfl
theorem now_done {wr wx : World} {l : List Stp} {s : List UInt8} {k g : Nat} {bs : List Bool} (h : wx.ownsRow wr.heap.size 4 1 (.slice (some ⟨g, 0, none⟩) (s.length + 1) (s.length + 1)) (s.length + 1) (boolsC bs)) (hf : FillR bs l s k 0) : NowAt wx g l s k := by
  have h' := h
  obtain ⟨_, ⟨e, _⟩ | ⟨g', cap, cur, e, h2, h3, _⟩⟩ := h'
  · simp at e
  simp only [Value.slice.injEq, Option.some.injEq, Addr.mk.injEq, and_true, true_and] at e
  obtain ⟨rfl, rfl⟩ := e
  refine ⟨(Array.getElem?_eq_some_iff.1 h3).1, fun j hj => ?_⟩
  rw [h.cellAt j (by omega)]
  unfold boolsC
  rw [List.getElem?_map, hf.2 j (Nat.zero_le _) hj]; rfl
theorem fill_cell {wr wx : World} {l : List Stp} {s : List UInt8} {k g m : Nat} {bs : List Bool} (h : wx.ownsRow wr.heap.size 4 1 (.slice (some ⟨g, 0, none⟩) (s.length + 1) (s.length + 1)) (s.length + 1) (boolsC bs)) (hf : FillR bs l s k (m + 1)) (hm : m ≤ s.length) :
    (∃ o, wx.cell? ⟨g, m, none⟩ = some o) ∧ wx.frozen? ⟨g, m, none⟩ = false ∧ (m < s.length → wx.cell? ⟨g, m + 1, none⟩ = some (.bool (fAt l s k (m + 1)))) := by
  refine ⟨?_, h.frozenAt _, fun hlt => ?_⟩
  · rw [h.cellAt m (by omega)]
    unfold boolsC
    rw [List.getElem?_map, List.getElem?_eq_getElem (by rw [hf.1]; omega)]
    exact ⟨_, rfl⟩
  · rw [h.cellAt (m + 1) (by omega)]
    unfold boolsC
    rw [List.getElem?_map, hf.2 (m + 1) (Nat.le_refl _) (by omega)]; rfl
theorem fill_put {wr wx : World} {l : List Stp} {s : List UInt8} {k g m : Nat} {bs : List Bool} {x : Bool} (h : wx.ownsRow wr.heap.size 4 1 (.slice (some ⟨g, 0, none⟩) (s.length + 1) (s.length + 1)) (s.length + 1) (boolsC bs)) (hf : FillR bs l s k (m + 1)) (hm : m ≤ s.length) (hx : fAt l s k m = x) (hb : Below wr.heap.size wr wx) :
    ∃ bs', (wx.setCell ⟨g, m, none⟩ (.bool x)).ownsRow wr.heap.size 4 1 (.slice (some ⟨g, 0, none⟩) (s.length + 1) (s.length + 1)) (s.length + 1) (boolsC bs') ∧ FillR bs' l s k m ∧ Below wr.heap.size wr (wx.setCell ⟨g, m, none⟩ (.bool x)) := by
  obtain ⟨s1, s2⟩ := h.stored m (.bool x)
  rw [bools_set] at s1
  have hg : wr.heap.size ≤ g := by
    obtain ⟨_, ⟨e, _⟩ | ⟨g', cap, cur, e, h2, h3, _⟩⟩ := h
    · simp at e
    simp only [Value.slice.injEq, Option.some.injEq, Addr.mk.injEq, and_true, true_and] at e
    obtain ⟨rfl, rfl⟩ := e
    exact h2
  exact ⟨_, s1, hf.put hm hx, hb.setCell (p := ⟨g, m, none⟩) hg _⟩
set_option maxRecDepth 100000 in
set_option maxHeartbeats 8000000 in
theorem rlike_any (P : List UInt8) (s : List UInt8) (w : World) (hp : P.length ≤ 1000) (hs : s.length ≤ 1000) :
    Calls Tryd.prog 79 #[.string ⟨P.toArray⟩, .string ⟨s.toArray⟩] w fun e w' => e = .returned (.bool (lk (stepsR P) s)) ∧ Below w.heap.size w w' := by
  obtain ⟨i0, hi, hz0, hz1, hz2⟩ := info_parts infoBool
  have HS : Hid (∀ W : World, Calls Tryd.prog 88 #[.string ⟨P.toArray⟩] W fun e w' => ∃ v, e = .returned v ∧ w'.ownsRow W.heap.size 101 2 v (stepsR P).length (rstpsC (stepsR P)) ∧ Below W.heap.size W w') := fun W => rsteps_any P W hp
  have hl := steps_len _ P (Nat.le_refl _)
  have sz : (⟨s.toArray⟩ : ByteArray).size = s.length := by show s.toArray.size = _; simp
  generalize stepsR P = l at *
  have hl2 : l.length ≤ 1000 := by omega
  clear hp hl
  have hsi : (s.length : Int) ≤ 1000 := by omega
  have hli : (l.length : Int) ≤ 1000 := by omega
  go_enter Tryd.func79, Tryd.ntmps79
  go_wp2_with (first | (at_make; refine wpList_make_full _ rfl _ _ 97 rfl w.heap.size 4 i0 (.bool false) 1 Tryd.underlying97 hi hz0 hz1 .i64 .i64 _ _ (s.length + 1) rfl rfl (by omega) (by omega) (by rw [hz2]; omega) (by unfold maxLen; omega) (Nat.le_refl _) ?_; intro w0 hown0 hgrow0; rw [bools_made] at hown0; obtain ⟨c0, f0, hn0, hb0⟩ := now_first (l := l) hown0 hgrow0; have HN0 := hide hn0; have HB0 := hide hb0; clear hown0 hgrow0 hn0 hb0) | (go_at_call 88; refine (HS.out _).mono ?_; rintro e w1 ⟨v, rfl, hown1, hb1⟩; obtain ⟨hr1, pv, cap, rfl⟩ := rs_of_own hown1; have HB1 := hide (upR HB0.out hb1); have HN1 := hide (NowAt.below HN0.out hb1); have HR1 := hide hr1; clear hown1 hb1 hr1 HB0 HN0))
  clear HS
  go_loopw [5, 7] (fun nv iv wr => ∃ (k g : Nat) (I : Int), k ≤ l.length ∧ iv = .int .i64 I ∧ I = (k : Int) - 1 ∧ nv = .slice (some ⟨g, 0, none⟩) (s.length + 1) (s.length + 1) ∧ NowAt wr g l s k ∧ RsAt wr (.slice pv l.length cap) l ∧ Below w.heap.size w wr) (fun _ iv _ => (intOf iv + 1).toNat)
  case atStart => exact ⟨l.length, _, _, Nat.le_refl _, rfl, by go_num, rfl, HN1.out, HR1.out, HB1.out⟩
  case round =>
    obtain ⟨k, g, I, hk, rfl, hI, rfl, hN, hR, hB⟩ := hrel
    have HN := hide hN
    have HR := hide hR
    have HB := hide hB
    clear hR hB HN1 HR1 HB1
    cases k with
    | zero =>
      have hI2 : ¬ (0 : Int) ≤ I := by omega
      have c0 := hN.2 0 (Nat.zero_le _)
      have HV : Hid (fAt l s 0 0 = lk l s) := rfl
      clear hN
      go_wp2
      go_ret
      exact ⟨by rw [HV.out]; rfl, HB.out⟩
    | succ k =>
      obtain rfl : I = (k : Int) := by omega
      have hkl : k < l.length := by omega
      have i1 : (0 : Int) ≤ (k : Int) := by omega
      have i2 : (k : Int) < (l.length : Int) := by omega
      obtain ⟨p, hp⟩ : ∃ p, l[k]? = some p := ⟨l[k], List.getElem?_eq_getElem hkl⟩
      obtain ⟨gl, hpv, hgl, hcl⟩ : ∃ gl, pv = some ⟨gl, 0, none⟩ ∧ gl < wr.heap.size ∧ ∀ j q, l[j]? = some q → wr.cell? ⟨gl, j * 2, none⟩ = some (.int .u8 (rkB q)) ∧ wr.cell? ⟨gl, j * 2 + 1, none⟩ = some (.int .u8 (q.o.toNat : Int)) := by
        rcases HR.out with h | ⟨gl, cp, h, h2, h3⟩
        · rw [h] at hkl; simp at hkl
        · simp only [Value.slice.injEq] at h; exact ⟨gl, h.1, h2, h3⟩
      subst hpv
      obtain ⟨a0, a1⟩ := hcl k p hp
      have HP := hide hp
      clear hN hcl hp hI
      go_wp2_with (first | (at_make; refine wpList_make_full _ rfl _ _ 97 rfl wr.heap.size 4 i0 (.bool false) 1 Tryd.underlying97 hi hz0 hz1 .i64 .i64 _ _ (s.length + 1) rfl rfl (by omega) (by omega) (by rw [hz2]; omega) (by unfold maxLen; omega) (Nat.le_refl _) ?_; intro w0 hown0 hgrow0; rw [bools_made] at hown0; have HO0 := hide hown0; have HG0 := hide ((Below.refl _ wr).grown hgrow0 (Nat.le_refl _) (fun k hk => by cases hk)); clear hown0 hgrow0))
      obtain ⟨wo, hwo⟩ : ∃ wo : World, wo = wr := ⟨wr, rfl⟩
      subst hwo
      go_loopw [9] (fun jv wx => ∃ (m : Nat) (J : Int) (bs : List Bool), m ≤ s.length + 1 ∧ jv = .int .i64 J ∧ J = (m : Int) - 1 ∧ wx.ownsRow wo.heap.size 4 1 (.slice (some ⟨wo.heap.size, 0, none⟩) (s.length + 1) (s.length + 1)) (s.length + 1) (boolsC bs) ∧ Hid (FillR bs l s k m) ∧ Below wo.heap.size wo wx) (fun jv _ => (intOf jv + 1).toNat)
      case atStart => exact ⟨s.length + 1, _, _, Nat.le_refl _, rfl, by go_num, HO0.out, hide (FillR.zero _ _ _ _ (by simp)), HG0.out⟩
      case round =>
        obtain ⟨m, J, bs, hm, rfl, hJ, hown, HFl, hBx⟩ := hrel
        have HO := hide hown
        have HX := hide hBx
        clear hown HO0 HG0
        cases m with
        | zero =>
          have hJ2 : ¬ (0 : Int) ≤ J := by omega
          clear hBx a0 a1
          go_wp2
          go_roundw
          case rel => exact ⟨k, wo.heap.size, _, by omega, rfl, by go_num, rfl, now_done HO.out HFl.out, HR.out.below HX.out, upR HB.out HX.out⟩
          case measure => simp [intOf] <;> omega
        | succ m =>
          obtain rfl : J = (m : Int) := by omega
          have hms : m ≤ s.length := by omega
          obtain ⟨⟨old, d0⟩, d1, d2⟩ := fill_cell HO.out HFl.out hms
          have j1 : (0 : Int) ≤ (m : Int) := by omega
          have j2 : (m : Int) < (s.length : Int) + 1 := by omega
          have b0 : wr.cell? ⟨gl, k * 2, none⟩ = some (.int .u8 (rkB p)) := (hBx.cell (p := ⟨gl, k * 2, none⟩) hgl).trans a0
          have b1 : wr.cell? ⟨gl, k * 2 + 1, none⟩ = some (.int .u8 (p.o.toNat : Int)) := (hBx.cell (p := ⟨gl, k * 2 + 1, none⟩) hgl).trans a1
          have bn : ∀ j, j ≤ s.length → wr.cell? ⟨g, j, none⟩ = some (.bool (fAt l s (k + 1) j)) := ((HN.out).below hBx).2
          have e0 := bn m hms
          clear a0 a1 hBx hJ
          by_cases k2 : p.k = 2
          · have hf := fAt_row (s := s) (j := m) HP.out k2
            have r1 : rkB p = 42 := by unfold rkB; rw [if_pos k2]
            rw [r1] at b0
            clear r1
            cases v1 : fAt l s (k + 1) m
            · rw [v1] at e0 hf
              by_cases hlt : m < s.length
              · have j3 : (m : Int) < (s.length : Int) := by omega
                have d3 := d2 hlt
                rw [decide_eq_true hlt, Bool.true_and, Bool.false_or] at hf
                have HV := hide hf
                clear d2 bn v1 hf hlt
                generalize fAt l s k (m + 1) = X at *
                go_wp2
                go_roundw
                case rel =>
                  obtain ⟨bs', st1, st2, st3⟩ := fill_put HO.out HFl.out (by omega) HV.out HX.out
                  exact ⟨_, _, bs', by omega, rfl, by go_num, st1, st2, st3⟩
                case measure => simp [intOf] <;> omega
              · obtain rfl : m = s.length := by omega
                have j3 : ¬ (s.length : Int) < (s.length : Int) := by omega
                rw [decide_eq_false hlt, Bool.false_and, Bool.false_or] at hf
                have HV := hide hf
                clear d2 bn v1 hf hlt
                go_wp2
                go_roundw
                case rel =>
                  obtain ⟨bs', st1, st2, st3⟩ := fill_put HO.out HFl.out (by omega) HV.out HX.out
                  exact ⟨_, _, bs', by omega, rfl, by go_num, st1, st2, st3⟩
                case measure => simp [intOf] <;> omega
            · rw [v1, Bool.true_or] at hf
              rw [v1] at e0
              have HV := hide hf
              clear d2 bn v1 hf
              go_wp2
              go_roundw
              case rel =>
                obtain ⟨bs', st1, st2, st3⟩ := fill_put HO.out HFl.out (by omega) HV.out HX.out
                exact ⟨_, _, bs', by omega, rfl, by go_num, st1, st2, st3⟩
              case measure => simp [intOf] <;> omega
          · by_cases hlt : m < s.length
            · have j3 : (m : Int) < (s.length : Int) := by omega
              have hf := fAt_one (s := s) HP.out k2 hlt
              have e1 := bn (m + 1) hlt
              have hx : ∀ h, (⟨s.toArray⟩ : ByteArray)[m]'h = s[m] := fun h => rfl
              by_cases k1 : p.k = 1
              · have r1 : rkB p = 63 := by unfold rkB; rw [if_neg k2, if_pos k1]
                rw [r1] at b0
                have ht : takesB p s[m] = true := by unfold takesB; rw [k1]; rfl
                rw [ht, Bool.true_and] at hf
                have HV := hide hf
                clear r1 d2 bn hf ht
                generalize fAt l s (k + 1) (m + 1) = X at *
                go_wp2
                go_roundw
                case rel =>
                  obtain ⟨bs', st1, st2, st3⟩ := fill_put HO.out HFl.out (by omega) HV.out HX.out
                  exact ⟨_, _, bs', by omega, rfl, by go_num, st1, st2, st3⟩
                case measure => simp [intOf] <;> omega
              · have r1 : rkB p = 0 := by unfold rkB; rw [if_neg k2, if_neg k1]
                rw [r1] at b0
                have ht : takesB p s[m] = (p.o == s[m]) := by unfold takesB; simp [k1]
                rw [ht] at hf
                by_cases hc : p.o = s[m]
                · have g1 : ((s[m].toNat : Int) == (p.o.toNat : Int)) = true := by rw [hc]; simp
                  have g2 : (p.o.toNat : Int) = (s[m].toNat : Int) := by rw [hc]
                  rw [show (p.o == s[m]) = true by simp [hc], Bool.true_and] at hf
                  have HV := hide hf
                  clear r1 d2 bn hf ht hc
                  generalize fAt l s (k + 1) (m + 1) = X at *
                  have q1 : IntKind.i64.wrap ((m : Int) + 1) = (m : Int) + 1 := by rw [IntKind.wrap_i64]; omega
                  have q2 : (0 : Int) ≤ (m : Int) + 1 := by omega
                  have q3 : (m : Int) + 1 < (s.length : Int) + 1 := by omega
                  have q4 : ((m : Int) + 1).toNat = m + 1 := by omega
                  obtain ⟨bs', st1, st2, st3⟩ := fill_put (wx := wr.drew) HO.out HFl.out hms HV.out HX.out.drew
                  obtain ⟨kk1, kk2, _⟩ := fill_cell st1 (show FillR bs' l s k (m + 1) from ⟨st2.1, fun j h1 h2 => st2.2 j (by omega) h2⟩) hms
                  have hS : (fun Y : World => Y.cell? ⟨gl, k * 2, none⟩ = some (.int .u8 0) ∧ Y.cell? ⟨gl, k * 2 + 1, none⟩ = some (.int .u8 (p.o.toNat : Int)) ∧ Y.cell? ⟨g, m + 1, none⟩ = some (.bool X) ∧ (∃ o, Y.cell? ⟨wo.heap.size, m, none⟩ = some o) ∧ Y.frozen? ⟨wo.heap.size, m, none⟩ = false ∧ (∃ bs, Y.ownsRow wo.heap.size 4 1 (.slice (some ⟨wo.heap.size, 0, none⟩) (s.length + 1) (s.length + 1)) (s.length + 1) (boolsC bs) ∧ FillR bs l s k (m + 1)) ∧ Below wo.heap.size wo Y) (wr.drew.setCell ⟨wo.heap.size, m, none⟩ (.bool X)) := ⟨(st3.cell (p := ⟨gl, k * 2, none⟩) hgl).trans ((HX.out.cell (p := ⟨gl, k * 2, none⟩) hgl).symm.trans b0), (st3.cell (p := ⟨gl, k * 2 + 1, none⟩) hgl).trans ((HX.out.cell (p := ⟨gl, k * 2 + 1, none⟩) hgl).symm.trans b1), (st3.cell (p := ⟨g, m + 1, none⟩) HN.out.1).trans ((HX.out.cell (p := ⟨g, m + 1, none⟩) HN.out.1).symm.trans e1), kk1, kk2, ⟨bs', st1, st2.1, fun j h1 h2 => st2.2 j (by omega) h2⟩, st3⟩
                  go_wp2
                  refine wp_region_held_drew (S := fun Y : World => Y.cell? ⟨gl, k * 2, none⟩ = some (.int .u8 0) ∧ Y.cell? ⟨gl, k * 2 + 1, none⟩ = some (.int .u8 (p.o.toNat : Int)) ∧ Y.cell? ⟨g, m + 1, none⟩ = some (.bool X) ∧ (∃ o, Y.cell? ⟨wo.heap.size, m, none⟩ = some o) ∧ Y.frozen? ⟨wo.heap.size, m, none⟩ = false ∧ (∃ bs, Y.ownsRow wo.heap.size 4 1 (.slice (some ⟨wo.heap.size, 0, none⟩) (s.length + 1) (s.length + 1)) (s.length + 1) (boolsC bs) ∧ FillR bs l s k (m + 1)) ∧ Below wo.heap.size wo Y) (by kernel_rfl) ⟨b0, b1, e1, ⟨_, d0⟩, d1, ⟨bs, HO.out, HFl.out⟩, HX.out.drew⟩ (fun hHeld => ?_)
                  (refine takeD (i := 0) (some 42) rfl rfl (by kernel_rfl) (by kernel_rfl) (by kernel_rfl) (fun _ _ _ h => h) (v := ?_) rfl ?_ (by assumption) ?_; rotate_left; (focus (intro w hSw; (try dsimp only at hSw); first | (go_simp; done) | (go_simp; with_reducible rfl))); try simp only [Act.put, List.setIfInBounds_toArray, List.set_cons_zero, List.set_cons_succ]); (refine takeD (i := 1) (some 43) rfl rfl (by kernel_rfl) (by kernel_rfl) (by kernel_rfl) (fun _ _ _ h => h) (v := ?_) rfl ?_ (by assumption) ?_; rotate_left; (focus (intro w hSw; (try dsimp only at hSw); first | (go_simp; done) | (go_simp; with_reducible rfl))); try simp only [Act.put, List.setIfInBounds_toArray, List.set_cons_zero, List.set_cons_succ]); (refine takeD (i := 2) (some 44) rfl rfl (by kernel_rfl) (by kernel_rfl) (by kernel_rfl) (fun _ _ _ h => h) (v := ?_) rfl ?_ (by assumption) ?_; rotate_left; (focus (intro w hSw; (try dsimp only at hSw); first | (go_simp; done) | (go_simp; with_reducible rfl))); try simp only [Act.put, List.setIfInBounds_toArray, List.set_cons_zero, List.set_cons_succ]); (refine takeD (i := 3) (some 45) rfl rfl (by kernel_rfl) (by kernel_rfl) (by kernel_rfl) (fun _ _ _ h => h) (v := ?_) rfl ?_ (by assumption) ?_; rotate_left; (focus (intro w hSw; (try dsimp only at hSw); first | (go_simp; done) | (go_simp; with_reducible rfl))); try simp only [Act.put, List.setIfInBounds_toArray, List.set_cons_zero, List.set_cons_succ]); (refine takeD (i := 4) (some 46) rfl rfl (by kernel_rfl) (by kernel_rfl) (by kernel_rfl) (fun _ _ _ h => h) (v := ?_) rfl ?_ (by assumption) ?_; rotate_left; (focus (intro w hSw; (try dsimp only at hSw); first | (go_simp; done) | (go_simp; with_reducible rfl))); try simp only [Act.put, List.setIfInBounds_toArray, List.set_cons_zero, List.set_cons_succ]); (refine takeD (i := 5) (some 47) rfl rfl (by kernel_rfl) (by kernel_rfl) (by kernel_rfl) (fun _ _ _ h => h) (v := ?_) rfl ?_ (by assumption) ?_; rotate_left; (focus (intro w hSw; (try dsimp only at hSw); first | (go_simp; done) | (go_simp; with_reducible rfl))); try simp only [Act.put, List.setIfInBounds_toArray, List.set_cons_zero, List.set_cons_succ]); (refine takeD (i := 6) (some 48) rfl rfl (by kernel_rfl) (by kernel_rfl) (by kernel_rfl) (fun _ _ _ h => h) (v := ?_) rfl ?_ (by assumption) ?_; rotate_left; (focus (intro w hSw; (try dsimp only at hSw); first | (go_simp; done) | (go_simp; with_reducible rfl))); try simp only [Act.put, List.setIfInBounds_toArray, List.set_cons_zero, List.set_cons_succ]); (refine takeD (i := 7) (some 49) rfl rfl (by kernel_rfl) (by kernel_rfl) (by kernel_rfl) (fun _ _ _ h => h) (v := ?_) rfl ?_ (by assumption) ?_; rotate_left; (focus (intro w hSw; (try dsimp only at hSw); first | (go_simp; done) | (go_simp; with_reducible rfl))); try simp only [Act.put, List.setIfInBounds_toArray, List.set_cons_zero, List.set_cons_succ]); (refine takeD (i := 8) (some 50) rfl rfl (by kernel_rfl) (by kernel_rfl) (by kernel_rfl) (fun _ _ _ h => h) (v := ?_) rfl ?_ (by assumption) ?_; rotate_left; (focus (intro w hSw; (try dsimp only at hSw); first | (go_simp; done) | (go_simp; with_reducible rfl))); try simp only [Act.put, List.setIfInBounds_toArray, List.set_cons_zero, List.set_cons_succ]); (refine takeD (i := 9) (some 51) rfl rfl (by kernel_rfl) (by kernel_rfl) (by kernel_rfl) (fun _ _ _ h => h) (v := ?_) rfl ?_ (by assumption) ?_; rotate_left; (focus (intro w hSw; (try dsimp only at hSw); first | (go_simp; done) | (go_simp; with_reducible rfl))); try simp only [Act.put, List.setIfInBounds_toArray, List.set_cons_zero, List.set_cons_succ]); (refine takeD (i := 10) (some 52) rfl rfl (by kernel_rfl) (by kernel_rfl) (by kernel_rfl) (fun _ _ _ h => h) (v := ?_) rfl ?_ (by assumption) ?_; rotate_left; (focus (intro w hSw; (try dsimp only at hSw); first | (go_simp; done) | (go_simp; with_reducible rfl))); try simp only [Act.put, List.setIfInBounds_toArray, List.set_cons_zero, List.set_cons_succ]); (refine takeD (i := 11) (some 53) rfl rfl (by kernel_rfl) (by kernel_rfl) (by kernel_rfl) (fun _ _ _ h => h) (v := ?_) rfl ?_ (by assumption) ?_; rotate_left; (focus (intro w hSw; (try dsimp only at hSw); first | (go_simp; done) | (go_simp; with_reducible rfl))); try simp only [Act.put, List.setIfInBounds_toArray, List.set_cons_zero, List.set_cons_succ]); (refine takeD (i := 12) (some 54) rfl rfl (by kernel_rfl) (by kernel_rfl) (by kernel_rfl) (fun _ _ _ h => h) (v := ?_) rfl ?_ (by assumption) ?_; rotate_left; (focus (intro w hSw; (try dsimp only at hSw); first | (go_simp; done) | (go_simp; with_reducible rfl))); try simp only [Act.put, List.setIfInBounds_toArray, List.set_cons_zero, List.set_cons_succ]); (refine takeD (i := 13) (some 55) rfl rfl (by kernel_rfl) (by kernel_rfl) (by kernel_rfl) (fun _ _ _ h => h) (v := ?_) rfl ?_ (by assumption) ?_; rotate_left; (focus (intro w hSw; (try dsimp only at hSw); first | (go_simp; done) | (go_simp; with_reducible rfl))); try simp only [Act.put, List.setIfInBounds_toArray, List.set_cons_zero, List.set_cons_succ]); (refine takeD (i := 14) (some 56) rfl rfl (by kernel_rfl) (by kernel_rfl) (by kernel_rfl) (fun _ _ _ h => h) (v := ?_) rfl ?_ (by assumption) ?_; rotate_left; (focus (intro w hSw; (try dsimp only at hSw); first | (go_simp; done) | (go_simp; with_reducible rfl))); try simp only [Act.put, List.setIfInBounds_toArray, List.set_cons_zero, List.set_cons_succ]); (refine takeD (i := 15) (some 57) rfl rfl (by kernel_rfl) (by kernel_rfl) (by kernel_rfl) (fun _ _ _ h => h) (v := ?_) rfl ?_ (by assumption) ?_; rotate_left; (focus (intro w hSw; (try dsimp only at hSw); first | (go_simp; done) | (go_simp; with_reducible rfl))); try simp only [Act.put, List.setIfInBounds_toArray, List.set_cons_zero, List.set_cons_succ]); (refine takeD (i := 16) (some 58) rfl rfl (by kernel_rfl) (by kernel_rfl) (by kernel_rfl) (fun _ _ _ h => h) (v := ?_) rfl ?_ (by assumption) ?_; rotate_left; (focus (intro w hSw; (try dsimp only at hSw); first | (go_simp; done) | (go_simp; with_reducible rfl))); try simp only [Act.put, List.setIfInBounds_toArray, List.set_cons_zero, List.set_cons_succ]); (refine takeD (i := 17) (some 59) rfl rfl (by kernel_rfl) (by kernel_rfl) (by kernel_rfl) (fun _ _ _ h => h) (v := ?_) rfl ?_ (by assumption) ?_; rotate_left; (focus (intro w hSw; (try dsimp only at hSw); first | (go_simp; done) | (go_simp; with_reducible rfl))); try simp only [Act.put, List.setIfInBounds_toArray, List.set_cons_zero, List.set_cons_succ]); (refine takeD (i := 18) (some 60) rfl rfl (by kernel_rfl) (by kernel_rfl) (by kernel_rfl) (fun _ _ _ h => h) (v := ?_) rfl ?_ (by assumption) ?_; rotate_left; (focus (intro w hSw; (try dsimp only at hSw); first | (go_simp; done) | (go_simp; with_reducible rfl))); try simp only [Act.put, List.setIfInBounds_toArray, List.set_cons_zero, List.set_cons_succ]); (refine takeD (i := 19) (some 61) rfl rfl (by kernel_rfl) (by kernel_rfl) (by kernel_rfl) (fun _ _ _ h => h) (v := ?_) rfl ?_ (by assumption) ?_; rotate_left; (focus (intro w hSw; (try dsimp only at hSw); first | (go_simp; done) | (go_simp; with_reducible rfl))); try simp only [Act.put, List.setIfInBounds_toArray, List.set_cons_zero, List.set_cons_succ]); (refine takeD (i := 20) (some 62) rfl rfl (by kernel_rfl) (by kernel_rfl) (by kernel_rfl) (fun _ _ _ h => h) (v := ?_) rfl ?_ (by assumption) ?_; rotate_left; (focus (intro w hSw; (try dsimp only at hSw); first | (go_simp; done) | (go_simp; with_reducible rfl))); try simp only [Act.put, List.setIfInBounds_toArray, List.set_cons_zero, List.set_cons_succ]); (refine takeD (i := 21) (some 63) rfl rfl (by kernel_rfl) (by kernel_rfl) (by kernel_rfl) (fun _ _ _ h => h) (v := ?_) rfl ?_ (by assumption) ?_; rotate_left; (focus (intro w hSw; (try dsimp only at hSw); first | (go_simp; done) | (go_simp; with_reducible rfl))); try simp only [Act.put, List.setIfInBounds_toArray, List.set_cons_zero, List.set_cons_succ]); (refine takeD (i := 22) (some 64) rfl rfl (by kernel_rfl) (by kernel_rfl) (by kernel_rfl) (fun _ _ _ h => h) (v := ?_) rfl ?_ (by assumption) ?_; rotate_left; (focus (intro w hSw; (try dsimp only at hSw); first | (go_simp; done) | (go_simp; with_reducible rfl))); try simp only [Act.put, List.setIfInBounds_toArray, List.set_cons_zero, List.set_cons_succ]); (refine takeD (i := 23) (some 65) rfl rfl (by kernel_rfl) (by kernel_rfl) (by kernel_rfl) (fun _ _ _ h => h) (v := ?_) rfl ?_ (by assumption) ?_; rotate_left; (focus (intro w hSw; (try dsimp only at hSw); first | (go_simp; done) | (go_simp; with_reducible rfl))); try simp only [Act.put, List.setIfInBounds_toArray, List.set_cons_zero, List.set_cons_succ]); (refine takeD (i := 24) (some 66) rfl rfl (by kernel_rfl) (by kernel_rfl) (by kernel_rfl) (fun _ _ _ h => h) (v := ?_) rfl ?_ (by assumption) ?_; rotate_left; (focus (intro w hSw; (try dsimp only at hSw); first | (go_simp; done) | (go_simp; with_reducible rfl))); try simp only [Act.put, List.setIfInBounds_toArray, List.set_cons_zero, List.set_cons_succ])
                  (refine wpAnyH_ready (rs := [25]) (by kernel_rfl) (by simp) ?_; refine AllReadyH.cons (o := _) rfl (fun K hK => ?_) AllReadyH.nil; go_simp; skip; refine hK.out _ _ hS (fun hHeld => ?_); clear hK K; try simp only [Act.put, List.setIfInBounds_toArray, List.set_cons_zero, List.set_cons_succ]); refine wpAnyH_done (by kernel_rfl) ?_ _
                  go_wp2
                  go_roundw
                  case rel => exact ⟨_, _, bs', by omega, rfl, by go_num, st1, st2, st3⟩
                  case measure => simp [intOf] <;> omega
                · have g0 : ¬ (s[m].toNat : Int) = (p.o.toNat : Int) := fun q => hc (UInt8.toNat_inj.1 (by omega))
                  have g1 : ((s[m].toNat : Int) == (p.o.toNat : Int)) = false := by rw [beq_eq_false_iff_ne]; exact g0
                  rw [show (p.o == s[m]) = false by simp [hc], Bool.false_and] at hf
                  have HV := hide hf
                  clear r1 d2 bn hf ht hc
                  generalize fAt l s (k + 1) (m + 1) = X at *
                  obtain ⟨bs', st1, st2, st3⟩ := fill_put (wx := wr.drew) HO.out HFl.out hms HV.out HX.out.drew
                  obtain ⟨kk1, kk2, _⟩ := fill_cell st1 (show FillR bs' l s k (m + 1) from ⟨st2.1, fun j h1 h2 => st2.2 j (by omega) h2⟩) hms
                  have hS : (fun Y : World => Y.cell? ⟨gl, k * 2, none⟩ = some (.int .u8 0) ∧ Y.cell? ⟨gl, k * 2 + 1, none⟩ = some (.int .u8 (p.o.toNat : Int)) ∧ Y.cell? ⟨g, m + 1, none⟩ = some (.bool X) ∧ (∃ o, Y.cell? ⟨wo.heap.size, m, none⟩ = some o) ∧ Y.frozen? ⟨wo.heap.size, m, none⟩ = false ∧ (∃ bs, Y.ownsRow wo.heap.size 4 1 (.slice (some ⟨wo.heap.size, 0, none⟩) (s.length + 1) (s.length + 1)) (s.length + 1) (boolsC bs) ∧ FillR bs l s k (m + 1)) ∧ Below wo.heap.size wo Y) (wr.drew.setCell ⟨wo.heap.size, m, none⟩ (.bool false)) := ⟨(st3.cell (p := ⟨gl, k * 2, none⟩) hgl).trans ((HX.out.cell (p := ⟨gl, k * 2, none⟩) hgl).symm.trans b0), (st3.cell (p := ⟨gl, k * 2 + 1, none⟩) hgl).trans ((HX.out.cell (p := ⟨gl, k * 2 + 1, none⟩) hgl).symm.trans b1), (st3.cell (p := ⟨g, m + 1, none⟩) HN.out.1).trans ((HX.out.cell (p := ⟨g, m + 1, none⟩) HN.out.1).symm.trans e1), kk1, kk2, ⟨bs', st1, st2.1, fun j h1 h2 => st2.2 j (by omega) h2⟩, st3⟩
                  go_wp2
                  refine wp_region_held_drew (S := fun Y : World => Y.cell? ⟨gl, k * 2, none⟩ = some (.int .u8 0) ∧ Y.cell? ⟨gl, k * 2 + 1, none⟩ = some (.int .u8 (p.o.toNat : Int)) ∧ Y.cell? ⟨g, m + 1, none⟩ = some (.bool X) ∧ (∃ o, Y.cell? ⟨wo.heap.size, m, none⟩ = some o) ∧ Y.frozen? ⟨wo.heap.size, m, none⟩ = false ∧ (∃ bs, Y.ownsRow wo.heap.size 4 1 (.slice (some ⟨wo.heap.size, 0, none⟩) (s.length + 1) (s.length + 1)) (s.length + 1) (boolsC bs) ∧ FillR bs l s k (m + 1)) ∧ Below wo.heap.size wo Y) (by kernel_rfl) ⟨b0, b1, e1, ⟨_, d0⟩, d1, ⟨bs, HO.out, HFl.out⟩, HX.out.drew⟩ (fun hHeld => ?_)
                  (refine takeD (i := 0) (some 42) rfl rfl (by kernel_rfl) (by kernel_rfl) (by kernel_rfl) (fun _ _ _ h => h) (v := ?_) rfl ?_ (by assumption) ?_; rotate_left; (focus (intro w hSw; (try dsimp only at hSw); first | (go_simp; done) | (go_simp; with_reducible rfl))); try simp only [Act.put, List.setIfInBounds_toArray, List.set_cons_zero, List.set_cons_succ]); (refine takeD (i := 1) (some 43) rfl rfl (by kernel_rfl) (by kernel_rfl) (by kernel_rfl) (fun _ _ _ h => h) (v := ?_) rfl ?_ (by assumption) ?_; rotate_left; (focus (intro w hSw; (try dsimp only at hSw); first | (go_simp; done) | (go_simp; with_reducible rfl))); try simp only [Act.put, List.setIfInBounds_toArray, List.set_cons_zero, List.set_cons_succ]); (refine takeD (i := 2) (some 44) rfl rfl (by kernel_rfl) (by kernel_rfl) (by kernel_rfl) (fun _ _ _ h => h) (v := ?_) rfl ?_ (by assumption) ?_; rotate_left; (focus (intro w hSw; (try dsimp only at hSw); first | (go_simp; done) | (go_simp; with_reducible rfl))); try simp only [Act.put, List.setIfInBounds_toArray, List.set_cons_zero, List.set_cons_succ]); (refine takeD (i := 3) (some 45) rfl rfl (by kernel_rfl) (by kernel_rfl) (by kernel_rfl) (fun _ _ _ h => h) (v := ?_) rfl ?_ (by assumption) ?_; rotate_left; (focus (intro w hSw; (try dsimp only at hSw); first | (go_simp; done) | (go_simp; with_reducible rfl))); try simp only [Act.put, List.setIfInBounds_toArray, List.set_cons_zero, List.set_cons_succ]); (refine takeD (i := 4) (some 46) rfl rfl (by kernel_rfl) (by kernel_rfl) (by kernel_rfl) (fun _ _ _ h => h) (v := ?_) rfl ?_ (by assumption) ?_; rotate_left; (focus (intro w hSw; (try dsimp only at hSw); first | (go_simp; done) | (go_simp; with_reducible rfl))); try simp only [Act.put, List.setIfInBounds_toArray, List.set_cons_zero, List.set_cons_succ]); (refine takeD (i := 5) (some 47) rfl rfl (by kernel_rfl) (by kernel_rfl) (by kernel_rfl) (fun _ _ _ h => h) (v := ?_) rfl ?_ (by assumption) ?_; rotate_left; (focus (intro w hSw; (try dsimp only at hSw); first | (go_simp; done) | (go_simp; with_reducible rfl))); try simp only [Act.put, List.setIfInBounds_toArray, List.set_cons_zero, List.set_cons_succ]); (refine takeD (i := 6) (some 48) rfl rfl (by kernel_rfl) (by kernel_rfl) (by kernel_rfl) (fun _ _ _ h => h) (v := ?_) rfl ?_ (by assumption) ?_; rotate_left; (focus (intro w hSw; (try dsimp only at hSw); first | (go_simp; done) | (go_simp; with_reducible rfl))); try simp only [Act.put, List.setIfInBounds_toArray, List.set_cons_zero, List.set_cons_succ]); (refine takeD (i := 7) (some 49) rfl rfl (by kernel_rfl) (by kernel_rfl) (by kernel_rfl) (fun _ _ _ h => h) (v := ?_) rfl ?_ (by assumption) ?_; rotate_left; (focus (intro w hSw; (try dsimp only at hSw); first | (go_simp; done) | (go_simp; with_reducible rfl))); try simp only [Act.put, List.setIfInBounds_toArray, List.set_cons_zero, List.set_cons_succ]); (refine takeD (i := 8) (some 50) rfl rfl (by kernel_rfl) (by kernel_rfl) (by kernel_rfl) (fun _ _ _ h => h) (v := ?_) rfl ?_ (by assumption) ?_; rotate_left; (focus (intro w hSw; (try dsimp only at hSw); first | (go_simp; done) | (go_simp; with_reducible rfl))); try simp only [Act.put, List.setIfInBounds_toArray, List.set_cons_zero, List.set_cons_succ]); (refine takeD (i := 9) (some 51) rfl rfl (by kernel_rfl) (by kernel_rfl) (by kernel_rfl) (fun _ _ _ h => h) (v := ?_) rfl ?_ (by assumption) ?_; rotate_left; (focus (intro w hSw; (try dsimp only at hSw); first | (go_simp; done) | (go_simp; with_reducible rfl))); try simp only [Act.put, List.setIfInBounds_toArray, List.set_cons_zero, List.set_cons_succ]); (refine takeD (i := 10) (some 52) rfl rfl (by kernel_rfl) (by kernel_rfl) (by kernel_rfl) (fun _ _ _ h => h) (v := ?_) rfl ?_ (by assumption) ?_; rotate_left; (focus (intro w hSw; (try dsimp only at hSw); first | (go_simp; done) | (go_simp; with_reducible rfl))); try simp only [Act.put, List.setIfInBounds_toArray, List.set_cons_zero, List.set_cons_succ]); (refine takeD (i := 11) (some 53) rfl rfl (by kernel_rfl) (by kernel_rfl) (by kernel_rfl) (fun _ _ _ h => h) (v := ?_) rfl ?_ (by assumption) ?_; rotate_left; (focus (intro w hSw; (try dsimp only at hSw); first | (go_simp; done) | (go_simp; with_reducible rfl))); try simp only [Act.put, List.setIfInBounds_toArray, List.set_cons_zero, List.set_cons_succ]); (refine takeD (i := 12) (some 54) rfl rfl (by kernel_rfl) (by kernel_rfl) (by kernel_rfl) (fun _ _ _ h => h) (v := ?_) rfl ?_ (by assumption) ?_; rotate_left; (focus (intro w hSw; (try dsimp only at hSw); first | (go_simp; done) | (go_simp; with_reducible rfl))); try simp only [Act.put, List.setIfInBounds_toArray, List.set_cons_zero, List.set_cons_succ]); (refine takeD (i := 13) (some 55) rfl rfl (by kernel_rfl) (by kernel_rfl) (by kernel_rfl) (fun _ _ _ h => h) (v := ?_) rfl ?_ (by assumption) ?_; rotate_left; (focus (intro w hSw; (try dsimp only at hSw); first | (go_simp; done) | (go_simp; with_reducible rfl))); try simp only [Act.put, List.setIfInBounds_toArray, List.set_cons_zero, List.set_cons_succ]); (refine takeD (i := 14) (some 56) rfl rfl (by kernel_rfl) (by kernel_rfl) (by kernel_rfl) (fun _ _ _ h => h) (v := ?_) rfl ?_ (by assumption) ?_; rotate_left; (focus (intro w hSw; (try dsimp only at hSw); first | (go_simp; done) | (go_simp; with_reducible rfl))); try simp only [Act.put, List.setIfInBounds_toArray, List.set_cons_zero, List.set_cons_succ]); (refine takeD (i := 15) (some 57) rfl rfl (by kernel_rfl) (by kernel_rfl) (by kernel_rfl) (fun _ _ _ h => h) (v := ?_) rfl ?_ (by assumption) ?_; rotate_left; (focus (intro w hSw; (try dsimp only at hSw); first | (go_simp; done) | (go_simp; with_reducible rfl))); try simp only [Act.put, List.setIfInBounds_toArray, List.set_cons_zero, List.set_cons_succ]); (refine takeD (i := 16) (some 58) rfl rfl (by kernel_rfl) (by kernel_rfl) (by kernel_rfl) (fun _ _ _ h => h) (v := ?_) rfl ?_ (by assumption) ?_; rotate_left; (focus (intro w hSw; (try dsimp only at hSw); first | (go_simp; done) | (go_simp; with_reducible rfl))); try simp only [Act.put, List.setIfInBounds_toArray, List.set_cons_zero, List.set_cons_succ]); (refine takeD (i := 17) (some 59) rfl rfl (by kernel_rfl) (by kernel_rfl) (by kernel_rfl) (fun _ _ _ h => h) (v := ?_) rfl ?_ (by assumption) ?_; rotate_left; (focus (intro w hSw; (try dsimp only at hSw); first | (go_simp; done) | (go_simp; with_reducible rfl))); try simp only [Act.put, List.setIfInBounds_toArray, List.set_cons_zero, List.set_cons_succ]); (refine skipD (i := 18) (some 60) rfl rfl (by kernel_rfl) (by kernel_rfl) (by kernel_rfl) (fun _ _ _ h => h) rfl (by assumption) ?_; try simp only [Act.put, List.setIfInBounds_toArray, List.set_cons_zero, List.set_cons_succ]); (refine skipD (i := 19) (some 61) rfl rfl (by kernel_rfl) (by kernel_rfl) (by kernel_rfl) (fun _ _ _ h => h) rfl (by assumption) ?_; try simp only [Act.put, List.setIfInBounds_toArray, List.set_cons_zero, List.set_cons_succ]); (refine skipD (i := 20) (some 62) rfl rfl (by kernel_rfl) (by kernel_rfl) (by kernel_rfl) (fun _ _ _ h => h) rfl (by assumption) ?_; try simp only [Act.put, List.setIfInBounds_toArray, List.set_cons_zero, List.set_cons_succ]); (refine skipD (i := 21) (some 63) rfl rfl (by kernel_rfl) (by kernel_rfl) (by kernel_rfl) (fun _ _ _ h => h) rfl (by assumption) ?_; try simp only [Act.put, List.setIfInBounds_toArray, List.set_cons_zero, List.set_cons_succ]); (refine skipD (i := 22) (some 64) rfl rfl (by kernel_rfl) (by kernel_rfl) (by kernel_rfl) (fun _ _ _ h => h) rfl (by assumption) ?_; try simp only [Act.put, List.setIfInBounds_toArray, List.set_cons_zero, List.set_cons_succ]); (refine takeD (i := 23) (some 65) rfl rfl (by kernel_rfl) (by kernel_rfl) (by kernel_rfl) (fun _ _ _ h => h) (v := ?_) rfl ?_ (by assumption) ?_; rotate_left; (focus (intro w hSw; (try dsimp only at hSw); first | (go_simp; done) | (go_simp; with_reducible rfl))); try simp only [Act.put, List.setIfInBounds_toArray, List.set_cons_zero, List.set_cons_succ]); (refine takeD (i := 24) (some 66) rfl rfl (by kernel_rfl) (by kernel_rfl) (by kernel_rfl) (fun _ _ _ h => h) (v := ?_) rfl ?_ (by assumption) ?_; rotate_left; (focus (intro w hSw; (try dsimp only at hSw); first | (go_simp; done) | (go_simp; with_reducible rfl))); try simp only [Act.put, List.setIfInBounds_toArray, List.set_cons_zero, List.set_cons_succ])
                  (refine wpAnyH_ready (rs := [25]) (by kernel_rfl) (by simp) ?_; refine AllReadyH.cons (o := _) rfl (fun K hK => ?_) AllReadyH.nil; go_simp; skip; refine hK.out _ _ hS (fun hHeld => ?_); clear hK K; try simp only [Act.put, List.setIfInBounds_toArray, List.set_cons_zero, List.set_cons_succ]); refine wpAnyH_done (by kernel_rfl) ?_ _
                  go_wp2
                  go_roundw
                  case rel => exact ⟨_, _, bs', by omega, rfl, by go_num, st1, st2, st3⟩
                  case measure => simp [intOf] <;> omega
            · obtain rfl : m = s.length := by omega
              have j3 : ¬ (s.length : Int) < (s.length : Int) := by omega
              have HV := hide (fAt_end (s := s) (j := s.length) HP.out k2 (Nat.le_refl _))
              by_cases k1 : p.k = 1
              · have r1 : rkB p = 63 := by unfold rkB; rw [if_neg k2, if_pos k1]
                rw [r1] at b0
                clear r1 d2 bn hlt
                go_wp2
                go_roundw
                case rel =>
                  obtain ⟨bs', st1, st2, st3⟩ := fill_put HO.out HFl.out (by omega) HV.out HX.out
                  exact ⟨_, _, bs', by omega, rfl, by go_num, st1, st2, st3⟩
                case measure => simp [intOf] <;> omega
              · have r1 : rkB p = 0 := by unfold rkB; rw [if_neg k2, if_neg k1]
                rw [r1] at b0
                clear r1 d2 bn hlt
                obtain ⟨bs', st1, st2, st3⟩ := fill_put (wx := wr.drew) HO.out HFl.out hms HV.out HX.out.drew
                obtain ⟨kk1, kk2, _⟩ := fill_cell st1 (show FillR bs' l s k (s.length + 1) from ⟨st2.1, fun j h1 h2 => st2.2 j (by omega) h2⟩) hms
                have hS : (fun Y : World => Y.cell? ⟨gl, k * 2, none⟩ = some (.int .u8 0) ∧ Y.cell? ⟨gl, k * 2 + 1, none⟩ = some (.int .u8 (p.o.toNat : Int)) ∧ (∃ o, Y.cell? ⟨wo.heap.size, s.length, none⟩ = some o) ∧ Y.frozen? ⟨wo.heap.size, s.length, none⟩ = false ∧ (∃ bs, Y.ownsRow wo.heap.size 4 1 (.slice (some ⟨wo.heap.size, 0, none⟩) (s.length + 1) (s.length + 1)) (s.length + 1) (boolsC bs) ∧ FillR bs l s k (s.length + 1)) ∧ Below wo.heap.size wo Y) (wr.drew.setCell ⟨wo.heap.size, s.length, none⟩ (.bool false)) := ⟨(st3.cell (p := ⟨gl, k * 2, none⟩) hgl).trans ((HX.out.cell (p := ⟨gl, k * 2, none⟩) hgl).symm.trans b0), (st3.cell (p := ⟨gl, k * 2 + 1, none⟩) hgl).trans ((HX.out.cell (p := ⟨gl, k * 2 + 1, none⟩) hgl).symm.trans b1), kk1, kk2, ⟨bs', st1, st2.1, fun j h1 h2 => st2.2 j (by omega) h2⟩, st3⟩
                go_wp2
                refine wp_region_held_drew (S := fun Y : World => Y.cell? ⟨gl, k * 2, none⟩ = some (.int .u8 0) ∧ Y.cell? ⟨gl, k * 2 + 1, none⟩ = some (.int .u8 (p.o.toNat : Int)) ∧ (∃ o, Y.cell? ⟨wo.heap.size, s.length, none⟩ = some o) ∧ Y.frozen? ⟨wo.heap.size, s.length, none⟩ = false ∧ (∃ bs, Y.ownsRow wo.heap.size 4 1 (.slice (some ⟨wo.heap.size, 0, none⟩) (s.length + 1) (s.length + 1)) (s.length + 1) (boolsC bs) ∧ FillR bs l s k (s.length + 1)) ∧ Below wo.heap.size wo Y) (by kernel_rfl) ⟨b0, b1, ⟨_, d0⟩, d1, ⟨bs, HO.out, HFl.out⟩, HX.out.drew⟩ (fun hHeld => ?_)
                (refine takeD (i := 0) (some 42) rfl rfl (by kernel_rfl) (by kernel_rfl) (by kernel_rfl) (fun _ _ _ h => h) (v := ?_) rfl ?_ (by assumption) ?_; rotate_left; (focus (intro w hSw; (try dsimp only at hSw); first | (go_simp; done) | (go_simp; with_reducible rfl))); try simp only [Act.put, List.setIfInBounds_toArray, List.set_cons_zero, List.set_cons_succ]); (refine takeD (i := 1) (some 43) rfl rfl (by kernel_rfl) (by kernel_rfl) (by kernel_rfl) (fun _ _ _ h => h) (v := ?_) rfl ?_ (by assumption) ?_; rotate_left; (focus (intro w hSw; (try dsimp only at hSw); first | (go_simp; done) | (go_simp; with_reducible rfl))); try simp only [Act.put, List.setIfInBounds_toArray, List.set_cons_zero, List.set_cons_succ]); (refine takeD (i := 2) (some 44) rfl rfl (by kernel_rfl) (by kernel_rfl) (by kernel_rfl) (fun _ _ _ h => h) (v := ?_) rfl ?_ (by assumption) ?_; rotate_left; (focus (intro w hSw; (try dsimp only at hSw); first | (go_simp; done) | (go_simp; with_reducible rfl))); try simp only [Act.put, List.setIfInBounds_toArray, List.set_cons_zero, List.set_cons_succ]); (refine takeD (i := 3) (some 45) rfl rfl (by kernel_rfl) (by kernel_rfl) (by kernel_rfl) (fun _ _ _ h => h) (v := ?_) rfl ?_ (by assumption) ?_; rotate_left; (focus (intro w hSw; (try dsimp only at hSw); first | (go_simp; done) | (go_simp; with_reducible rfl))); try simp only [Act.put, List.setIfInBounds_toArray, List.set_cons_zero, List.set_cons_succ]); (refine takeD (i := 4) (some 46) rfl rfl (by kernel_rfl) (by kernel_rfl) (by kernel_rfl) (fun _ _ _ h => h) (v := ?_) rfl ?_ (by assumption) ?_; rotate_left; (focus (intro w hSw; (try dsimp only at hSw); first | (go_simp; done) | (go_simp; with_reducible rfl))); try simp only [Act.put, List.setIfInBounds_toArray, List.set_cons_zero, List.set_cons_succ]); (refine takeD (i := 5) (some 47) rfl rfl (by kernel_rfl) (by kernel_rfl) (by kernel_rfl) (fun _ _ _ h => h) (v := ?_) rfl ?_ (by assumption) ?_; rotate_left; (focus (intro w hSw; (try dsimp only at hSw); first | (go_simp; done) | (go_simp; with_reducible rfl))); try simp only [Act.put, List.setIfInBounds_toArray, List.set_cons_zero, List.set_cons_succ]); (refine takeD (i := 6) (some 48) rfl rfl (by kernel_rfl) (by kernel_rfl) (by kernel_rfl) (fun _ _ _ h => h) (v := ?_) rfl ?_ (by assumption) ?_; rotate_left; (focus (intro w hSw; (try dsimp only at hSw); first | (go_simp; done) | (go_simp; with_reducible rfl))); try simp only [Act.put, List.setIfInBounds_toArray, List.set_cons_zero, List.set_cons_succ]); (refine skipD (i := 7) (some 49) rfl rfl (by kernel_rfl) (by kernel_rfl) (by kernel_rfl) (fun _ _ _ h => h) rfl (by assumption) ?_; try simp only [Act.put, List.setIfInBounds_toArray, List.set_cons_zero, List.set_cons_succ]); (refine skipD (i := 8) (some 50) rfl rfl (by kernel_rfl) (by kernel_rfl) (by kernel_rfl) (fun _ _ _ h => h) rfl (by assumption) ?_; try simp only [Act.put, List.setIfInBounds_toArray, List.set_cons_zero, List.set_cons_succ]); (refine skipD (i := 9) (some 51) rfl rfl (by kernel_rfl) (by kernel_rfl) (by kernel_rfl) (fun _ _ _ h => h) rfl (by assumption) ?_; try simp only [Act.put, List.setIfInBounds_toArray, List.set_cons_zero, List.set_cons_succ]); (refine skipD (i := 10) (some 52) rfl rfl (by kernel_rfl) (by kernel_rfl) (by kernel_rfl) (fun _ _ _ h => h) rfl (by assumption) ?_; try simp only [Act.put, List.setIfInBounds_toArray, List.set_cons_zero, List.set_cons_succ]); (refine skipD (i := 11) (some 53) rfl rfl (by kernel_rfl) (by kernel_rfl) (by kernel_rfl) (fun _ _ _ h => h) rfl (by assumption) ?_; try simp only [Act.put, List.setIfInBounds_toArray, List.set_cons_zero, List.set_cons_succ]); (refine skipD (i := 12) (some 54) rfl rfl (by kernel_rfl) (by kernel_rfl) (by kernel_rfl) (fun _ _ _ h => h) rfl (by assumption) ?_; try simp only [Act.put, List.setIfInBounds_toArray, List.set_cons_zero, List.set_cons_succ]); (refine skipD (i := 13) (some 55) rfl rfl (by kernel_rfl) (by kernel_rfl) (by kernel_rfl) (fun _ _ _ h => h) rfl (by assumption) ?_; try simp only [Act.put, List.setIfInBounds_toArray, List.set_cons_zero, List.set_cons_succ]); (refine skipD (i := 14) (some 56) rfl rfl (by kernel_rfl) (by kernel_rfl) (by kernel_rfl) (fun _ _ _ h => h) rfl (by assumption) ?_; try simp only [Act.put, List.setIfInBounds_toArray, List.set_cons_zero, List.set_cons_succ]); (refine skipD (i := 15) (some 57) rfl rfl (by kernel_rfl) (by kernel_rfl) (by kernel_rfl) (fun _ _ _ h => h) rfl (by assumption) ?_; try simp only [Act.put, List.setIfInBounds_toArray, List.set_cons_zero, List.set_cons_succ]); (refine takeD (i := 16) (some 58) rfl rfl (by kernel_rfl) (by kernel_rfl) (by kernel_rfl) (fun _ _ _ h => h) (v := ?_) rfl ?_ (by assumption) ?_; rotate_left; (focus (intro w hSw; (try dsimp only at hSw); first | (go_simp; done) | (go_simp; with_reducible rfl))); try simp only [Act.put, List.setIfInBounds_toArray, List.set_cons_zero, List.set_cons_succ]); (refine takeD (i := 17) (some 59) rfl rfl (by kernel_rfl) (by kernel_rfl) (by kernel_rfl) (fun _ _ _ h => h) (v := ?_) rfl ?_ (by assumption) ?_; rotate_left; (focus (intro w hSw; (try dsimp only at hSw); first | (go_simp; done) | (go_simp; with_reducible rfl))); try simp only [Act.put, List.setIfInBounds_toArray, List.set_cons_zero, List.set_cons_succ]); (refine skipD (i := 18) (some 60) rfl rfl (by kernel_rfl) (by kernel_rfl) (by kernel_rfl) (fun _ _ _ h => h) rfl (by assumption) ?_; try simp only [Act.put, List.setIfInBounds_toArray, List.set_cons_zero, List.set_cons_succ]); (refine skipD (i := 19) (some 61) rfl rfl (by kernel_rfl) (by kernel_rfl) (by kernel_rfl) (fun _ _ _ h => h) rfl (by assumption) ?_; try simp only [Act.put, List.setIfInBounds_toArray, List.set_cons_zero, List.set_cons_succ]); (refine skipD (i := 20) (some 62) rfl rfl (by kernel_rfl) (by kernel_rfl) (by kernel_rfl) (fun _ _ _ h => h) rfl (by assumption) ?_; try simp only [Act.put, List.setIfInBounds_toArray, List.set_cons_zero, List.set_cons_succ]); (refine skipD (i := 21) (some 63) rfl rfl (by kernel_rfl) (by kernel_rfl) (by kernel_rfl) (fun _ _ _ h => h) rfl (by assumption) ?_; try simp only [Act.put, List.setIfInBounds_toArray, List.set_cons_zero, List.set_cons_succ]); (refine skipD (i := 22) (some 64) rfl rfl (by kernel_rfl) (by kernel_rfl) (by kernel_rfl) (fun _ _ _ h => h) rfl (by assumption) ?_; try simp only [Act.put, List.setIfInBounds_toArray, List.set_cons_zero, List.set_cons_succ]); (refine takeD (i := 23) (some 65) rfl rfl (by kernel_rfl) (by kernel_rfl) (by kernel_rfl) (fun _ _ _ h => h) (v := ?_) rfl ?_ (by assumption) ?_; rotate_left; (focus (intro w hSw; (try dsimp only at hSw); first | (go_simp; done) | (go_simp; with_reducible rfl))); try simp only [Act.put, List.setIfInBounds_toArray, List.set_cons_zero, List.set_cons_succ]); (refine takeD (i := 24) (some 66) rfl rfl (by kernel_rfl) (by kernel_rfl) (by kernel_rfl) (fun _ _ _ h => h) (v := ?_) rfl ?_ (by assumption) ?_; rotate_left; (focus (intro w hSw; (try dsimp only at hSw); first | (go_simp; done) | (go_simp; with_reducible rfl))); try simp only [Act.put, List.setIfInBounds_toArray, List.set_cons_zero, List.set_cons_succ])
                (refine wpAnyH_ready (rs := [25]) (by kernel_rfl) (by simp) ?_; refine AllReadyH.cons (o := _) rfl (fun K hK => ?_) AllReadyH.nil; go_simp; skip; refine hK.out _ _ hS (fun hHeld => ?_); clear hK K; try simp only [Act.put, List.setIfInBounds_toArray, List.set_cons_zero, List.set_cons_succ]); refine wpAnyH_done (by kernel_rfl) ?_ _
                go_wp2
                go_roundw
                case rel => exact ⟨_, _, bs', by omega, rfl, by go_num, st1, st2, st3⟩
                case measure => simp [intOf] <;> omega
end Go.Proofs.YthooimaadgabiaaDoor
