/-
  The contract of crit's steps.
-/
import Derived.Test.YthooimaadgabiabDoorCr0
import Derived.Test.YthooimaadgabiabDoorKVal
import Derived.Laws.AppendOwn
import Derived.Laws.OwnMore
import Derived.OwnWalk
namespace Go.Proofs.YthooimaadgabiabDoor
open Go.RowKit
set_option linter.unusedSimpArgs false

theorem infoStp : (Tryd.prog.info? 81).map (fun i => (i.zero, i.size, i.bytes)) = some (some (.agg #[.int .u8 0, .int .u8 0]), 2, 2) := by kernel_rfl
def stpC (p : Stp) : List Value := [.int .u8 (p.k : Int), .int .u8 (p.o.toNat : Int)]
def stpsC (l : List Stp) : List Value := l.flatMap stpC
theorem stps_snoc (l : List Stp) (p : Stp) : stpsC (l ++ [p]) = stpsC l ++ stpC p := by simp [stpsC]
/-- A row of steps that grows within its room. -/
def StRow (w0 w : World) (v : Value) (room : Nat) (l : List Stp) : Prop :=
  ∃ g, v = .slice (some ⟨g, 0, none⟩) l.length room ∧ w.ownsRow w0.heap.size 81 2 (.slice (some ⟨g, 0, none⟩) l.length room) l.length (stpsC l) ∧ Below w0.heap.size w0 w
/-- Where the reading of a pattern stands. -/
inductive Sd (l : List UInt8) : Nat → List Stp → Prop where
  | at {i : Nat} {a : List Stp} : i ≤ l.length → stepsR l = a ++ stepsR (l.drop i) → a.length ≤ i → Sd l i a
theorem drop_cons {l : List UInt8} {i : Nat} (h : i < l.length) : l.drop i = l[i] :: l.drop (i + 1) := List.drop_eq_getElem_cons h
theorem sd_any {l : List UInt8} {i : Nat} {a : List Stp} (h : Sd l i a) (hi : i < l.length) (hc : l[i] = 63) : Sd l (i + 1) (a ++ [⟨1, 0⟩]) := by
  obtain ⟨_, h1, h2⟩ := h
  exact .at hi (by rw [h1, drop_cons hi, steps_any hc]; simp) (by simp; omega)
theorem sd_row {l : List UInt8} {i : Nat} {a : List Stp} (h : Sd l i a) (hi : i < l.length) (hc : l[i] = 42) : Sd l (i + 1) (a ++ [⟨2, 0⟩]) := by
  obtain ⟨_, h1, h2⟩ := h
  exact .at hi (by rw [h1, drop_cons hi, steps_row hc]; simp) (by simp; omega)
theorem sd_own {l : List UInt8} {i : Nat} {a : List Stp} (h : Sd l i a) (hi : i + 1 < l.length) (hc : l[i] = 126) : Sd l (i + 2) (a ++ [⟨0, l[i + 1]⟩]) := by
  obtain ⟨_, h1, h2⟩ := h
  exact .at hi (by rw [h1, drop_cons (show i < l.length by omega), drop_cons hi, steps_own hc]; simp) (by simp; omega)
theorem sd_self {l : List UInt8} {i : Nat} {a : List Stp} (h : Sd l i a) (hi : i < l.length) (h1 : l[i] ≠ 63) (h2 : l[i] ≠ 42) (h3 : l[i] ≠ 126 ∨ ¬ i + 1 < l.length) : Sd l (i + 1) (a ++ [⟨0, l[i]⟩]) := by
  obtain ⟨_, g1, g2⟩ := h
  refine .at hi ?_ (by simp; omega)
  rw [g1, drop_cons hi]
  rcases h3 with h3 | h3
  · rw [steps_self h1 h2 h3]; simp
  · have : l.drop (i + 1) = [] := List.drop_eq_nil_of_le (by omega)
    rw [this, steps_last h1 h2]; simp [stepsR]
theorem sd_end {l : List UInt8} {i : Nat} {a : List Stp} (h : Sd l i a) (hi : ¬ i < l.length) : a = stepsR l := by
  obtain ⟨_, h1, _⟩ := h
  rw [h1, List.drop_eq_nil_of_le (by omega)]; simp [stepsR]
theorem strow_grown {w0 w w1 : World} {room g : Nat} {l : List Stp} {p : Stp} {o : Obj} (h : w.ownsRow w0.heap.size 81 2 (.slice (some ⟨g, 0, none⟩) l.length room) l.length (stpsC l)) (hb : Below w0.heap.size w0 w)
    (h1 : w1.ownsRow w0.heap.size 81 2 (.slice (some ⟨g, 0, none⟩) (l.length + 1) room) (l.length + 1) (stpsC l ++ stpC p)) (hg : (w.alloc o).grownBy w1 (some g)) : StRow w0 w1 (.slice (some ⟨g, 0, none⟩) (l.length + 1) room) room (l ++ [p]) := by
  refine ⟨g, by simp, ?_, ?_⟩
  · rw [stps_snoc]; simpa using h1
  · refine (hb.alloc hb.size o).grown hg ?_ (fun j hj => (h.lt j hj).1)
    have := hb.size; simp; omega
set_option maxRecDepth 100000 in
set_option maxHeartbeats 4000000 in
theorem csteps_any (s : ByteArray) (w : World) (hs : s.size ≤ 140737488355328) :
    Calls Tryd.prog 51 #[.string s] w fun e w' => ∃ v, e = .returned v ∧ StRow w w' v s.size (stepsR (foldL s.data.toList)) := by
  obtain ⟨i0, hi, hz0, hz1, hz2⟩ := info_parts infoStp
  have HF : Hid (∀ W : World, Calls Tryd.prog 12 #[.string s] W fun e w' => e = .returned (.string ⟨(foldL s.data.toList).toArray⟩) ∧ Below W.heap.size W w') := fun W => fold_any s W
  have hlen : (foldL s.data.toList).length = s.size := by rw [foldL_len, Array.length_toList]; rfl
  generalize foldL s.data.toList = L at *
  have sz : (⟨L.toArray⟩ : ByteArray).size = L.length := by show L.toArray.size = _; simp
  go_enter Tryd.func51, Tryd.ntmps51
  have HLs := hide hlen
  clear hlen
  go_wp2_with (first | (go_at_call 12; refine (HF.out _).mono ?_; rintro e w1 ⟨rfl, hb1⟩) | (at_make; refine wpList_make_own _ rfl _ _ 65 rfl w.heap.size 81 i0 (.agg #[.int .u8 0, .int .u8 0]) 2 Tryd.underlying65 hi hz0 hz1 .i64 .i64 _ L.length rfl rfl rfl (by rw [hz2]; have := HLs.out; omega) (by have := HLs.out; unfold maxLen; omega) hb1.size ?_; intro w0 hown0 hgrow0))
  have HB0 : Hid (Below w.heap.size w w0) := hb1.grown hgrow0 hb1.size (by simp)
  have HO0 := hide hown0
  clear hown0 hgrow0 HF
  go_loopw [4, 5] (fun av iv wr => ∃ (i g : Nat) (a : List Stp), iv = .int .i64 i ∧ av = .slice (some ⟨g, 0, none⟩) a.length L.length ∧ wr.ownsRow w.heap.size 81 2 (.slice (some ⟨g, 0, none⟩) a.length L.length) a.length (stpsC a) ∧ Below w.heap.size w wr ∧ Hid (Sd L i a)) (fun _ iv _ => L.length - (intOf iv).toNat)
  case atStart => exact ⟨0, _, [], rfl, rfl, HO0.out, HB0.out, .at (Nat.zero_le _) rfl (Nat.le_refl _)⟩
  case round =>
    obtain ⟨i, g, a, rfl, rfl, hown, hB, HS⟩ := hrel
    have hla : a.length ≤ i := by obtain ⟨_, _, h⟩ := HS.out; exact h
    have hbs := hB.size
    have hll : L.length ≤ 140737488355328 := by have := HLs.out; omega
    by_cases hlt : i < L.length
    · have g1 : (i : Int) < (L.length : Int) := by omega
      have hx : ∀ h, (⟨L.toArray⟩ : ByteArray)[i]'h = L[i] := fun h => rfl
      have hn63 : (L[i].toNat : Int) = 63 ↔ L[i] = 63 := ⟨fun h => UInt8.toNat_inj.1 (by show L[i].toNat = 63; omega), fun h => by rw [h]; rfl⟩
      have hn42 : (L[i].toNat : Int) = 42 ↔ L[i] = 42 := ⟨fun h => UInt8.toNat_inj.1 (by show L[i].toNat = 42; omega), fun h => by rw [h]; rfl⟩
      have hn126 : (L[i].toNat : Int) = 126 ↔ L[i] = 126 := ⟨fun h => UInt8.toNat_inj.1 (by show L[i].toNat = 126; omega), fun h => by rw [h]; rfl⟩
      by_cases c1 : (L[i].toNat : Int) = 63
      · have HN := hide (sd_any HS.out hlt (hn63.1 c1))
        have b1 : ((L[i].toNat : Int) == 63) = true := by rw [c1]; rfl
        clear HS hn63 hn42 hn126
        go_wp2_with (first | (at_builtin; refine wpList_append_fits _ rfl _ _ 65 rfl w.heap.size 81 i0 2 Tryd.underlying65 hi hz1 g a.length L.length (stpsC a) rfl (hown.alloc _) ⟨wr.heap.size, 0, none⟩ 1 1 [.int .u8 1, .int .u8 0] rfl rfl (by intro j u hj; match j, hj with | 0, hj => simp at hj; subst hj; simp [Addr.add] | 1, hj => simp at hj; subst hj; simp [Addr.add] <;> omega) (by intro u hu; simp at hu; rcases hu with rfl | rfl <;> rfl) (by omega) ?_; intro w2 hown2 hgrow2) | go_in)
        have R := hide (strow_grown (p := ⟨1, 0⟩) hown hB hown2 hgrow2)
        clear hown2 hgrow2 hown hB
        go_wp2
        go_roundw
        case rel =>
          obtain ⟨g', e', r1, r2⟩ := R.out
          obtain rfl : g = g' := by simp only [Value.slice.injEq, Option.some.injEq, Addr.mk.injEq, and_true, true_and] at e'; exact e'.1
          exact ⟨i + 1, g, a ++ [⟨1, 0⟩], by go_num, by simp, r1, r2, HN⟩
        case measure => simp [intOf]; omega
      have d1 : ((L[i].toNat : Int) == 63) = false := by rw [beq_eq_false_iff_ne]; exact c1
      by_cases c2 : (L[i].toNat : Int) = 42
      · have HN := hide (sd_row HS.out hlt (hn42.1 c2))
        have b1 : ((L[i].toNat : Int) == 42) = true := by rw [c2]; rfl
        clear HS hn63 hn42 hn126
        go_wp2_with (first | (at_builtin; refine wpList_append_fits _ rfl _ _ 65 rfl w.heap.size 81 i0 2 Tryd.underlying65 hi hz1 g a.length L.length (stpsC a) rfl (hown.alloc _) ⟨wr.heap.size, 0, none⟩ 1 1 [.int .u8 2, .int .u8 0] rfl rfl (by intro j u hj; match j, hj with | 0, hj => simp at hj; subst hj; simp [Addr.add] | 1, hj => simp at hj; subst hj; simp [Addr.add] <;> omega) (by intro u hu; simp at hu; rcases hu with rfl | rfl <;> rfl) (by omega) ?_; intro w2 hown2 hgrow2) | go_in)
        have R := hide (strow_grown (p := ⟨2, 0⟩) hown hB hown2 hgrow2)
        clear hown2 hgrow2 hown hB
        go_wp2
        go_roundw
        case rel =>
          obtain ⟨g', e', r1, r2⟩ := R.out
          obtain rfl : g = g' := by simp only [Value.slice.injEq, Option.some.injEq, Addr.mk.injEq, and_true, true_and] at e'; exact e'.1
          exact ⟨i + 1, g, a ++ [⟨2, 0⟩], by go_num, by simp, r1, r2, HN⟩
        case measure => simp [intOf]; omega
      have d2 : ((L[i].toNat : Int) == 42) = false := by rw [beq_eq_false_iff_ne]; exact c2
      by_cases c3 : (L[i].toNat : Int) = 126
      · have b3 : ((L[i].toNat : Int) == 126) = true := by rw [c3]; rfl
        by_cases c4 : i + 1 < L.length
        · have HN := hide (sd_own HS.out c4 (hn126.1 c3))
          have g4 : (i : Int) + 1 < (L.length : Int) := by omega
          have hx1 : ∀ h, (⟨L.toArray⟩ : ByteArray)[i + 1]'h = L[i + 1] := fun h => rfl
          clear HS hn63 hn42 hn126
          go_wp2_with (first | (at_builtin; refine wpList_append_fits _ rfl _ _ 65 rfl w.heap.size 81 i0 2 Tryd.underlying65 hi hz1 g a.length L.length (stpsC a) rfl (hown.alloc _) ⟨wr.heap.size, 0, none⟩ 1 1 [.int .u8 0, .int .u8 (L[i + 1].toNat : Int)] rfl rfl (by intro j u hj; match j, hj with | 0, hj => simp at hj; subst hj; simp [Addr.add] | 1, hj => simp at hj; subst hj; simp [Addr.add] <;> omega) (by intro u hu; simp at hu; rcases hu with rfl | rfl <;> rfl) (by omega) ?_; intro w2 hown2 hgrow2) | go_in)
          have R := hide (strow_grown (p := ⟨0, L[i + 1]⟩) hown hB hown2 hgrow2)
          clear hown2 hgrow2 hown hB
          go_wp2
          go_roundw
          case rel =>
            obtain ⟨g', e', r1, r2⟩ := R.out
            obtain rfl : g = g' := by simp only [Value.slice.injEq, Option.some.injEq, Addr.mk.injEq, and_true, true_and] at e'; exact e'.1
            exact ⟨i + 2, g, a ++ [⟨0, L[i + 1]⟩], by go_num, by simp, r1, r2, HN⟩
          case measure => simp [intOf]; omega
        · have HN := hide (sd_self HS.out hlt (fun h => c1 (hn63.2 h)) (fun h => c2 (hn42.2 h)) (.inr c4))
          have g4 : ¬ (i : Int) + 1 < (L.length : Int) := by omega
          clear HS hn63 hn42 hn126
          go_wp2_with (first | (at_builtin; refine wpList_append_fits _ rfl _ _ 65 rfl w.heap.size 81 i0 2 Tryd.underlying65 hi hz1 g a.length L.length (stpsC a) rfl (hown.alloc _) ⟨wr.heap.size, 0, none⟩ 1 1 [.int .u8 0, .int .u8 (L[i].toNat : Int)] rfl rfl (by intro j u hj; match j, hj with | 0, hj => simp at hj; subst hj; simp [Addr.add] | 1, hj => simp at hj; subst hj; simp [Addr.add] <;> omega) (by intro u hu; simp at hu; rcases hu with rfl | rfl <;> rfl) (by omega) ?_; intro w2 hown2 hgrow2) | go_in)
          have R := hide (strow_grown (p := ⟨0, L[i]⟩) hown hB hown2 hgrow2)
          clear hown2 hgrow2 hown hB
          go_wp2
          go_roundw
          case rel =>
            obtain ⟨g', e', r1, r2⟩ := R.out
            obtain rfl : g = g' := by simp only [Value.slice.injEq, Option.some.injEq, Addr.mk.injEq, and_true, true_and] at e'; exact e'.1
            exact ⟨i + 1, g, a ++ [⟨0, L[i]⟩], by go_num, by simp, r1, r2, HN⟩
          case measure => simp [intOf]; omega
      · have b3 : ((L[i].toNat : Int) == 126) = false := by rw [beq_eq_false_iff_ne]; exact c3
        have HN := hide (sd_self HS.out hlt (fun h => c1 (hn63.2 h)) (fun h => c2 (hn42.2 h)) (.inl (fun h => c3 (hn126.2 h))))
        clear HS hn63 hn42 hn126
        go_wp2_with (first | (at_builtin; refine wpList_append_fits _ rfl _ _ 65 rfl w.heap.size 81 i0 2 Tryd.underlying65 hi hz1 g a.length L.length (stpsC a) rfl (hown.alloc _) ⟨wr.heap.size, 0, none⟩ 1 1 [.int .u8 0, .int .u8 (L[i].toNat : Int)] rfl rfl (by intro j u hj; match j, hj with | 0, hj => simp at hj; subst hj; simp [Addr.add] | 1, hj => simp at hj; subst hj; simp [Addr.add] <;> omega) (by intro u hu; simp at hu; rcases hu with rfl | rfl <;> rfl) (by omega) ?_; intro w2 hown2 hgrow2) | go_in)
        have R := hide (strow_grown (p := ⟨0, L[i]⟩) hown hB hown2 hgrow2)
        clear hown2 hgrow2 hown hB
        go_wp2
        go_roundw
        case rel =>
          obtain ⟨g', e', r1, r2⟩ := R.out
          obtain rfl : g = g' := by simp only [Value.slice.injEq, Option.some.injEq, Addr.mk.injEq, and_true, true_and] at e'; exact e'.1
          exact ⟨i + 1, g, a ++ [⟨0, L[i]⟩], by go_num, by simp, r1, r2, HN⟩
        case measure => simp [intOf]; omega
    · have HE := hide (sd_end HS.out hlt)
      have g1 : ¬ (i : Int) < (L.length : Int) := by omega
      clear HS
      go_wp2
      go_ret
      rw [← HLs.out]
      exact ⟨.slice (some ⟨g, 0, none⟩) a.length L.length, rfl, g, by rw [← HE.out], by rw [← HE.out]; exact hown, hB⟩
end Go.Proofs.YthooimaadgabiabDoor
