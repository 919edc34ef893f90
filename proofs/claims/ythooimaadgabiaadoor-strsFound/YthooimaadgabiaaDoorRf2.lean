/-
  The answer's steps of a pattern.
-/
import Derived.Test.YthooimaadgabiaaDoorCr1
import Derived.Laws.AppendOwn
import Derived.Laws.OwnMore
import Derived.OwnWalk
namespace Go.Proofs.YthooimaadgabiaaDoor
open Go.RowKit
set_option linter.unusedSimpArgs false

theorem infoRst : (Tryd.prog.info? 101).map (fun i => (i.zero, i.size, i.bytes)) = some (some (.agg #[.int .u8 0, .int .u8 0]), 2, 2) := by kernel_rfl
/-- A step's kind, as the answer has it. -/
def rkB (p : Stp) : Int := if p.k = 2 then 42 else if p.k = 1 then 63 else 0
def rstpC (p : Stp) : List Value := [.int .u8 (rkB p), .int .u8 (p.o.toNat : Int)]
def rstpsC (l : List Stp) : List Value := l.flatMap rstpC
theorem rstps_snoc (l : List Stp) (p : Stp) : rstpsC (l ++ [p]) = rstpsC l ++ rstpC p := by simp [rstpsC]
theorem rstep_grown {w wr w1 : World} {l : List Stp} {p : Stp} {v v' : Value} {news : List Value} (o : Obj)
    (hnx : Below w.heap.size w wr) (hown : wr.ownsRow w.heap.size 101 2 v l.length (rstpsC l))
    (hown' : w1.ownsRow w.heap.size 101 2 v' (l.length + 1) (rstpsC l ++ news)) (hgrow : (wr.alloc o).grownBy w1 v.ownBlock) (hn : news = rstpC p) :
    w1.ownsRow w.heap.size 101 2 v' (l ++ [p]).length (rstpsC (l ++ [p])) ∧ Below w.heap.size w w1 := by
  subst hn
  refine ⟨by rw [rstps_snoc, List.length_append]; exact hown', ?_⟩
  refine (hnx.alloc hnx.size o).grown hgrow ?_ (fun j hj => (hown.lt j hj).1)
  have := hnx.size; simp; omega
set_option maxRecDepth 100000 in
set_option maxHeartbeats 4000000 in
theorem rsteps_any (L : List UInt8) (w : World) (hs : L.length ≤ 1000) :
    Calls Tryd.prog 88 #[.string ⟨L.toArray⟩] w fun e w' => ∃ v, e = .returned v ∧ w'.ownsRow w.heap.size 101 2 v (stepsR L).length (rstpsC (stepsR L)) ∧ Below w.heap.size w w' := by
  obtain ⟨i0, hi, hz0, hz1, hz2⟩ := info_parts infoRst
  have sz : (⟨L.toArray⟩ : ByteArray).size = L.length := by show L.toArray.size = _; simp
  go_enter Tryd.func88, Tryd.ntmps88
  go_wp2
  go_loopw [3, 4] (fun v iv wr => ∃ (i : Nat) (a : List Stp), iv = .int .i64 i ∧ wr.ownsRow w.heap.size 101 2 v a.length (rstpsC a) ∧ Below w.heap.size w wr ∧ Hid (Sd L i a)) (fun _ iv _ => L.length - (intOf iv).toNat)
  case atStart => exact ⟨0, [], rfl, World.ownsRow_nil _ _ _ _, Below.refl _ w, .at (Nat.zero_le _) rfl (Nat.le_refl _)⟩
  case round =>
    obtain ⟨i, a, rfl, hown, hB, HS⟩ := hrel
    have hla : a.length ≤ i := by obtain ⟨_, _, h⟩ := HS.out; exact h
    have hbs := hB.size
    by_cases hlt : i < L.length
    · have g1 : (i : Int) < (L.length : Int) := by omega
      have hx : ∀ h, (⟨L.toArray⟩ : ByteArray)[i]'h = L[i] := fun h => rfl
      have hn63 : (L[i].toNat : Int) = 63 ↔ L[i] = 63 := ⟨fun h => UInt8.toNat_inj.1 (by show L[i].toNat = 63; omega), fun h => by rw [h]; rfl⟩
      have hn42 : (L[i].toNat : Int) = 42 ↔ L[i] = 42 := ⟨fun h => UInt8.toNat_inj.1 (by show L[i].toNat = 42; omega), fun h => by rw [h]; rfl⟩
      have hn126 : (L[i].toNat : Int) = 126 ↔ L[i] = 126 := ⟨fun h => UInt8.toNat_inj.1 (by show L[i].toNat = 126; omega), fun h => by rw [h]; rfl⟩
      by_cases c3 : (L[i].toNat : Int) = 126
      · have b3 : ((L[i].toNat : Int) == 126) = true := by rw [c3]; rfl
        have b1 : ((L[i].toNat : Int) == 42) = false := by rw [c3]; rfl
        have b2 : ((L[i].toNat : Int) == 63) = false := by rw [c3]; rfl
        by_cases c4 : i + 1 < L.length
        · have HN := hide (sd_own HS.out c4 (hn126.1 c3))
          have g4 : (i : Int) + 1 < (L.length : Int) := by omega
          have hx1 : ∀ h, (⟨L.toArray⟩ : ByteArray)[i + 1]'h = L[i + 1] := fun h => rfl
          clear HS hn63 hn42 hn126
          go_wp2_with (first | (at_builtin; refine wpList_append_own _ rfl _ _ 98 rfl w.heap.size 101 i0 (.agg #[.int .u8 0, .int .u8 0]) 2 2 Tryd.underlying98 hi hz0 hz1 hz2 rfl (by decide) _ _ _ rfl (hown.alloc _) ⟨wr.heap.size, 0, none⟩ 1 1 [.int .u8 0, .int .u8 (L[i + 1].toNat : Int)] rfl rfl (by intro j u hj; match j, hj with | 0, hj => simp at hj; subst hj; simp [Addr.add] <;> omega | 1, hj => simp at hj; subst hj; simp [Addr.add] <;> omega) (by intro u hu; simp at hu; rcases hu with rfl | rfl <;> rfl) (by unfold maxLen; omega) (by omega) (by simp; omega) ?_; intro v' w2 hown2 hgrow2 _) | go_in)
          have R := hide (rstep_grown (p := ⟨0, L[i + 1]⟩) _ hB hown hown2 hgrow2 (by simp [rstpC, rkB]))
          clear hown2 hgrow2 hown hB
          go_wp2
          go_roundw
          case rel =>
            obtain ⟨r1, r2⟩ := R.out
            exact ⟨i + 2, a ++ [⟨0, L[i + 1]⟩], by go_num, r1, r2, HN⟩
          case measure => simp [intOf]; omega
        · have HN := hide (sd_self HS.out hlt (fun h => by rw [(hn63.2 h)] at c3; omega) (fun h => by rw [(hn42.2 h)] at c3; omega) (.inr c4))
          have g4 : ¬ (i : Int) + 1 < (L.length : Int) := by omega
          clear HS hn63 hn42 hn126
          go_wp2_with (first | (at_builtin; refine wpList_append_own _ rfl _ _ 98 rfl w.heap.size 101 i0 (.agg #[.int .u8 0, .int .u8 0]) 2 2 Tryd.underlying98 hi hz0 hz1 hz2 rfl (by decide) _ _ _ rfl (hown.alloc _) ⟨wr.heap.size, 0, none⟩ 1 1 [.int .u8 0, .int .u8 (L[i].toNat : Int)] rfl rfl (by intro j u hj; match j, hj with | 0, hj => simp at hj; subst hj; simp [Addr.add] <;> omega | 1, hj => simp at hj; subst hj; simp [Addr.add] <;> omega) (by intro u hu; simp at hu; rcases hu with rfl | rfl <;> rfl) (by unfold maxLen; omega) (by omega) (by simp; omega) ?_; intro v' w2 hown2 hgrow2 _) | go_in)
          have R := hide (rstep_grown (p := ⟨0, L[i]⟩) _ hB hown hown2 hgrow2 (by simp [rstpC, rkB]))
          clear hown2 hgrow2 hown hB
          go_wp2
          go_roundw
          case rel =>
            obtain ⟨r1, r2⟩ := R.out
            exact ⟨i + 1, a ++ [⟨0, L[i]⟩], by go_num, r1, r2, HN⟩
          case measure => simp [intOf]; omega
      have d3 : ((L[i].toNat : Int) == 126) = false := by rw [beq_eq_false_iff_ne]; exact c3
      by_cases c2 : (L[i].toNat : Int) = 42
      · have HN := hide (sd_row HS.out hlt (hn42.1 c2))
        have b1 : ((L[i].toNat : Int) == 42) = true := by rw [c2]; rfl
        clear HS hn63 hn42 hn126
        go_wp2_with (first | (at_builtin; refine wpList_append_own _ rfl _ _ 98 rfl w.heap.size 101 i0 (.agg #[.int .u8 0, .int .u8 0]) 2 2 Tryd.underlying98 hi hz0 hz1 hz2 rfl (by decide) _ _ _ rfl (hown.alloc _) ⟨wr.heap.size, 0, none⟩ 1 1 [.int .u8 42, .int .u8 0] rfl rfl (by intro j u hj; match j, hj with | 0, hj => simp at hj; subst hj; simp [Addr.add] <;> omega | 1, hj => simp at hj; subst hj; simp [Addr.add] <;> omega) (by intro u hu; simp at hu; rcases hu with rfl | rfl <;> rfl) (by unfold maxLen; omega) (by omega) (by simp; omega) ?_; intro v' w2 hown2 hgrow2 _) | go_in)
        have R := hide (rstep_grown (p := ⟨2, 0⟩) _ hB hown hown2 hgrow2 (by simp [rstpC, rkB]))
        clear hown2 hgrow2 hown hB
        go_wp2
        go_roundw
        case rel =>
          obtain ⟨r1, r2⟩ := R.out
          exact ⟨i + 1, a ++ [⟨2, 0⟩], by go_num, r1, r2, HN⟩
        case measure => simp [intOf]; omega
      have d2 : ((L[i].toNat : Int) == 42) = false := by rw [beq_eq_false_iff_ne]; exact c2
      by_cases c1 : (L[i].toNat : Int) = 63
      · have HN := hide (sd_any HS.out hlt (hn63.1 c1))
        have b1 : ((L[i].toNat : Int) == 63) = true := by rw [c1]; rfl
        clear HS hn63 hn42 hn126
        go_wp2_with (first | (at_builtin; refine wpList_append_own _ rfl _ _ 98 rfl w.heap.size 101 i0 (.agg #[.int .u8 0, .int .u8 0]) 2 2 Tryd.underlying98 hi hz0 hz1 hz2 rfl (by decide) _ _ _ rfl (hown.alloc _) ⟨wr.heap.size, 0, none⟩ 1 1 [.int .u8 63, .int .u8 0] rfl rfl (by intro j u hj; match j, hj with | 0, hj => simp at hj; subst hj; simp [Addr.add] <;> omega | 1, hj => simp at hj; subst hj; simp [Addr.add] <;> omega) (by intro u hu; simp at hu; rcases hu with rfl | rfl <;> rfl) (by unfold maxLen; omega) (by omega) (by simp; omega) ?_; intro v' w2 hown2 hgrow2 _) | go_in)
        have R := hide (rstep_grown (p := ⟨1, 0⟩) _ hB hown hown2 hgrow2 (by simp [rstpC, rkB]))
        clear hown2 hgrow2 hown hB
        go_wp2
        go_roundw
        case rel =>
          obtain ⟨r1, r2⟩ := R.out
          exact ⟨i + 1, a ++ [⟨1, 0⟩], by go_num, r1, r2, HN⟩
        case measure => simp [intOf]; omega
      have d1 : ((L[i].toNat : Int) == 63) = false := by rw [beq_eq_false_iff_ne]; exact c1
      have HN := hide (sd_self HS.out hlt (fun h => c1 (hn63.2 h)) (fun h => c2 (hn42.2 h)) (.inl (fun h => c3 (hn126.2 h))))
      clear HS hn63 hn42 hn126
      go_wp2_with (first | (at_builtin; refine wpList_append_own _ rfl _ _ 98 rfl w.heap.size 101 i0 (.agg #[.int .u8 0, .int .u8 0]) 2 2 Tryd.underlying98 hi hz0 hz1 hz2 rfl (by decide) _ _ _ rfl (hown.alloc _) ⟨wr.heap.size, 0, none⟩ 1 1 [.int .u8 0, .int .u8 (L[i].toNat : Int)] rfl rfl (by intro j u hj; match j, hj with | 0, hj => simp at hj; subst hj; simp [Addr.add] <;> omega | 1, hj => simp at hj; subst hj; simp [Addr.add] <;> omega) (by intro u hu; simp at hu; rcases hu with rfl | rfl <;> rfl) (by unfold maxLen; omega) (by omega) (by simp; omega) ?_; intro v' w2 hown2 hgrow2 _) | go_in)
      have R := hide (rstep_grown (p := ⟨0, L[i]⟩) _ hB hown hown2 hgrow2 (by simp [rstpC, rkB]))
      clear hown2 hgrow2 hown hB
      go_wp2
      go_roundw
      case rel =>
        obtain ⟨r1, r2⟩ := R.out
        exact ⟨i + 1, a ++ [⟨0, L[i]⟩], by go_num, r1, r2, HN⟩
      case measure => simp [intOf]; omega
    · have HE := hide (sd_end HS.out hlt)
      have g1 : ¬ (i : Int) < (L.length : Int) := by omega
      clear HS
      go_wp2
      go_ret
      rw [HE.out] at hown
      exact ⟨_, rfl, hown, hB⟩
end Go.Proofs.YthooimaadgabiaaDoor
