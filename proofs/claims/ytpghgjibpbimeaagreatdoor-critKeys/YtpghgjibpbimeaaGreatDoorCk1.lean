/-
  What steps that are not wild stand for, as a text: the program's and the answer's.
-/
import Derived.Test.YtpghgjibpbimeaaGreatDoorCr8
import Derived.Test.YtpghgjibpbimeaaGreatDoorRf3
import Derived.Test.YtpghgjibpbimeaaGreatDoorByK
namespace Go.Proofs.YtpghgjibpbimeaaGreatDoor
open Go.RowKit
set_option linter.unusedSimpArgs false

theorem owns_snoc {l : List Stp} {k : Nat} {p : Stp} (h : l[k]? = some p) : ownsR (l.take (k + 1)) = ownsR (l.take k) ++ [p.o] := by
  obtain ⟨h1, h2⟩ := List.getElem?_eq_some_iff.1 h
  rw [List.take_succ_eq_append_getElem h1, h2]
  simp [ownsR]
theorem owns_len (l : List Stp) (k : Nat) : (ownsR (l.take k)).length = min k l.length := by simp [ownsR]
set_option maxRecDepth 100000 in
set_option maxHeartbeats 4000000 in
theorem written_any (g cap : Nat) (l : List Stp) (w : World) (h : StAt w g 0 l) (hg : g < w.heap.size) (hl : l.length ≤ 1000) :
    Calls Tryz.prog 12 #[.slice (some ⟨g, 0, none⟩) l.length cap] w fun e w' => e = .returned (.string ⟨(ownsR l).toArray⟩) ∧ Below w.heap.size w w' := by
  obtain ⟨i0, hi, hz0, hz1, hz2⟩ := info_parts infoU8
  have HS := hide h
  clear h
  have hli : (l.length : Int) ≤ 1000 := by omega
  go_enter Tryz.func12, Tryz.ntmps12
  go_wp2_with (first | (at_make; refine wpList_make_own _ rfl _ _ 54 rfl w.heap.size 5 i0 (.int .u8 0) 1 Tryz.underlying54 hi hz0 hz1 .i64 .i64 _ l.length rfl rfl rfl (by rw [hz2]; omega) (by unfold maxLen; omega) (Nat.le_refl _) ?_; intro w0 hown0 hgrow0))
  have HB0 : Hid (Below w.heap.size w w0) := (Below.refl _ w).grown hgrow0 (Nat.le_refl _) (fun k hk => by cases hk)
  have HO0 := hide hown0
  clear hown0 hgrow0
  go_loopw [3, 11] (fun ov iv wr => ∃ (k gg : Nat), k ≤ l.length ∧ iv = .int .i64 k ∧ ov = .slice (some ⟨gg, 0, none⟩) k l.length ∧ wr.ownsRow w.heap.size 5 1 (.slice (some ⟨gg, 0, none⟩) k l.length) k ((ownsR (l.take k)).map byteV) ∧ Below w.heap.size w wr) (fun _ iv _ => l.length - (intOf iv).toNat)
  case atStart => exact ⟨0, _, Nat.zero_le _, rfl, rfl, HO0.out, HB0.out⟩
  case round =>
    obtain ⟨k, gg, hk, rfl, rfl, hown, hB⟩ := hrel
    have hbs := hB.size
    by_cases hlt : k < l.length
    · have g1 : (k : Int) < (l.length : Int) := by omega
      obtain ⟨p, hp⟩ : ∃ p, l[k]? = some p := ⟨l[k], List.getElem?_eq_getElem hlt⟩
      obtain ⟨c0, c1⟩ := HS.out k p hp
      rw [← hB.cell (p := ⟨g, 0 + k * 2, none⟩) hg] at c0
      rw [← hB.cell (p := ⟨g, 0 + k * 2 + 1, none⟩) hg] at c1
      rw [Nat.zero_add] at c0 c1
      have HN := hide (owns_snoc hp)
      clear hp
      go_wp2_with (at_builtin; refine wpList_append_fits _ rfl _ _ 54 rfl w.heap.size 5 i0 1 Tryz.underlying54 hi hz1 gg k l.length ((ownsR (l.take k)).map byteV) rfl ((hown.alloc _).alloc _) ⟨wr.heap.size + 1, 0, none⟩ 1 1 [.int .u8 (p.o.toNat : Int)] rfl rfl (by intro j u hj; match j, hj with | 0, hj => simp at hj; subst hj; simp [Addr.add]) (by intro u hu; simp at hu; subst hu; rfl) (by omega) ?_; intro w2 hown2 hgrow2)
      have R : Hid (w2.ownsRow w.heap.size 5 1 (.slice (some ⟨gg, 0, none⟩) (k + 1) l.length) (k + 1) ((ownsR (l.take (k + 1))).map byteV) ∧ Below w.heap.size w w2) := by
        refine ⟨by rw [HN.out, List.map_append]; exact hown2, ?_⟩
        refine ((hB.alloc hB.size _).alloc (by simp; omega) _).grown hgrow2 ?_ (fun j hj => (hown.lt j hj).1)
        simp; omega
      clear hown2 hgrow2 hown hB
      go_wp2
      go_roundw
      case rel => exact ⟨k + 1, gg, by omega, by go_num, by simp, R.out.1, R.out.2⟩
      case measure => simp [intOf] <;> omega
    · obtain rfl : k = l.length := by omega
      have g1 : ¬ (l.length : Int) < (l.length : Int) := by omega
      rw [List.take_length] at hown
      have hown' : wr.ownsRow w.heap.size 5 1 (.slice (some ⟨gg, 0, none⟩) l.length l.length) (ownsR l).length ((ownsR l).map byteV) := by
        rw [show (ownsR l).length = l.length by simp [ownsR]]
        exact hown
      have hconv := row_string hown'
      go_wp2
      go_ret
      exact ⟨rfl, hB⟩
set_option maxRecDepth 100000 in
set_option maxHeartbeats 4000000 in
theorem ralone_any (s : ByteArray) (w : World) (hs : s.size ≤ 1000) :
    Calls Tryz.prog 17 #[.string s] w fun e w' => e = .returned (.string ⟨(ownsR (stepsR (foldL s.data.toList))).toArray⟩) ∧ Below w.heap.size w w' := by
  obtain ⟨i0, hi, hz0, hz1, hz2⟩ := info_parts infoU8
  have HF : Hid (∀ W : World, Calls Tryz.prog 33 #[.string s] W fun e w' => e = .returned (.string ⟨(foldL s.data.toList).toArray⟩) ∧ Below W.heap.size W w') := fun W => rfold_any s W (by unfold maxLen; omega)
  have l1 : (foldL s.data.toList).length ≤ 1000 := by rw [foldL_len, show s.data.toList.length = s.size from Array.length_toList]; exact hs
  generalize foldL s.data.toList = P at *
  have HT : Hid (∀ W : World, Calls Tryz.prog 32 #[.string ⟨P.toArray⟩] W fun e w' => ∃ v, e = .returned v ∧ w'.ownsRow W.heap.size 62 2 v (stepsR P).length (rstpsC (stepsR P)) ∧ Below W.heap.size W w') := fun W => rsteps_any P W l1
  have hl := steps_len _ P (Nat.le_refl _)
  generalize stepsR P = l at *
  have hl2 : l.length ≤ 1000 := by omega
  have hli : (l.length : Int) ≤ 1000 := by omega
  clear hs l1 hl
  go_enter Tryz.func17, Tryz.ntmps17
  go_wp2_with (first | (go_at_call 33; refine (HF.out _).mono ?_; rintro e w0 ⟨rfl, hb0⟩; have HB0 := hide hb0; clear hb0) | (go_at_call 32; refine (HT.out _).mono ?_; rintro e w1 ⟨v, rfl, hown1, hb1⟩; obtain ⟨hr1, pv, cap, rfl⟩ := rs_of_own hown1; have HB1 := hide (upR HB0.out hb1); have HR1 := hide hr1; clear hown1 hb1 hr1))
  go_loopw [4, 5] (fun ov iv wr => ∃ (k : Nat), k ≤ l.length ∧ iv = .int .i64 k ∧ wr.ownsRow w1.heap.size 5 1 ov (ownsR (l.take k)).length ((ownsR (l.take k)).map byteV) ∧ Below w1.heap.size w1 wr) (fun _ iv _ => l.length - (intOf iv).toNat)
  case atStart => exact ⟨0, Nat.zero_le _, rfl, World.ownsRow_nil _ _ _ _, Below.refl _ _⟩
  case round =>
    obtain ⟨k, hk, rfl, hown, hB⟩ := hrel
    have hbs := hB.size
    have hol := owns_len l k
    by_cases hlt : k < l.length
    · have g1 : (k : Int) < (l.length : Int) := by omega
      have g0 : (0 : Int) ≤ (k : Int) := by omega
      obtain ⟨p, hp⟩ : ∃ p, l[k]? = some p := ⟨l[k], List.getElem?_eq_getElem hlt⟩
      obtain ⟨gl, hpv, hgl, hcl⟩ : ∃ gl, pv = some ⟨gl, 0, none⟩ ∧ gl < w1.heap.size ∧ ∀ j q, l[j]? = some q → w1.cell? ⟨gl, j * 2, none⟩ = some (.int .u8 (rkB q)) ∧ w1.cell? ⟨gl, j * 2 + 1, none⟩ = some (.int .u8 (q.o.toNat : Int)) := by
        rcases HR1.out with h | ⟨gl, cp, h, h2, h3⟩
        · rw [h] at hlt; simp at hlt
        · simp only [Value.slice.injEq] at h; exact ⟨gl, h.1, h2, h3⟩
      subst hpv
      obtain ⟨a0, a1⟩ := hcl k p hp
      rw [← hB.cell (p := ⟨gl, k * 2, none⟩) hgl] at a0
      rw [← hB.cell (p := ⟨gl, k * 2 + 1, none⟩) hgl] at a1
      have HN := hide (owns_snoc hp)
      clear hp hcl
      go_wp2_with (at_builtin; refine wpList_append_own _ rfl _ _ 54 rfl w1.heap.size 5 i0 (.int .u8 0) 1 1 Tryz.underlying54 hi hz0 hz1 hz2 rfl (by decide) _ _ _ rfl (hown.alloc _) ⟨wr.heap.size, 0, none⟩ 1 1 [.int .u8 (p.o.toNat : Int)] rfl rfl (by intro j u hj; match j, hj with | 0, hj => simp at hj; subst hj; simp [Addr.add]) (by intro u hu; simp at hu; subst hu; rfl) (by unfold maxLen; omega) (by omega) (by simp; omega) ?_; intro v' w2 hown' hgrow _)
      obtain ⟨s1, s2⟩ := byte_step _ hB hown hown' hgrow
      go_wp2
      go_roundw
      case rel => exact ⟨k + 1, hlt, by go_num, by rw [HN.out, List.length_append]; exact s1, s2⟩
      case measure => simp [intOf] <;> omega
    · have hk' : k = l.length := by omega
      have g1 : ¬ (k : Int) < (l.length : Int) := by omega
      rw [hk', List.take_length] at hown
      have hconv := row_string hown
      go_wp2
      go_ret
      exact ⟨rfl, upR HB1.out hB⟩
end Go.Proofs.YtpghgjibpbimeaaGreatDoor
