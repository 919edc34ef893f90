/-
  The iterator over a text's parts.
-/
import Derived.Test.YthooimaadgabiabDoorSt3
import Derived.Test.YthooimaadgabiabDoorFmR
import Derived.Shelf.RegionOpen
namespace Go.Proofs.YthooimaadgabiabDoor
open Go.RowKit Go.Shelf
attribute [local go_sem] Oper.semAt_some
set_option linter.unusedSimpArgs false

def btM : Value → Nat
  | .bool true => 1
  | _ => 0
theorem up {w W W' : World} (h : Below w.heap.size w W) (k : Below W.heap.size W W') : Below w.heap.size w W' := h.trans (k.mono h.size)
theorem empty_lit (l : By) : (⟨l.toArray⟩ : ByteArray).toList.isEmpty = l.isEmpty := by rw [Lib.toList_data, mk_list]
set_option maxRecDepth 100000 in
set_option maxHeartbeats 4000000 in
theorem parts_seq (mb sb : Nat) (s mark : By) (hs : s.length ≤ 1000) :
    SeqP Tryd.prog 53 #[.pointer (some ⟨mb, 0, none⟩), .pointer (some ⟨sb, 0, none⟩)] encP (GoodX s mark) (fun xs => xs = allP s mark) (fun _ => False) RF (fun W => W.cell? ⟨mb, 0, none⟩ = some (.string ⟨mark.toArray⟩) ∧ W.cell? ⟨sb, 0, none⟩ = some (.string ⟨s.toArray⟩)) (fun W => CellOk W ∧ W.cell? ⟨mb, 0, none⟩ = some (.string ⟨mark.toArray⟩)) := by
  intro lp J Jp W hIt hJE hJ hY hD h0
  obtain ⟨i1, i2⟩ := hIt
  have HJE := hide hJE
  have HJ := hide hJ
  have HY := hide hY
  clear hJE hJ hY hD
  refine callsIn_of_wp Tryd.func53 rfl trivial ?_ rfl
  simp only [Tryd.ntmps53, List.size_toArray, List.length_cons, List.length_nil, Nat.reduceAdd, Nat.reduceSub, Array.replicate_succ, Array.replicate_zero, List.push_toArray, List.append_toArray, List.nil_append, List.cons_append]
  by_cases hm : mark = []
  · have hem : List.isEmpty mark = true := by subst hm; rfl
    have hall : allP s mark = [(0, s)] := by unfold allP; rw [if_pos hm]
    have HA := hide hall
    obtain ⟨fn, tmps, assign, body, hy, hR⟩ := HY.out [] (0, s) W ⟨[], hall⟩ h0
    have HR := hide hR
    clear hR hall hm
    simp only [encP] at hy
    rw [show ((0 : Nat) : Int) = 0 from rfl] at hy
    gi_wp2
    refine ⟨rfl, HR.out.mono ?_⟩
    rintro e W3 (⟨rfl, hJ3⟩ | ⟨rfl, hJp⟩)
    · gi_wp2
      exact ⟨rfl, .tuple #[], results_none rfl _ _ _, .inl ⟨⟨_, rfl⟩, _, HA.out.symm, hJ3⟩⟩
    · exact ⟨rfl, .inr ⟨rfl, hJp⟩⟩
  · have hem : List.isEmpty mark = false := by simpa using hm
    have hmix : Tryd.prog.follows .mixedOrders = true := by kernel_rfl
    gi_wp2
    gi_region_with_o (fail)
    go_simp
    go_at_K
    gi_wp2
    gi_loopw [4, 5, 6] (fun iv rv bv wr => ∃ (pre : List (Nat × By)) (i : Nat) (r : By) (b : Bool), iv = .int .i64 i ∧ rv = .string ⟨r.toArray⟩ ∧ bv = .bool b ∧ (b = true → allP s mark = pre ++ ptL mark i r ∧ i + r.length ≤ s.length) ∧ (b = false → pre = allP s mark) ∧ i ≤ s.length + 1 ∧ J pre wr) (fun _ rv bv _ => Lib.strSize rv + btM bv)
    case atStart => exact ⟨[], 0, s, true, rfl, rfl, rfl, fun _ => ⟨by unfold allP; rw [if_neg hm]; rfl, by omega⟩, fun e => (by cases e), Nat.zero_le _, HJ.out _ _ _ h0 (Below.refl _ _).drew⟩
    case round =>
      obtain ⟨pre, i, r, b, rfl, rfl, rfl, h1, h2, hi, hj⟩ := hrel
      have HJR := hide hj
      have HJE2 := hide (HJE.out pre wr hj)
      clear hj i1 i2 h0
      have c1 := HJE2.out.2
      cases b with
      | false =>
        have HD := hide (h2 rfl)
        clear h1 h2
        gi_wp2
        go_end0
        exact .inl ⟨⟨_, rfl⟩, pre, HD.out, HJR.out⟩
      | true =>
        obtain ⟨h3, h4⟩ := h1 rfl
        have HA := hide h3
        clear h1 h2 h3
        obtain ⟨mx, hmx⟩ := HJE2.out.1
        have sz := mk_size r
        have hcut := Tryd.strings_Cut ⟨r.toArray⟩ ⟨mark.toArray⟩ mx wr (by rw [sz]; omega) hmx
        rw [mk_list, mk_list] at hcut
        have hw1 : IntKind.i64.wrap ((i : Int) + 1) = (i : Int) + 1 := by rw [IntKind.wrap_i64]; omega
        obtain ⟨x, y, z, hx⟩ : ∃ x y z, Lib.cut r mark = (x, y, z) := ⟨_, _, _, rfl⟩
        rw [hx] at hcut
        have HC := hide hcut
        have szy := mk_size y
        cases z with
        | true =>
          obtain ⟨k1, k2⟩ := pt_yes (i := i) hm hx
          have HG : Hid (GoodX s mark pre (i, x)) := ⟨_, HA.out.trans (by rw [k1])⟩
          have HA2 : Hid (allP s mark = (pre ++ [(i, x)]) ++ ptL mark (i + 1) y) := HA.out.trans (by rw [k1]; simp)
          clear hx hcut k1 hmx
          gi_wp2_with (refine ⟨trivial, rfl, ?_⟩; gi_at_call 54; refine (callsIn_wide.2 HC.out).mono ?_; rintro e w1 ⟨rfl, n, rfl⟩; have hj2 := HJ.out pre wr (wr.drewN n) HJR.out (below_drewN (Below.refl _ _) _); obtain ⟨fn, tmps, assign, body, hy, hR⟩ := HY.out pre (i, x) _ HG.out hj2; have HR := hide hR; clear hR hj2; simp only [encP] at hy)
          refine ⟨rfl, HR.out.mono ?_⟩
          rintro e W3 (⟨rfl, hJ3⟩ | ⟨rfl, hJp⟩)
          · have HJ3 := hide hJ3
            clear hJ3
            gi_wp2
            go_roundw
            case rel => exact ⟨pre ++ [(i, x)], i + 1, y, true, by go_num, rfl, rfl, fun _ => ⟨HA2.out, by omega⟩, fun e => (by cases e), by omega, HJ3.out⟩
            case measure => simp only [Lib.strSize_string, szy, sz, btM]; omega
          · exact ⟨rfl, .inr ⟨rfl, hJp⟩⟩
        | false =>
          obtain ⟨k1, rfl, rfl⟩ := pt_no (i := i) hx
          have HG : Hid (GoodX s mark pre (i, x)) := ⟨[], HA.out.trans (by rw [k1])⟩
          have HA2 : Hid (pre ++ [(i, x)] = allP s mark) := (HA.out.trans (by rw [k1])).symm
          clear hx hcut k1 hmx
          gi_wp2_with (refine ⟨trivial, rfl, ?_⟩; gi_at_call 54; refine (callsIn_wide.2 HC.out).mono ?_; rintro e w1 ⟨rfl, n, rfl⟩; have hj2 := HJ.out pre wr (wr.drewN n) HJR.out (below_drewN (Below.refl _ _) _); obtain ⟨fn, tmps, assign, body, hy, hR⟩ := HY.out pre (i, x) _ HG.out hj2; have HR := hide hR; clear hR hj2; simp only [encP] at hy)
          refine ⟨rfl, HR.out.mono ?_⟩
          rintro e W3 (⟨rfl, hJ3⟩ | ⟨rfl, hJp⟩)
          · have HJ3 := hide hJ3
            clear hJ3
            gi_wp2
            go_roundw
            case rel => exact ⟨pre ++ [(i, x)], i + 1, [], false, by go_num, rfl, rfl, fun e => (by cases e), fun _ => HA2.out, by omega, HJ3.out⟩
            case measure => simp only [Lib.strSize_string, szy, sz, btM, List.length_nil]; omega
          · exact ⟨rfl, .inr ⟨rfl, hJp⟩⟩
end Go.Proofs.YthooimaadgabiabDoor
