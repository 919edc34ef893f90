/-
  The contract of codes' sized.
-/
import Derived.Test.YtnhaapcpklfkpaaGreatDoorCd4
namespace Go.Proofs.YtnhaapcpklfkpaaGreatDoor
open Go.RowKit

theorem ret_two {a b c d : Int} (h1 : a = c) (h2 : b = d) : Ending.returned (.tuple #[.int .i64 a, .int .i64 b]) = .returned (.tuple #[.int .i64 c, .int .i64 d]) := by rw [h1, h2]
theorem up {w0 w w' : World} (h : Below w0.heap.size w0 w) (k : Below w.heap.size w w') : Below w0.heap.size w0 w' := h.trans (k.mono h.size)
/-- A number, times 100 for each hundred. -/
def hundF : Nat → Int → Int × Int
  | 0, n => (n, 0)
  | h + 1, n => if (mulR n 100000000).2 = 0 then hundF h (mulR n 100000000).1 else (0, 5)
def decsI (ps : List Pc) : Int := min (((plcOf ps).fixed + (plcOf ps).free : Nat) : Int) 6
/-- A number as a section's place has it. -/
def sizedR (ps : List Pc) (n : Int) : Int × Int :=
  if (hundF (cntK ps 2) n).2 = 0 then (if (roundR (hundF (cntK ps 2) n).1 (decsI ps)).2 = 0 then ((roundR (hundF (cntK ps 2) n).1 (decsI ps)).1, 0) else (0, 5)) else (0, 5)
theorem hund_yes {h : Nat} {n : Int} (k : (mulR n 100000000).2 = 0) : hundF (h + 1) n = hundF h (mulR n 100000000).1 := by rw [hundF, if_pos k]
theorem hund_no {h : Nat} {n : Int} (k : ¬ (mulR n 100000000).2 = 0) : hundF (h + 1) n = (0, 5) := by rw [hundF, if_neg k]
theorem SecAt.plc {w : World} {g off : Nat} {u : Value} {ps : List Pc} (h : SecAt w g off u ps) : w.cell? ⟨g, off + 7, none⟩ = some (.bool (plcOf ps).comma) ∧ w.cell? ⟨g, off + 7 + 1, none⟩ = some (.bool (plcOf ps).point) ∧ w.cell? ⟨g, off + 7 + 2, none⟩ = some (.int .i64 (plcOf ps).noughts) ∧ w.cell? ⟨g, off + 7 + 3, none⟩ = some (.int .i64 (plcOf ps).fixed) ∧ w.cell? ⟨g, off + 7 + 4, none⟩ = some (.int .i64 (plcOf ps).free) :=
  ⟨h.2 7 (by omega), h.2 8 (by omega), h.2 9 (by omega), h.2 10 (by omega), h.2 11 (by omega)⟩
set_option maxHeartbeats 4000000 in
theorem sized_any (g off : Nat) (u : Value) (ps : List Pc) (n : Int) (w : World) (h : SecAt w g off u ps) (hn : cntK ps 2 ≤ 1000) (h1 : (plcOf ps).fixed ≤ 1000) (h2 : (plcOf ps).free ≤ 1000) :
    Calls Tryz.prog 35 #[.pointer (some ⟨g, off, none⟩), .int .i64 n] w fun e w' => e = .returned (.tuple #[.int .i64 (sizedR ps n).1, .int .i64 (sizedR ps n).2]) ∧ Below w.heap.size w w' := by
  have HS := hide h
  have c2 := h.num 2 (by omega)
  have HD : Hid (∀ W : World, Calls Tryz.prog 63 #[plcV (plcOf ps)] W fun e w' => e = .returned (.int .i64 (((plcOf ps).fixed + (plcOf ps).free : Nat) : Int)) ∧ Below W.heap.size W w') := fun W => cdecimals_any (plcOf ps) W h1 h2
  have hdef : sizedR ps n = if (hundF (cntK ps 2) n).2 = 0 then (if (roundR (hundF (cntK ps 2) n).1 (decsI ps)).2 = 0 then ((roundR (hundF (cntK ps 2) n).1 (decsI ps)).1, 0) else (0, 5)) else (0, 5) := rfl
  have HF := hide hdef
  clear h h1 h2 hdef
  generalize sizedR ps n = R at *
  generalize hN2 : cntK ps 2 = N at *
  have hN3 : (N : Int) ≤ 1000 := by omega
  go_enter Tryz.func35, Tryz.ntmps35
  go_wp2
  go_loopw [1, 15] (fun ms ks wr => ∃ (k : Nat) (m : Int), k ≤ N ∧ ks = .int .i64 k ∧ ms = .int .i64 m ∧ hundF (N - k) m = hundF N n ∧ Below w.heap.size w wr) (fun _ ks _ => N - (intOf ks).toNat)
  case atStart => exact ⟨0, n, by omega, rfl, rfl, rfl, Below.refl _ _⟩
  case round =>
    obtain ⟨k, m, hk, rfl, rfl, hm, hbr⟩ := hrel
    have HM := hide (fun W => mul_full m 100000000 W)
    have HH := hide hm
    have HB := hide hbr
    clear hm hbr
    by_cases hlt : k < N
    · obtain ⟨j, hj⟩ : ∃ j, N - k = j + 1 := ⟨N - k - 1, by omega⟩
      rw [hj] at HH
      by_cases q : (mulR m 100000000).2 = 0
      · have HH2 := hide ((hund_yes q).symm.trans HH.out)
        have hj2 : N - (k + 1) = j := by omega
        have HJ := hide hj2
        clear hj hj2 HH
        go_wp2_with (go_at_call 61; refine (HM.out _).mono ?_; rintro e w1 ⟨rfl, hb1⟩; have HB1 := hide hb1; clear hb1)
        go_roundw
        case rel => exact ⟨k + 1, _, by omega, by go_num, rfl, by rw [HJ.out]; exact HH2.out, HB.out.trans (HB1.out.mono HB.out.size)⟩
        case measure => simp [intOf]; omega
      · have HH2 := hide (HH.out.symm.trans (hund_no q))
        have HQ : Hid (((mulR m 100000000).2 != 0) = true) := by show _ = true; simpa using q
        have hq2 := HQ.out
        clear hj HH q
        have HZ : Hid (R = (0, 5)) := HF.out.trans (by rw [if_neg]; rw [HH2.out]; decide)
        go_wp2_with (go_at_call 61; refine (HM.out _).mono ?_; rintro e w1 ⟨rfl, hb1⟩; have HB1 := hide hb1; clear hb1)
        go_ret2
        exact ⟨ret_two (by rw [HZ.out]) (by rw [HZ.out]), HB.out.trans (HB1.out.mono HB.out.size)⟩
    · obtain rfl : k = N := by omega
      have HH2 : Hid (hundF k n = (m, 0)) := by
        have := HH.out
        rw [Nat.sub_self] at this
        exact this.symm
      clear HH hlt
      have HF2 : Hid (R = if (roundR m (decsI ps)).2 = 0 then ((roundR m (decsI ps)).1, 0) else (0, 5)) := HF.out.trans (by rw [HH2.out]; rfl)
      obtain ⟨p0, p1, p2, p3, p4⟩ := (HS.out.below HB.out).plc
      have HRd := hide (fun W => round_any m (decsI ps) W)
      have hmin : min (((plcOf ps).fixed + (plcOf ps).free : Nat) : Int) 6 = decsI ps := rfl
      simp only [plcV] at HD
      clear HF HH2
      generalize decsI ps = dd at *
      generalize ((plcOf ps).fixed + (plcOf ps).free : Nat) = ff at *
      by_cases q : (roundR m dd).2 = 0
      · have HZ : Hid (R = ((roundR m dd).1, 0)) := HF2.out.trans (by rw [if_pos q])
        have q2 : ((roundR m dd).2 != 0) = false := by simpa using q
        clear HF2
        go_wp2_with (first | (go_at_call 63; refine (HD.out _).mono ?_; rintro e w1 ⟨rfl, hb1⟩; have HB1 := hide hb1; clear hb1) | (go_at_call 62; refine (HRd.out _).mono ?_; rintro e w2 ⟨rfl, hb2⟩; have HB2 := hide hb2; clear hb2))
        go_ret2
        exact ⟨ret_two (by rw [HZ.out]) (by rw [HZ.out]), up (up HB.out HB1.out) HB2.out⟩
      · have HZ : Hid (R = (0, 5)) := HF2.out.trans (by rw [if_neg q])
        have q2 : ((roundR m dd).2 != 0) = true := by simpa using q
        clear HF2
        go_wp2_with (first | (go_at_call 63; refine (HD.out _).mono ?_; rintro e w1 ⟨rfl, hb1⟩; have HB1 := hide hb1; clear hb1) | (go_at_call 62; refine (HRd.out _).mono ?_; rintro e w2 ⟨rfl, hb2⟩; have HB2 := hide hb2; clear hb2))
        go_ret2
        exact ⟨ret_two (by rw [HZ.out]) (by rw [HZ.out]), up (up HB.out HB1.out) HB2.out⟩
end Go.Proofs.YtnhaapcpklfkpaaGreatDoor
