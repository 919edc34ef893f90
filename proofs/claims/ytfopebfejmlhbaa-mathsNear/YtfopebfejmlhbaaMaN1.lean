/-
  The walk of MathsNear: no such places. (By neargen.py.)
-/
import Derived.Test.YtfopebfejmlhbaaMa13
import Derived.Test.YtfopebfejmlhbaaMaS
import Derived.Test.YtfopebfejmlhbaaMaN
namespace Go.Proofs.Ytfopebfejmlhbaa
open Go.RowKit

set_option maxRecDepth 100000 in
set_option maxHeartbeats 20000000 in
theorem near_no (n p s : Int) (w : World) (p1 : -9223372036854775808 ≤ p) (p2 : p ≤ 9223372036854775807) (hin : fitsB n = false ∨ p < -12 ∨ 6 < p) :
    Calls Try.prog 7 #[.int .i64 n, .int .i64 p, .int .i64 s] w fun e w' => e = .returned (.bool true) ∧ Below w.heap.size w w' := by
  have HL := hide (fun W : World => lives_any W)
  have HB0 := hide (Below.refl w.heap.size w)
  have HZ := hide (fun (x : Int) (W : World) (h1 : -9223372036854775807 ≤ x) (h2 : x ≤ 9223372036854775807) => lsize_any x W h1 h2)
  have HA := hide (fun W : World => Up_any n p W p1 p2)
  have HD := hide (fun W : World => Down_any n p W p1 p2)
  have HF := hide (fun W : World => Floor_any n s W)
  have HC := hide (fun W : World => Ceiling_any n s W)
  have hT := tail_any n s
  generalize shown2 n s (stepsR dwnR n s) = F at *
  generalize shown2 n s (stepsR upwR n s) = C at *
  obtain ⟨F1, F2⟩ := F
  obtain ⟨C1, C2⟩ := C
  rw [down_out hin] at HA HD
  clear hin p1 p2
  rcases hT with ⟨h1, h2⟩ | ⟨h0, h1, h2⟩ | ⟨f, h0, h1, h2, h, h3, h4⟩ | ⟨c, h0, h1, h2, h, h3, h4⟩ | ⟨f, c, h0, h1, h2, h, h', h3, h4, h5, h6⟩
  · have f1 : (F2 == 0) = false := by rw [beq_eq_false_iff_ne]; exact h1
    have f2 : (F2 != 0) = true := by rw [bne, f1]; rfl
    have c1 : (C2 == 0) = false := by rw [beq_eq_false_iff_ne]; exact h2
    have c2 : (C2 != 0) = true := by rw [bne, c1]; rfl
    go_enter Try.func7, Try.ntmps7
    go_wp2_with (first
      | (go_at_call 9; refine (HA.out _).mono ?_; rintro e v1 ⟨rfl, hb⟩; have HB1 := hide (up HB0.out hb); clear hb)
      | (go_at_call 11; refine (HD.out _).mono ?_; rintro e v2 ⟨rfl, hb⟩; have HB2 := hide (up HB1.out hb); clear hb)
      | (go_at_call 24; refine (HF.out _).mono ?_; rintro e v3 ⟨rfl, hb⟩; have HB3 := hide (up HB2.out hb); clear hb)
      | (go_at_call 22; refine (HC.out _).mono ?_; rintro e v4 ⟨rfl, hb⟩; have HB4 := hide (up HB3.out hb); clear hb)
      | (go_at_call 38; refine (HZ.out _ _ (by omega) (by omega)).mono ?_; rintro e wz ⟨rfl, hz⟩; subst wz)
      | (go_at_call 21; refine (HL.out _).mono ?_; rintro e v5 ⟨rfl, hb⟩; have HB5 := hide (up HB4.out hb); clear hb))
    go_ret
    exact ⟨rfl, HB5.out⟩
  · cases h1
    cases h2
    subst h0
    go_enter Try.func7, Try.ntmps7
    go_wp2_with (first
      | (go_at_call 9; refine (HA.out _).mono ?_; rintro e v1 ⟨rfl, hb⟩; have HB1 := hide (up HB0.out hb); clear hb)
      | (go_at_call 11; refine (HD.out _).mono ?_; rintro e v2 ⟨rfl, hb⟩; have HB2 := hide (up HB1.out hb); clear hb)
      | (go_at_call 24; refine (HF.out _).mono ?_; rintro e v3 ⟨rfl, hb⟩; have HB3 := hide (up HB2.out hb); clear hb)
      | (go_at_call 22; refine (HC.out _).mono ?_; rintro e v4 ⟨rfl, hb⟩; have HB4 := hide (up HB3.out hb); clear hb)
      | (go_at_call 38; refine (HZ.out _ _ (by omega) (by omega)).mono ?_; rintro e wz ⟨rfl, hz⟩; subst wz)
      | (go_at_call 21; refine (HL.out _).mono ?_; rintro e v5 ⟨rfl, hb⟩; have HB5 := hide (up HB4.out hb); clear hb))
    go_ret
    exact ⟨rfl, HB5.out⟩
  · cases h1
    have c1 : (C2 == 0) = false := by rw [beq_eq_false_iff_ne]; exact h2
    have c2 : (C2 != 0) = true := by rw [bne, c1]; rfl
    obtain ⟨x1, x2, x3, x4, s0, s1, s2, n1, n2⟩ := h
    have sz : (s == 0) = false := by rw [beq_eq_false_iff_ne]; exact s0
    have wf : IntKind.i64.wrap (n - F1) = n - F1 := wrapI (by omega) (by omega)
    have n0 : (n == 0) = false := by rw [beq_eq_false_iff_ne]; exact h0
    go_enter Try.func7, Try.ntmps7
    go_wp2_with (first
      | (go_at_call 9; refine (HA.out _).mono ?_; rintro e v1 ⟨rfl, hb⟩; have HB1 := hide (up HB0.out hb); clear hb)
      | (go_at_call 11; refine (HD.out _).mono ?_; rintro e v2 ⟨rfl, hb⟩; have HB2 := hide (up HB1.out hb); clear hb)
      | (go_at_call 24; refine (HF.out _).mono ?_; rintro e v3 ⟨rfl, hb⟩; have HB3 := hide (up HB2.out hb); clear hb)
      | (go_at_call 22; refine (HC.out _).mono ?_; rintro e v4 ⟨rfl, hb⟩; have HB4 := hide (up HB3.out hb); clear hb)
      | (go_at_call 38; refine (HZ.out _ _ (by omega) (by omega)).mono ?_; rintro e wz ⟨rfl, hz⟩; subst wz)
      | (go_at_call 21; refine (HL.out _).mono ?_; rintro e v5 ⟨rfl, hb⟩; have HB5 := hide (up HB4.out hb); clear hb))
    go_ret
    exact ⟨rfl, HB5.out⟩
  · cases h2
    have f1 : (F2 == 0) = false := by rw [beq_eq_false_iff_ne]; exact h1
    have f2 : (F2 != 0) = true := by rw [bne, f1]; rfl
    obtain ⟨x1, x2, x3, x4, s0, s1, s2, n1, n2⟩ := h
    have sz : (s == 0) = false := by rw [beq_eq_false_iff_ne]; exact s0
    have wc : IntKind.i64.wrap (C1 - n) = C1 - n := wrapI (by omega) (by omega)
    have n0 : (n == 0) = false := by rw [beq_eq_false_iff_ne]; exact h0
    go_enter Try.func7, Try.ntmps7
    go_wp2_with (first
      | (go_at_call 9; refine (HA.out _).mono ?_; rintro e v1 ⟨rfl, hb⟩; have HB1 := hide (up HB0.out hb); clear hb)
      | (go_at_call 11; refine (HD.out _).mono ?_; rintro e v2 ⟨rfl, hb⟩; have HB2 := hide (up HB1.out hb); clear hb)
      | (go_at_call 24; refine (HF.out _).mono ?_; rintro e v3 ⟨rfl, hb⟩; have HB3 := hide (up HB2.out hb); clear hb)
      | (go_at_call 22; refine (HC.out _).mono ?_; rintro e v4 ⟨rfl, hb⟩; have HB4 := hide (up HB3.out hb); clear hb)
      | (go_at_call 38; refine (HZ.out _ _ (by omega) (by omega)).mono ?_; rintro e wz ⟨rfl, hz⟩; subst wz)
      | (go_at_call 21; refine (HL.out _).mono ?_; rintro e v5 ⟨rfl, hb⟩; have HB5 := hide (up HB4.out hb); clear hb))
    go_ret
    exact ⟨rfl, HB5.out⟩
  · cases h1
    cases h2
    obtain ⟨x1, x2, x3, x4, s0, s1, s2, n1, n2⟩ := h
    obtain ⟨y1, y2, y3, y4, _, _, _, _, _⟩ := h'
    have sz : (s == 0) = false := by rw [beq_eq_false_iff_ne]; exact s0
    have wf : IntKind.i64.wrap (n - F1) = n - F1 := wrapI (by omega) (by omega)
    have wc : IntKind.i64.wrap (C1 - n) = C1 - n := wrapI (by omega) (by omega)
    have n0 : (n == 0) = false := by rw [beq_eq_false_iff_ne]; exact h0
    go_enter Try.func7, Try.ntmps7
    go_wp2_with (first
      | (go_at_call 9; refine (HA.out _).mono ?_; rintro e v1 ⟨rfl, hb⟩; have HB1 := hide (up HB0.out hb); clear hb)
      | (go_at_call 11; refine (HD.out _).mono ?_; rintro e v2 ⟨rfl, hb⟩; have HB2 := hide (up HB1.out hb); clear hb)
      | (go_at_call 24; refine (HF.out _).mono ?_; rintro e v3 ⟨rfl, hb⟩; have HB3 := hide (up HB2.out hb); clear hb)
      | (go_at_call 22; refine (HC.out _).mono ?_; rintro e v4 ⟨rfl, hb⟩; have HB4 := hide (up HB3.out hb); clear hb)
      | (go_at_call 38; refine (HZ.out _ _ (by omega) (by omega)).mono ?_; rintro e wz ⟨rfl, hz⟩; subst wz)
      | (go_at_call 21; refine (HL.out _).mono ?_; rintro e v5 ⟨rfl, hb⟩; have HB5 := hide (up HB4.out hb); clear hb))
    go_ret
    exact ⟨rfl, HB5.out⟩
end Go.Proofs.Ytfopebfejmlhbaa
