/-
  The walk of CodesSigns.
-/
import Derived.Test.YtmjjdcfobdcdpabGreatDoorCd11
namespace Go.Proofs.YtmjjdcfobdcdpabGreatDoor
open Go.RowKit
set_option linter.unusedSimpArgs false

def lS1 : List UInt8 := [48, 46, 48, 48]
def lS2 : List UInt8 := [48, 46, 48, 48, 59, 40, 48, 46, 48, 48, 41]
def lS3 : List UInt8 := [40, 48, 46, 48, 48, 41, 59, 48, 46, 48, 48]
def pS1 : List Pc := [⟨1, lS1⟩]
def pS2 : List Pc := [⟨0, [40]⟩, ⟨1, lS1⟩, ⟨0, [41]⟩]
theorem opt_S1 : secsOpt lS1 = some [pS1] := by kernel_rfl
theorem opt_S2 : secsOpt lS2 = some [pS1, pS2] := by kernel_rfl
theorem opt_S3 : secsOpt lS3 = some [pS2, pS1] := by kernel_rfl
def plS : Plc := ⟨false, true, 1, 2, 0⟩
theorem plc_S1 : plcOf pS1 = plS := by kernel_rfl
theorem plc_S2 : plcOf pS2 = plS := by kernel_rfl
theorem text_S1 (m : Nat) : secT (plcOf pS1) m 0 0 0 [] pS1 = numT plS m := by rw [plc_S1]; unfold pS1; rw [secT_one]
theorem text_S2 (m : Nat) : secT (plcOf pS2) m 0 0 0 [] pS2 = 40 :: (numT plS m ++ [41]) := by rw [plc_S2]; simp [pS2, secT, pieceT]
/-- Rounded to two places. -/
theorem round_two {n : Int} (hf : fitsB n = true) : ∃ m : Nat, sizedR pS1 (max n (-n)) = ((m : Int), 0) ∧ sizedR pS2 (max n (-n)) = ((m : Int), 0) ∧ sizedR pS1 (max (max n (-n)) (-(max n (-n)))) = ((m : Int), 0) ∧ m ≤ 1000000000000000000 := by
  obtain ⟨f1, f2⟩ := fitsB_true hf
  have x0 := absI_nn n
  have x1 := absI_le f1 f2
  obtain ⟨m, r1, r2, r3⟩ := round_fit (n := absI n) (p := 2) (d := 10000) (K := 100000000000000) (fitsB_of (by omega) x1) x0 (by decide) (by decide) (by decide) (by decide)
  have e : max (max n (-n)) (-(max n (-n))) = absI n := by rw [maxabs, maxabs, absI_pos x0]
  exact ⟨m, by rw [maxabs]; exact sized_plain (by kernel_rfl) (by kernel_rfl) r1, by rw [maxabs]; exact sized_plain (by kernel_rfl) (by kernel_rfl) r1, by rw [e]; exact sized_plain (by kernel_rfl) (by kernel_rfl) r1, r3⟩
theorem two_ch (n : Int) : (n < 0 → chosenR 2 n = 1) ∧ (¬ n < 0 → chosenR 2 n = 0) := by
  unfold chosenR
  refine ⟨fun h => ?_, fun h => ?_⟩
  · rw [if_neg (by omega), if_pos h]
  · by_cases h0 : 0 < n
    · rw [if_pos (.inr h0)]
    · rw [if_neg (by omega), if_neg h, if_neg (by decide)]
set_option maxHeartbeats 4000000 in
theorem codesSigns_walk (n : Int) (w : World) (h : EnvC w) :
    Calls Tryz.prog 3 #[.int .i64 n] w fun e w' => e = .returned (.bool true) ∧ Below w.heap.size w w' := by
  have HL : Hid (∀ W : World, Below w.heap.size w W → Calls Tryz.prog 5 #[] W fun e w' => e = .returned (.bool true) ∧ Below W.heap.size W w') := fun W hW => lives_any W (h.below hW)
  have HN : Hid (∀ (n : Int) (W : World), Calls Tryz.prog 7 #[.int .i64 n] W fun e w' => e = .returned (.agg #[.int .i64 1, .int .i64 n, .string ⟨#[]⟩, .bool false, .int .i64 0]) ∧ Below W.heap.size W w') := hide lnumber_any
  have HF : Hid (∀ W : World, Calls Tryz.prog 4 #[.int .i64 n] W fun e w' => e = .returned (.bool (fitsB n)) ∧ w' = W) := fun W => fits_any n W
  by_cases hf : fitsB n = true
  · obtain ⟨f1, f2⟩ := fitsB_true hf
    obtain ⟨m, s1, s2, s3, hm⟩ := round_two hf
    have hfm : fitsB (max n (-n)) = true := fitsB_of (by omega) (by omega)
    have q0 : AppQ lS1 1 (max n (-n)) ⟨#[]⟩ false 0 (numT plS m) 0 := by
      rw [← text_S1]
      exact .number opt_S1 (check_num hfm) (.inr rfl) (.num (by rw [show chosenR (leftS [pS1]).length (max n (-n)) = 0 from if_pos (.inl rfl)]; rfl) (by decide) s3 (by omega) (fun h => by omega))
    have HA : Hid (∀ W : World, Below w.heap.size w W → Calls Tryz.prog 6 #[.string ⟨#[48, 46, 48, 48]⟩, .agg #[.int .i64 1, .int .i64 (max n (-n)), .string ⟨#[]⟩, .bool false, .int .i64 0]] W fun e w' => e = .returned (.tuple #[.string ⟨(numT plS m).toArray⟩, .int .i64 0]) ∧ Below W.heap.size W w') := fun W hW => Apply_any q0 W (by decide) (h.below hW).cell (h.below hW).tab (h.below hW).len (by decide)
    rw [hf] at HF
    have hT1 : (numT plS m).length ≤ 1000 := by
      have hl := dec_len (u := m / 1000000) (by omega)
      have hz := padTo_len (Lib.decDigits (m % 1000000)) 6
      have hy := cnd_le 5 (m % 1000000) (by omega)
      have hx := Lib.decDigits_length (u := m % 1000000)
      unfold numT wholeT plS
      simp only [if_true, Bool.false_eq_true, if_false, List.length_append, List.length_cons]
      rw [pad_one]
      have : (fracP ⟨false, true, 1, 2, 0⟩ (m % 1000000)).length ≤ 20 := by
        unfold fracP
        have ht := trim_len ((fracD ⟨false, true, 1, 2, 0⟩ (m % 1000000)).drop 2) 48
        have hd : (fracD ⟨false, true, 1, 2, 0⟩ (m % 1000000)).length ≤ 6 := by
          unfold fracD
          rw [List.length_append, hz]
          simp [Lib.repeatL]
          omega
        simp only [List.length_append, List.length_take, List.length_drop] at *
        omega
      omega
    have e1 : (⟨#[45]⟩ : ByteArray) ++ ⟨(numT plS m).toArray⟩ = ⟨(45 :: numT plS m).toArray⟩ := ba_app [45] _
    have e2 : (⟨#[40]⟩ : ByteArray) ++ ⟨(numT plS m).toArray⟩ ++ ⟨#[41]⟩ = ⟨(40 :: (numT plS m ++ [41])).toArray⟩ := by
      rw [show (⟨#[40]⟩ : ByteArray) = ⟨[40].toArray⟩ from rfl, show (⟨#[41]⟩ : ByteArray) = ⟨[41].toArray⟩ from rfl, ba_app, ba_app]; rfl
    by_cases h0 : n < 0
    · have q1 : AppQ lS1 1 n ⟨#[]⟩ false 0 (45 :: numT plS m) 0 := by
        rw [← text_S1]
        exact .number opt_S1 (check_num hf) (.inr rfl) (.minus (by rw [show chosenR (leftS [pS1]).length n = 0 from if_pos (.inl rfl)]; rfl) (by decide) s1 (by omega) ⟨by kernel_rfl, h0⟩)
      have q2 : AppQ lS2 1 n ⟨#[]⟩ false 0 (40 :: (numT plS m ++ [41])) 0 := by
        rw [← text_S2]
        exact .number opt_S2 (check_num hf) (.inr rfl) (.num (by rw [show (leftS [pS1, pS2]).length = 2 by kernel_rfl, (two_ch n).1 h0]; kernel_rfl) (by decide) s2 (by omega) (fun h => by have h1 := h.1; rw [show (leftS [pS1, pS2]).length = 2 by kernel_rfl] at h1; omega))
      have H1 : Hid (∀ W : World, Below w.heap.size w W → Calls Tryz.prog 8 #[.string ⟨#[48, 46, 48, 48]⟩, .agg #[.int .i64 1, .int .i64 n, .string ⟨#[]⟩, .bool false, .int .i64 0], .string (⟨#[45]⟩ ++ ⟨(numT plS m).toArray⟩)] W fun e w' => e = .returned (.bool true) ∧ Below W.heap.size W w') := fun W hW => by rw [e1]; exact is_yes q1 W (h.below hW) (by decide) (by decide)
      have H2 : Hid (∀ W : World, Below w.heap.size w W → Calls Tryz.prog 8 #[.string ⟨#[48, 46, 48, 48, 59, 40, 48, 46, 48, 48, 41]⟩, .agg #[.int .i64 1, .int .i64 n, .string ⟨#[]⟩, .bool false, .int .i64 0], .string (⟨#[40]⟩ ++ ⟨(numT plS m).toArray⟩ ++ ⟨#[41]⟩)] W fun e w' => e = .returned (.bool true) ∧ Below W.heap.size W w') := fun W hW => by rw [e2]; exact is_yes q2 W (h.below hW) (by decide) (by decide)
      generalize numT plS m = T at *
      have szT := mk_size T
      have i1 : IntKind.i64.wrap (-n) = -n := by rw [IntKind.wrap_i64]; omega
      clear h hf q0 q1 q2 s1 s2 s3 hm hfm e1 e2
      have HB := hide (Below.refl w.heap.size w)
      go_enter Tryz.func3, Tryz.ntmps3
      go_wp2_with (first | (go_at_call 4; refine (HF.out _).mono ?_; rintro e w0 ⟨rfl, rfl⟩) | (go_at_call 7; refine (HN.out _ _).mono ?_; rintro e w1 ⟨rfl, hb1⟩; replace HB := hide (up HB.out hb1); clear hb1) | (go_at_call 6; refine (HA.out _ HB.out).mono ?_; rintro e w2 ⟨rfl, hb1⟩; replace HB := hide (up HB.out hb1); clear hb1) | (first | (go_at_call 8; refine (H1.out _ HB.out).mono ?_; rintro e w3 ⟨rfl, hb1⟩; replace HB := hide (up HB.out hb1); clear hb1 H1) | (go_at_call 8; refine (H2.out _ HB.out).mono ?_; rintro e w3 ⟨rfl, hb1⟩; replace HB := hide (up HB.out hb1); clear hb1)) | (go_at_call 5; refine (HL.out _ HB.out).mono ?_; rintro e w9 ⟨rfl, hb1⟩; replace HB := hide (up HB.out hb1); clear hb1))
      go_ret
      exact ⟨rfl, HB.out⟩
    · have q1 : AppQ lS2 1 n ⟨#[]⟩ false 0 (numT plS m) 0 := by
        rw [← text_S1]
        exact .number opt_S2 (check_num hf) (.inr rfl) (.num (by rw [show (leftS [pS1, pS2]).length = 2 by kernel_rfl, (two_ch n).2 h0]; kernel_rfl) (by decide) s1 (by omega) (fun h => h0 h.2))
      have q2 : AppQ lS3 1 n ⟨#[]⟩ false 0 (40 :: (numT plS m ++ [41])) 0 := by
        rw [← text_S2]
        exact .number opt_S3 (check_num hf) (.inr rfl) (.num (by rw [show (leftS [pS2, pS1]).length = 2 by kernel_rfl, (two_ch n).2 h0]; kernel_rfl) (by decide) s2 (by omega) (fun h => h0 h.2))
      have H1 : Hid (∀ W : World, Below w.heap.size w W → Calls Tryz.prog 8 #[.string ⟨#[48, 46, 48, 48, 59, 40, 48, 46, 48, 48, 41]⟩, .agg #[.int .i64 1, .int .i64 n, .string ⟨#[]⟩, .bool false, .int .i64 0], .string ⟨(numT plS m).toArray⟩] W fun e w' => e = .returned (.bool true) ∧ Below W.heap.size W w') := fun W hW => is_yes q1 W (h.below hW) (by decide) (by decide)
      have H2 : Hid (∀ W : World, Below w.heap.size w W → Calls Tryz.prog 8 #[.string ⟨#[40, 48, 46, 48, 48, 41, 59, 48, 46, 48, 48]⟩, .agg #[.int .i64 1, .int .i64 n, .string ⟨#[]⟩, .bool false, .int .i64 0], .string (⟨#[40]⟩ ++ ⟨(numT plS m).toArray⟩ ++ ⟨#[41]⟩)] W fun e w' => e = .returned (.bool true) ∧ Below W.heap.size W w') := fun W hW => by rw [e2]; exact is_yes q2 W (h.below hW) (by decide) (by decide)
      generalize numT plS m = T at *
      have szT := mk_size T
      have i1 : IntKind.i64.wrap (-n) = -n := by rw [IntKind.wrap_i64]; omega
      clear h hf q0 q1 q2 s1 s2 s3 hm hfm e1 e2
      have HB := hide (Below.refl w.heap.size w)
      go_enter Tryz.func3, Tryz.ntmps3
      go_wp2_with (first | (go_at_call 4; refine (HF.out _).mono ?_; rintro e w0 ⟨rfl, rfl⟩) | (go_at_call 7; refine (HN.out _ _).mono ?_; rintro e w1 ⟨rfl, hb1⟩; replace HB := hide (up HB.out hb1); clear hb1) | (go_at_call 6; refine (HA.out _ HB.out).mono ?_; rintro e w2 ⟨rfl, hb1⟩; replace HB := hide (up HB.out hb1); clear hb1) | (first | (go_at_call 8; refine (H1.out _ HB.out).mono ?_; rintro e w3 ⟨rfl, hb1⟩; replace HB := hide (up HB.out hb1); clear hb1 H1) | (go_at_call 8; refine (H2.out _ HB.out).mono ?_; rintro e w3 ⟨rfl, hb1⟩; replace HB := hide (up HB.out hb1); clear hb1)) | (go_at_call 5; refine (HL.out _ HB.out).mono ?_; rintro e w9 ⟨rfl, hb1⟩; replace HB := hide (up HB.out hb1); clear hb1))
      go_ret
      exact ⟨rfl, HB.out⟩
  · have hf' : fitsB n = false := Bool.eq_false_iff.2 hf
    rw [hf'] at HF
    clear h hf hf'
    have HB := hide (Below.refl w.heap.size w)
    go_enter Tryz.func3, Tryz.ntmps3
    go_wp2_with (first | (go_at_call 4; refine (HF.out _).mono ?_; rintro e w0 ⟨rfl, rfl⟩) | (go_at_call 5; refine (HL.out _ HB.out).mono ?_; rintro e w9 ⟨rfl, hb1⟩; replace HB := hide (up HB.out hb1); clear hb1))
    go_ret
    exact ⟨rfl, HB.out⟩
end Go.Proofs.YtmjjdcfobdcdpabGreatDoor
