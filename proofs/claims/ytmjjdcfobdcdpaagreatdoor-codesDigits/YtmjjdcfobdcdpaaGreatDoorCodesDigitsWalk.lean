/-
  The walk of CodesDigits.
-/
import Derived.Test.YtmjjdcfobdcdpaaGreatDoorCd11
namespace Go.Proofs.YtmjjdcfobdcdpaaGreatDoor
open Go.RowKit
set_option linter.unusedSimpArgs false

def litG : List UInt8 := [48, 46, 48, 48, 48, 48, 48, 48]
def psG : List Pc := [⟨1, litG⟩]
theorem opt_G : secsOpt litG = some [psG] := by kernel_rfl
theorem plc_G : plcOf psG = ⟨false, true, 1, 6, 0⟩ := by kernel_rfl
/-- What the format of six places writes of a number that is not below 0. -/
def sixT (m : Nat) : List UInt8 := Lib.decDigits (m / 1000000) ++ 46 :: padTo (Lib.decDigits (m % 1000000)) 6
theorem text_G (m : Nat) : secT (plcOf psG) m 0 0 0 [] psG = sixT m := by
  rw [plc_G]
  unfold psG
  rw [secT_one]
  unfold numT wholeT
  simp only [if_true, Bool.false_eq_true, if_false]
  rw [pad_one, frac_six (Nat.mod_lt _ (by decide))]
  rfl
theorem digits_q {n : Int} (hf : fitsB n = true) : AppQ litG 1 n ⟨#[]⟩ false 0 ((if decide (n < 0) then [45] else []) ++ sixT (absI n).toNat) 0 := by
  obtain ⟨f1, f2⟩ := fitsB_true hf
  have x0 := absI_nn n
  have x1 := absI_le f1 f2
  obtain ⟨m, r1, r2, r3⟩ := round_fit (n := absI n) (p := 6) (d := 1) (K := 1000000000000000000) (fitsB_of (by omega) x1) x0 (by decide) (by decide) (by decide) (by decide)
  rw [half_one, Int.mul_one] at r2
  have hm : (absI n).toNat = m := by omega
  have hc : (leftS [psG])[chosenR (leftS [psG]).length n]? = some psG := by rw [show chosenR (leftS [psG]).length n = 0 from if_pos (.inl rfl)]; rfl
  have hs : sizedR psG (max n (-n)) = ((m : Int), 0) := by rw [maxabs]; exact sized_plain (by kernel_rfl) (by kernel_rfl) r1
  rw [hm, ← text_G]
  by_cases h0 : n < 0
  · rw [decide_eq_true h0]
    exact .number opt_G (check_num hf) (.inr rfl) (.minus hc (by decide) hs (by omega) ⟨by kernel_rfl, h0⟩)
  · rw [decide_eq_false h0]
    exact .number opt_G (check_num hf) (.inr rfl) (.num hc (by decide) hs (by omega) (fun h => h0 h.2))
theorem digits_back {n : Int} (hf : fitsB n = true) : parseR ((if decide (n < 0) then [45] else []) ++ sixT (absI n).toNat) = (n, 0) := by
  obtain ⟨f1, f2⟩ := fitsB_true hf
  have x0 := absI_nn n
  have x1 := absI_le f1 f2
  obtain ⟨p1, p2, p3⟩ := pad_facts ((absI n).toNat % 1000000) 6
  have h6 := six_len (r := (absI n).toNat % 1000000) (Nat.mod_lt _ (by decide))
  have hv : val (Lib.decDigits ((absI n).toNat / 1000000) ++ padTo (Lib.decDigits ((absI n).toNat % 1000000)) 6) = absI n := by
    rw [val_app, dec_val, p2, h6, show p10 6 = 1000000 by decide]; omega
  unfold sixT
  rw [parse_six (decide (n < 0)) (dec_all _) (dec_ne _) p1 h6 (dec_len (by omega)) (by rw [hv]; exact x1), hv]
  unfold put absI
  by_cases h : n < 0 <;> simp [h]
theorem six_size {n : Int} (hf : fitsB n = true) : (⟨((if decide (n < 0) then [45] else []) ++ sixT (absI n).toNat).toArray⟩ : ByteArray).size ≤ maxLen := by
  obtain ⟨f1, f2⟩ := fitsB_true hf
  have x1 := absI_le f1 f2
  have h6 := six_len (r := (absI n).toNat % 1000000) (Nat.mod_lt _ (by decide))
  have hl := dec_len (u := (absI n).toNat / 1000000) (by omega)
  rw [mk_size]
  unfold sixT maxLen
  rw [List.length_append, List.length_append, List.length_cons, h6]
  split <;> simp <;> omega
set_option maxHeartbeats 4000000 in
theorem codesDigits_walk (n : Int) (w : World) (h : EnvC w) :
    Calls Tryz.prog 5 #[.int .i64 n] w fun e w' => e = .returned (.bool true) ∧ Below w.heap.size w w' := by
  have HL : Hid (∀ W : World, Below w.heap.size w W → Calls Tryz.prog 13 #[] W fun e w' => e = .returned (.bool true) ∧ Below W.heap.size W w') := fun W hW => lives_any W (h.below hW)
  have HN : Hid (∀ (n : Int) (W : World), Calls Tryz.prog 17 #[.int .i64 n] W fun e w' => e = .returned (.agg #[.int .i64 1, .int .i64 n, .string ⟨#[]⟩, .bool false, .int .i64 0]) ∧ Below W.heap.size W w') := hide lnumber_any
  have HF : Hid (∀ W : World, Calls Tryz.prog 16 #[.int .i64 n] W fun e w' => e = .returned (.bool (fitsB n)) ∧ w' = W) := fun W => fits_any n W
  by_cases hf : fitsB n = true
  · have HA : Hid (∀ W : World, Below w.heap.size w W → Calls Tryz.prog 14 #[.string ⟨#[48, 46, 48, 48, 48, 48, 48, 48]⟩, .agg #[.int .i64 1, .int .i64 n, .string ⟨#[]⟩, .bool false, .int .i64 0]] W fun e w' => e = .returned (.tuple #[.string ⟨((if decide (n < 0) then [45] else []) ++ sixT (absI n).toNat).toArray⟩, .int .i64 0]) ∧ Below W.heap.size W w') := fun W hW => Apply_any (digits_q hf) W (by decide) (h.below hW).cell (h.below hW).tab (h.below hW).len (by decide)
    have HP : Hid (∀ W : World, Below w.heap.size w W → Calls Tryz.prog 18 #[.string ⟨((if decide (n < 0) then [45] else []) ++ sixT (absI n).toNat).toArray⟩] W fun e w' => e = .returned (.tuple #[.int .i64 n, .int .i64 0]) ∧ Below W.heap.size W w') := fun W hW => by
      have := parse_at ⟨((if decide (n < 0) then [45] else []) ++ sixT (absI n).toNat).toArray⟩ W (h.below hW).cell (six_size hf)
      rw [List.toList_toArray, digits_back hf] at this
      exact this
    rw [hf] at HF
    generalize (if decide (n < 0) then [45] else []) ++ sixT (absI n).toNat = T at *
    clear h hf
    go_enter Tryz.func5, Tryz.ntmps5
    go_wp2_with (first | (go_at_call 16; refine (HF.out _).mono ?_; rintro e w0 ⟨rfl, rfl⟩) | (go_at_call 17; refine (HN.out _ _).mono ?_; rintro e w1 ⟨rfl, hb1⟩; have HB1 := hide hb1; clear hb1) | (go_at_call 14; refine (HA.out _ HB1.out).mono ?_; rintro e w2 ⟨rfl, hb2⟩; have HB2 := hide (up HB1.out hb2); clear hb2) | (go_at_call 18; refine (HP.out _ HB2.out).mono ?_; rintro e w3 ⟨rfl, hb3⟩; have HB3 := hide (up HB2.out hb3); clear hb3) | (go_at_call 13; refine (HL.out _ HB3.out).mono ?_; rintro e w4 ⟨rfl, hb4⟩))
    go_ret
    exact ⟨rfl, up HB3.out hb4⟩
  · have hf' : fitsB n = false := Bool.eq_false_iff.2 hf
    have hv : checkV 1 n ⟨#[]⟩ false 0 = 2 := by unfold checkV rightB; simp [hf']
    have HA : Hid (∀ W : World, Below w.heap.size w W → Calls Tryz.prog 14 #[.string ⟨#[48, 46, 48, 48, 48, 48, 48, 48]⟩, .agg #[.int .i64 1, .int .i64 n, .string ⟨#[]⟩, .bool false, .int .i64 0]] W fun e w' => e = .returned (.tuple #[.string ⟨#[]⟩, .int .i64 2]) ∧ Below W.heap.size W w') := fun W hW => Apply_any (AppQ.wrong opt_G hv) W (by decide) (h.below hW).cell (h.below hW).tab (h.below hW).len (by decide)
    rw [hf'] at HF
    clear h hf hf' hv
    go_enter Tryz.func5, Tryz.ntmps5
    go_wp2_with (first | (go_at_call 16; refine (HF.out _).mono ?_; rintro e w0 ⟨rfl, rfl⟩) | (go_at_call 17; refine (HN.out _ _).mono ?_; rintro e w1 ⟨rfl, hb1⟩; have HB1 := hide hb1; clear hb1) | (go_at_call 14; refine (HA.out _ HB1.out).mono ?_; rintro e w2 ⟨rfl, hb2⟩; have HB2 := hide (up HB1.out hb2); clear hb2) | (go_at_call 13; refine (HL.out _ HB2.out).mono ?_; rintro e w4 ⟨rfl, hb4⟩))
    go_ret
    exact ⟨rfl, up HB2.out hb4⟩
end Go.Proofs.YtmjjdcfobdcdpaaGreatDoor
