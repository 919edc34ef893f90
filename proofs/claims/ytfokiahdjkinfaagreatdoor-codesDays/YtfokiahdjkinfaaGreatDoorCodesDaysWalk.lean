/-
  The walk of CodesDays.
-/
import Derived.Test.YtfokiahdjkinfaaGreatDoorCd10
namespace Go.Proofs.YtfokiahdjkinfaaGreatDoor
open Go.RowKit
set_option linter.unusedSimpArgs false

def psD : List Pc := [⟨3, [121, 121, 121, 121]⟩, ⟨0, [45]⟩, ⟨3, [109, 109]⟩, ⟨0, [45]⟩, ⟨3, [100, 100]⟩]
theorem day_of {s : Int} (h1 : -1000000000 ≤ s) (h2 : s ≤ 1000000000) : dayOf (s * 1000000 + 250000) = s := by
  have hf : fitsB (s * 1000000 + 250000) = true := by unfold fitsB; simp; omega
  have hm : fmodR (s * 1000000 + 250000) 1000000 = 250000 := by
    unfold fmodR
    by_cases hs : 0 ≤ s
    · have : (s * 1000000 + 250000).tmod 1000000 = 250000 := by rw [Int.tmod_eq_emod_of_nonneg (by omega)]; omega
      rw [this]; decide
    · have h0 : (s * 1000000 + 250000).tmod 1000000 = -750000 := by
        have e : s * 1000000 + 250000 = -(-(s * 1000000 + 250000)) := by omega
        rw [e, Int.neg_tmod, Int.tmod_eq_emod_of_nonneg (by omega)]
        omega
      rw [h0]; decide
  have ht : floorR (s * 1000000 + 250000) = (s * 1000000, 0) := by
    unfold floorR
    rw [hf, hm, if_pos rfl, show s * 1000000 + 250000 - 250000 = s * 1000000 by omega]
    exact told_yes (by unfold fitsB; simp; omega)
  unfold dayOf
  rw [ht]
  exact Int.mul_tdiv_cancel _ (by decide)
theorem text_day (y k d : Nat) : secT zeroPlc 0 y (k + 1) d [] psD = Dat.textL y k d := by
  have e1 : dayN [121, 121, 121, 121] y (k + 1) d = y := by simp [dayN]
  have e2 : dayN [109, 109] y (k + 1) d = k + 1 := by simp [dayN]
  have e3 : dayN [100, 100] y (k + 1) d = d := by simp [dayN]
  simp [secT, psD, pieceT, dayT, e1, e2, e3, Dat.textL, Dat.padL, padTo]
def litD : List UInt8 := [121, 121, 121, 121, 45, 109, 109, 45, 100, 100]
theorem opt_day : secsOpt litD = some [psD] := by kernel_rfl
theorem check_num {n : Int} (h : fitsB n = true) : checkV 1 n ⟨#[]⟩ false 0 = 0 := by
  unfold checkV rightB
  simp [h]
set_option maxHeartbeats 4000000 in
theorem codesDays_walk (s : Int) (w : World) (h : EnvC w) :
    Calls Tryz.prog 7 #[.int .i64 s] w fun e w' => e = .returned (.bool true) ∧ Below w.heap.size w w' := by
  have HL : Hid (∀ W : World, Below w.heap.size w W → Calls Tryz.prog 13 #[] W fun e w' => e = .returned (.bool true) ∧ Below W.heap.size W w') := fun W hW => lives_any W (h.below hW)
  have HN : Hid (∀ (n : Int) (W : World), Calls Tryz.prog 17 #[.int .i64 n] W fun e w' => e = .returned (.agg #[.int .i64 1, .int .i64 n, .string ⟨#[]⟩, .bool false, .int .i64 0]) ∧ Below W.heap.size W w') := hide lnumber_any
  by_cases a : -1000000000 ≤ s ∧ s ≤ 1000000000
  · obtain ⟨a1, a2⟩ := a
    have hf : fitsB (s * 1000000 + 250000) = true := by unfold fitsB; simp; omega
    by_cases hd : 1 ≤ s ∧ s ≤ 2958464
    · obtain ⟨y, k, d, hday⟩ := Dat.day_exists hd.1 hd.2
      obtain ⟨yn, rfl⟩ : ∃ yn : Nat, y = yn := ⟨y.toNat, by have := hday.y1; omega⟩
      obtain ⟨dn, rfl⟩ : ∃ dn : Nat, d = dn := ⟨d.toNat, by have := hday.d1; omega⟩
      have hq : AppQ litD 1 (s * 1000000 + 250000) ⟨#[]⟩ false 0 (Dat.textL yn k dn) 0 := .number opt_day (check_num hf) (.inr rfl) (day_lit (ps := psD) (by rw [show chosenR (leftS [psD]).length (s * 1000000 + 250000) = 0 from if_pos (.inl rfl)]; rfl) (by kernel_rfl) (by rw [day_of a1 a2]; exact hday) (text_day yn k dn))
      have HA : Hid (∀ W : World, Below w.heap.size w W → Calls Tryz.prog 14 #[.string ⟨#[121, 121, 121, 121, 45, 109, 109, 45, 100, 100]⟩, .agg #[.int .i64 1, .int .i64 (s * 1000000 + 250000), .string ⟨#[]⟩, .bool false, .int .i64 0]] W fun e w' => e = .returned (.tuple #[.string ⟨(Dat.textL yn k dn).toArray⟩, .int .i64 0]) ∧ Below W.heap.size W w') := fun W hW => Apply_any hq W (by decide) (h.below hW).cell (h.below hW).tab (h.below hW).len (by decide)
      have HP : Hid (∀ W : World, Below w.heap.size w W → Calls Tryz.prog 20 #[.int .i64 s] W fun e w' => e = .returned (.tuple #[.string ⟨(Dat.textL yn k dn).toArray⟩, .int .i64 0]) ∧ Below W.heap.size W w') := fun W hW => Dat.print_yes yn k dn s W hday (h.below hW).len (h.below hW).tab
      generalize Dat.textL yn k dn = T at *
      clear hday hd hq h
      go_enter Tryz.func7, Tryz.ntmps7
      go_wp2_with (first | (go_at_call 17; refine (HN.out _ _).mono ?_; rintro e w1 ⟨rfl, hb1⟩; have HB1 := hide hb1; clear hb1) | (go_at_call 14; refine (HA.out _ HB1.out).mono ?_; rintro e w2 ⟨rfl, hb2⟩; have HB2 := hide (up HB1.out hb2); clear hb2) | (go_at_call 20; refine (HP.out _ HB2.out).mono ?_; rintro e w3 ⟨rfl, hb3⟩; have HB3 := hide (up HB2.out hb3); clear hb3) | (go_at_call 13; refine (HL.out _ HB3.out).mono ?_; rintro e w4 ⟨rfl, hb4⟩))
      go_ret
      exact ⟨rfl, up HB3.out hb4⟩
    · have hq : AppQ litD 1 (s * 1000000 + 250000) ⟨#[]⟩ false 0 [] 2 := .number opt_day (check_num hf) (.inr rfl) (.noday (ps := psD) (by rw [show chosenR (leftS [psD]).length (s * 1000000 + 250000) = 0 from if_pos (.inl rfl)]; rfl) (by kernel_rfl) (by rw [day_of a1 a2]; exact hd))
      have HA : Hid (∀ W : World, Below w.heap.size w W → Calls Tryz.prog 14 #[.string ⟨#[121, 121, 121, 121, 45, 109, 109, 45, 100, 100]⟩, .agg #[.int .i64 1, .int .i64 (s * 1000000 + 250000), .string ⟨#[]⟩, .bool false, .int .i64 0]] W fun e w' => e = .returned (.tuple #[.string ⟨#[]⟩, .int .i64 2]) ∧ Below W.heap.size W w') := fun W hW => Apply_any hq W (by decide) (h.below hW).cell (h.below hW).tab (h.below hW).len (by decide)
      have HP : Hid (∀ W : World, Below w.heap.size w W → Calls Tryz.prog 20 #[.int .i64 s] W fun e w' => e = .returned (.tuple #[.string ⟨#[]⟩, .int .i64 2]) ∧ Below W.heap.size W w') := fun W _ => Dat.print_no s W hd
      clear hd hq h
      go_enter Tryz.func7, Tryz.ntmps7
      go_wp2_with (first | (go_at_call 17; refine (HN.out _ _).mono ?_; rintro e w1 ⟨rfl, hb1⟩; have HB1 := hide hb1; clear hb1) | (go_at_call 14; refine (HA.out _ HB1.out).mono ?_; rintro e w2 ⟨rfl, hb2⟩; have HB2 := hide (up HB1.out hb2); clear hb2) | (go_at_call 20; refine (HP.out _ HB2.out).mono ?_; rintro e w3 ⟨rfl, hb3⟩; have HB3 := hide (up HB2.out hb3); clear hb3) | (go_at_call 13; refine (HL.out _ HB3.out).mono ?_; rintro e w4 ⟨rfl, hb4⟩))
      go_ret
      exact ⟨rfl, up HB3.out hb4⟩
  · have HL0 := hide (HL.out w (Below.refl _ w))
    have a' : s < -1000000000 ∨ 1000000000 < s := by omega
    clear a h
    by_cases b : s < -1000000000
    · go_enter Tryz.func7, Tryz.ntmps7
      go_wp2_with (go_at_call 13; refine HL0.out.mono ?_; rintro e w4 ⟨rfl, hb4⟩)
      go_ret
      exact ⟨rfl, hb4⟩
    · have c : 1000000000 < s := by omega
      clear a'
      go_enter Tryz.func7, Tryz.ntmps7
      go_wp2_with (go_at_call 13; refine HL0.out.mono ?_; rintro e w4 ⟨rfl, hb4⟩)
      go_ret
      exact ⟨rfl, hb4⟩
end Go.Proofs.YtfokiahdjkinfaaGreatDoor
