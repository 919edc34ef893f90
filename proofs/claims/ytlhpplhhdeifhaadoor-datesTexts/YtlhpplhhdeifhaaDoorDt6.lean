/-
  The contracts of dates' fits, isShaped, number, read and Parse.
-/
import Derived.Test.YtlhpplhhdeifhaaDoorDt5
import Derived.LoopTactic
import Derived.Lib.AtoiErrMem
namespace Go.Proofs.YtlhpplhhdeifhaaDoor
open Go.RowKit

set_option maxHeartbeats 400000 in
theorem fits_dig (c : UInt8) (w : World) : Calls Tryd.prog 42 #[.int .u8 (c.toNat : Int), .int .u8 48] w fun e w' => e = .returned (.bool (digB c)) ∧ w' = w := by
  have hu : c.toNat < 256 := UInt8.toNat_lt _
  by_cases a1 : (48 : Int) ≤ c.toNat
  · by_cases a2 : (c.toNat : Int) ≤ 57
    · rw [digB_iff.2 (by omega)]
      go_enter Tryd.func42, Tryd.ntmps42
      go_wp2
      go_ret
      exact ⟨rfl, rfl⟩
    · rw [digB_no.2 (by omega)]
      go_enter Tryd.func42, Tryd.ntmps42
      go_wp2
      go_ret
      exact ⟨rfl, rfl⟩
  · rw [digB_no.2 (by omega)]
    go_enter Tryd.func42, Tryd.ntmps42
    go_wp2
    go_ret
    exact ⟨rfl, rfl⟩
/-- A dash's byte. -/
def dashB (c : UInt8) : Bool := decide (c.toNat = 45)
set_option maxHeartbeats 400000 in
theorem fits_dash (c : UInt8) (w : World) : Calls Tryd.prog 42 #[.int .u8 (c.toNat : Int), .int .u8 45] w fun e w' => e = .returned (.bool (dashB c)) ∧ w' = w := by
  have hu : c.toNat < 256 := UInt8.toNat_lt _
  by_cases a : c.toNat = 45
  · rw [show dashB c = true by unfold dashB; simp [a]]
    have a1 : ((c.toNat : Int) == 45) = true := by rw [beq_iff_eq]; omega
    clear a
    go_enter Tryd.func42, Tryd.ntmps42
    go_wp2
    go_ret
    exact ⟨rfl, rfl⟩
  · rw [show dashB c = false by unfold dashB; simp [a]]
    have a1 : ((c.toNat : Int) == 45) = false := by rw [beq_eq_false_iff_ne]; omega
    clear a
    go_enter Tryd.func42, Tryd.ntmps42
    go_wp2
    go_ret
    exact ⟨rfl, rfl⟩
/-- Does the byte at k fit? -/
def fitAt (l : List UInt8) (k : Nat) : Bool := if k = 4 ∨ k = 7 then dashB (l.getD k 0) else digB (l.getD k 0)
/-- Is it written as a day is? -/
def shapeB (l : List UInt8) : Bool := (List.range 10).all (fitAt l)
theorem shape_yes {l : List UInt8} (h : ∀ j, j < 10 → fitAt l j = true) : shapeB l = true := by unfold shapeB; rw [List.all_eq_true]; intro j hj; exact h j (List.mem_range.1 hj)
theorem shape_no {l : List UInt8} {j : Nat} (hj : j < 10) (h : fitAt l j = false) : shapeB l = false := by
  unfold shapeB; rw [List.all_eq_false]; exact ⟨j, List.mem_range.2 hj, by rw [h]; decide⟩
theorem shape_at {l : List UInt8} (h : shapeB l = true) {j : Nat} (hj : j < 10) : fitAt l j = true := by
  unfold shapeB at h; rw [List.all_eq_true] at h; exact h j (List.mem_range.2 hj)
set_option maxHeartbeats 2000000 in
theorem isShaped_ten (b0 b1 b2 b3 b4 b5 b6 b7 b8 b9 : UInt8) (w : World) :
    Calls Tryd.prog 36 #[.string ⟨#[b0, b1, b2, b3, b4, b5, b6, b7, b8, b9]⟩] w fun e w' => e = .returned (.bool (shapeB [b0, b1, b2, b3, b4, b5, b6, b7, b8, b9])) ∧ Below w.heap.size w w' := by
  have hsz : (⟨#[b0, b1, b2, b3, b4, b5, b6, b7, b8, b9]⟩ : ByteArray).size = 10 := rfl
  go_enter Tryd.func36, Tryd.ntmps36
  go_wp2
  go_loopw [7] (fun i wr => ∃ k : Nat, k ≤ 10 ∧ i = .int .i64 k ∧ (∀ j, j < k → fitAt [b0, b1, b2, b3, b4, b5, b6, b7, b8, b9] j = true) ∧ Below w.heap.size w wr) (fun i _ => 10 - (intOf i).toNat)
  case atStart => exact ⟨0, by omega, rfl, fun j hj => absurd hj (by omega), Below.refl _ _⟩
  case round =>
    obtain ⟨k, hk, rfl, hall, hB⟩ := hrel
    have HA := hide hall
    clear hall
    have key : k = 0 ∨ k = 1 ∨ k = 2 ∨ k = 3 ∨ k = 4 ∨ k = 5 ∨ k = 6 ∨ k = 7 ∨ k = 8 ∨ k = 9 ∨ k = 10 := by omega
    clear hk
    rcases key with rfl | rfl | rfl | rfl | rfl | rfl | rfl | rfl | rfl | rfl | rfl
    · have HF : Hid (∀ W : World, Calls Tryd.prog 42 #[.int .u8 (b0.toNat : Int), .int .u8 48] W fun e w' => e = .returned (.bool (digB b0)) ∧ w' = W) := fun W => fits_dig b0 W
      cases hv : digB b0
      · rw [hv] at HF
        have HR : Hid (shapeB [b0, b1, b2, b3, b4, b5, b6, b7, b8, b9] = false) := shape_no (l := [b0, b1, b2, b3, b4, b5, b6, b7, b8, b9]) (j := 0) (by decide) hv
        clear hv
        go_wp2_with fail
        go_region_held3 (fun w' => Below w.heap.size w w') (first | assumption | exact Below.drew (by assumption)) (first | (go_at_call 42; refine (HF.out _).mono ?_; rintro e wz ⟨rfl, hz⟩; subst wz))
        all_goals go_wp2
        all_goals go_ret
        all_goals exact ⟨by rw [HR.out]; rfl, by first | assumption | exact Below.drew (by assumption)⟩
      · rw [hv] at HF
        have HV : Hid (fitAt [b0, b1, b2, b3, b4, b5, b6, b7, b8, b9] 0 = true) := hv
        clear hv
        go_wp2_with fail
        go_region_held3 (fun w' => Below w.heap.size w w') (first | assumption | exact Below.drew (by assumption)) (first | (go_at_call 42; refine (HF.out _).mono ?_; rintro e wz ⟨rfl, hz⟩; subst wz))
        all_goals go_wp2
        all_goals go_roundw
        all_goals first | (simp [intOf]; done) | exact ⟨1, by decide, rfl, fun j hj => by
          rcases Nat.lt_or_ge j 0 with q | q
          · exact HA.out j q
          · obtain rfl : j = 0 := by omega
            exact HV.out, by first | assumption | exact Below.drew (by assumption)⟩
    · have HF : Hid (∀ W : World, Calls Tryd.prog 42 #[.int .u8 (b1.toNat : Int), .int .u8 48] W fun e w' => e = .returned (.bool (digB b1)) ∧ w' = W) := fun W => fits_dig b1 W
      cases hv : digB b1
      · rw [hv] at HF
        have HR : Hid (shapeB [b0, b1, b2, b3, b4, b5, b6, b7, b8, b9] = false) := shape_no (l := [b0, b1, b2, b3, b4, b5, b6, b7, b8, b9]) (j := 1) (by decide) hv
        clear hv
        go_wp2_with fail
        go_region_held3 (fun w' => Below w.heap.size w w') (first | assumption | exact Below.drew (by assumption)) (first | (go_at_call 42; refine (HF.out _).mono ?_; rintro e wz ⟨rfl, hz⟩; subst wz))
        all_goals go_wp2
        all_goals go_ret
        all_goals exact ⟨by rw [HR.out]; rfl, by first | assumption | exact Below.drew (by assumption)⟩
      · rw [hv] at HF
        have HV : Hid (fitAt [b0, b1, b2, b3, b4, b5, b6, b7, b8, b9] 1 = true) := hv
        clear hv
        go_wp2_with fail
        go_region_held3 (fun w' => Below w.heap.size w w') (first | assumption | exact Below.drew (by assumption)) (first | (go_at_call 42; refine (HF.out _).mono ?_; rintro e wz ⟨rfl, hz⟩; subst wz))
        all_goals go_wp2
        all_goals go_roundw
        all_goals first | (simp [intOf]; done) | exact ⟨2, by decide, rfl, fun j hj => by
          rcases Nat.lt_or_ge j 1 with q | q
          · exact HA.out j q
          · obtain rfl : j = 1 := by omega
            exact HV.out, by first | assumption | exact Below.drew (by assumption)⟩
    · have HF : Hid (∀ W : World, Calls Tryd.prog 42 #[.int .u8 (b2.toNat : Int), .int .u8 48] W fun e w' => e = .returned (.bool (digB b2)) ∧ w' = W) := fun W => fits_dig b2 W
      cases hv : digB b2
      · rw [hv] at HF
        have HR : Hid (shapeB [b0, b1, b2, b3, b4, b5, b6, b7, b8, b9] = false) := shape_no (l := [b0, b1, b2, b3, b4, b5, b6, b7, b8, b9]) (j := 2) (by decide) hv
        clear hv
        go_wp2_with fail
        go_region_held3 (fun w' => Below w.heap.size w w') (first | assumption | exact Below.drew (by assumption)) (first | (go_at_call 42; refine (HF.out _).mono ?_; rintro e wz ⟨rfl, hz⟩; subst wz))
        all_goals go_wp2
        all_goals go_ret
        all_goals exact ⟨by rw [HR.out]; rfl, by first | assumption | exact Below.drew (by assumption)⟩
      · rw [hv] at HF
        have HV : Hid (fitAt [b0, b1, b2, b3, b4, b5, b6, b7, b8, b9] 2 = true) := hv
        clear hv
        go_wp2_with fail
        go_region_held3 (fun w' => Below w.heap.size w w') (first | assumption | exact Below.drew (by assumption)) (first | (go_at_call 42; refine (HF.out _).mono ?_; rintro e wz ⟨rfl, hz⟩; subst wz))
        all_goals go_wp2
        all_goals go_roundw
        all_goals first | (simp [intOf]; done) | exact ⟨3, by decide, rfl, fun j hj => by
          rcases Nat.lt_or_ge j 2 with q | q
          · exact HA.out j q
          · obtain rfl : j = 2 := by omega
            exact HV.out, by first | assumption | exact Below.drew (by assumption)⟩
    · have HF : Hid (∀ W : World, Calls Tryd.prog 42 #[.int .u8 (b3.toNat : Int), .int .u8 48] W fun e w' => e = .returned (.bool (digB b3)) ∧ w' = W) := fun W => fits_dig b3 W
      cases hv : digB b3
      · rw [hv] at HF
        have HR : Hid (shapeB [b0, b1, b2, b3, b4, b5, b6, b7, b8, b9] = false) := shape_no (l := [b0, b1, b2, b3, b4, b5, b6, b7, b8, b9]) (j := 3) (by decide) hv
        clear hv
        go_wp2_with fail
        go_region_held3 (fun w' => Below w.heap.size w w') (first | assumption | exact Below.drew (by assumption)) (first | (go_at_call 42; refine (HF.out _).mono ?_; rintro e wz ⟨rfl, hz⟩; subst wz))
        all_goals go_wp2
        all_goals go_ret
        all_goals exact ⟨by rw [HR.out]; rfl, by first | assumption | exact Below.drew (by assumption)⟩
      · rw [hv] at HF
        have HV : Hid (fitAt [b0, b1, b2, b3, b4, b5, b6, b7, b8, b9] 3 = true) := hv
        clear hv
        go_wp2_with fail
        go_region_held3 (fun w' => Below w.heap.size w w') (first | assumption | exact Below.drew (by assumption)) (first | (go_at_call 42; refine (HF.out _).mono ?_; rintro e wz ⟨rfl, hz⟩; subst wz))
        all_goals go_wp2
        all_goals go_roundw
        all_goals first | (simp [intOf]; done) | exact ⟨4, by decide, rfl, fun j hj => by
          rcases Nat.lt_or_ge j 3 with q | q
          · exact HA.out j q
          · obtain rfl : j = 3 := by omega
            exact HV.out, by first | assumption | exact Below.drew (by assumption)⟩
    · have HF : Hid (∀ W : World, Calls Tryd.prog 42 #[.int .u8 (b4.toNat : Int), .int .u8 45] W fun e w' => e = .returned (.bool (dashB b4)) ∧ w' = W) := fun W => fits_dash b4 W
      cases hv : dashB b4
      · rw [hv] at HF
        have HR : Hid (shapeB [b0, b1, b2, b3, b4, b5, b6, b7, b8, b9] = false) := shape_no (l := [b0, b1, b2, b3, b4, b5, b6, b7, b8, b9]) (j := 4) (by decide) hv
        clear hv
        go_wp2_with fail
        go_region_held3 (fun w' => Below w.heap.size w w') (first | assumption | exact Below.drew (by assumption)) (first | (go_at_call 42; refine (HF.out _).mono ?_; rintro e wz ⟨rfl, hz⟩; subst wz))
        all_goals go_wp2
        all_goals go_ret
        all_goals exact ⟨by rw [HR.out]; rfl, by first | assumption | exact Below.drew (by assumption)⟩
      · rw [hv] at HF
        have HV : Hid (fitAt [b0, b1, b2, b3, b4, b5, b6, b7, b8, b9] 4 = true) := hv
        clear hv
        go_wp2_with fail
        go_region_held3 (fun w' => Below w.heap.size w w') (first | assumption | exact Below.drew (by assumption)) (first | (go_at_call 42; refine (HF.out _).mono ?_; rintro e wz ⟨rfl, hz⟩; subst wz))
        all_goals go_wp2
        all_goals go_roundw
        all_goals first | (simp [intOf]; done) | exact ⟨5, by decide, rfl, fun j hj => by
          rcases Nat.lt_or_ge j 4 with q | q
          · exact HA.out j q
          · obtain rfl : j = 4 := by omega
            exact HV.out, by first | assumption | exact Below.drew (by assumption)⟩
    · have HF : Hid (∀ W : World, Calls Tryd.prog 42 #[.int .u8 (b5.toNat : Int), .int .u8 48] W fun e w' => e = .returned (.bool (digB b5)) ∧ w' = W) := fun W => fits_dig b5 W
      cases hv : digB b5
      · rw [hv] at HF
        have HR : Hid (shapeB [b0, b1, b2, b3, b4, b5, b6, b7, b8, b9] = false) := shape_no (l := [b0, b1, b2, b3, b4, b5, b6, b7, b8, b9]) (j := 5) (by decide) hv
        clear hv
        go_wp2_with fail
        go_region_held3 (fun w' => Below w.heap.size w w') (first | assumption | exact Below.drew (by assumption)) (first | (go_at_call 42; refine (HF.out _).mono ?_; rintro e wz ⟨rfl, hz⟩; subst wz))
        all_goals go_wp2
        all_goals go_ret
        all_goals exact ⟨by rw [HR.out]; rfl, by first | assumption | exact Below.drew (by assumption)⟩
      · rw [hv] at HF
        have HV : Hid (fitAt [b0, b1, b2, b3, b4, b5, b6, b7, b8, b9] 5 = true) := hv
        clear hv
        go_wp2_with fail
        go_region_held3 (fun w' => Below w.heap.size w w') (first | assumption | exact Below.drew (by assumption)) (first | (go_at_call 42; refine (HF.out _).mono ?_; rintro e wz ⟨rfl, hz⟩; subst wz))
        all_goals go_wp2
        all_goals go_roundw
        all_goals first | (simp [intOf]; done) | exact ⟨6, by decide, rfl, fun j hj => by
          rcases Nat.lt_or_ge j 5 with q | q
          · exact HA.out j q
          · obtain rfl : j = 5 := by omega
            exact HV.out, by first | assumption | exact Below.drew (by assumption)⟩
    · have HF : Hid (∀ W : World, Calls Tryd.prog 42 #[.int .u8 (b6.toNat : Int), .int .u8 48] W fun e w' => e = .returned (.bool (digB b6)) ∧ w' = W) := fun W => fits_dig b6 W
      cases hv : digB b6
      · rw [hv] at HF
        have HR : Hid (shapeB [b0, b1, b2, b3, b4, b5, b6, b7, b8, b9] = false) := shape_no (l := [b0, b1, b2, b3, b4, b5, b6, b7, b8, b9]) (j := 6) (by decide) hv
        clear hv
        go_wp2_with fail
        go_region_held3 (fun w' => Below w.heap.size w w') (first | assumption | exact Below.drew (by assumption)) (first | (go_at_call 42; refine (HF.out _).mono ?_; rintro e wz ⟨rfl, hz⟩; subst wz))
        all_goals go_wp2
        all_goals go_ret
        all_goals exact ⟨by rw [HR.out]; rfl, by first | assumption | exact Below.drew (by assumption)⟩
      · rw [hv] at HF
        have HV : Hid (fitAt [b0, b1, b2, b3, b4, b5, b6, b7, b8, b9] 6 = true) := hv
        clear hv
        go_wp2_with fail
        go_region_held3 (fun w' => Below w.heap.size w w') (first | assumption | exact Below.drew (by assumption)) (first | (go_at_call 42; refine (HF.out _).mono ?_; rintro e wz ⟨rfl, hz⟩; subst wz))
        all_goals go_wp2
        all_goals go_roundw
        all_goals first | (simp [intOf]; done) | exact ⟨7, by decide, rfl, fun j hj => by
          rcases Nat.lt_or_ge j 6 with q | q
          · exact HA.out j q
          · obtain rfl : j = 6 := by omega
            exact HV.out, by first | assumption | exact Below.drew (by assumption)⟩
    · have HF : Hid (∀ W : World, Calls Tryd.prog 42 #[.int .u8 (b7.toNat : Int), .int .u8 45] W fun e w' => e = .returned (.bool (dashB b7)) ∧ w' = W) := fun W => fits_dash b7 W
      cases hv : dashB b7
      · rw [hv] at HF
        have HR : Hid (shapeB [b0, b1, b2, b3, b4, b5, b6, b7, b8, b9] = false) := shape_no (l := [b0, b1, b2, b3, b4, b5, b6, b7, b8, b9]) (j := 7) (by decide) hv
        clear hv
        go_wp2_with fail
        go_region_held3 (fun w' => Below w.heap.size w w') (first | assumption | exact Below.drew (by assumption)) (first | (go_at_call 42; refine (HF.out _).mono ?_; rintro e wz ⟨rfl, hz⟩; subst wz))
        all_goals go_wp2
        all_goals go_ret
        all_goals exact ⟨by rw [HR.out]; rfl, by first | assumption | exact Below.drew (by assumption)⟩
      · rw [hv] at HF
        have HV : Hid (fitAt [b0, b1, b2, b3, b4, b5, b6, b7, b8, b9] 7 = true) := hv
        clear hv
        go_wp2_with fail
        go_region_held3 (fun w' => Below w.heap.size w w') (first | assumption | exact Below.drew (by assumption)) (first | (go_at_call 42; refine (HF.out _).mono ?_; rintro e wz ⟨rfl, hz⟩; subst wz))
        all_goals go_wp2
        all_goals go_roundw
        all_goals first | (simp [intOf]; done) | exact ⟨8, by decide, rfl, fun j hj => by
          rcases Nat.lt_or_ge j 7 with q | q
          · exact HA.out j q
          · obtain rfl : j = 7 := by omega
            exact HV.out, by first | assumption | exact Below.drew (by assumption)⟩
    · have HF : Hid (∀ W : World, Calls Tryd.prog 42 #[.int .u8 (b8.toNat : Int), .int .u8 48] W fun e w' => e = .returned (.bool (digB b8)) ∧ w' = W) := fun W => fits_dig b8 W
      cases hv : digB b8
      · rw [hv] at HF
        have HR : Hid (shapeB [b0, b1, b2, b3, b4, b5, b6, b7, b8, b9] = false) := shape_no (l := [b0, b1, b2, b3, b4, b5, b6, b7, b8, b9]) (j := 8) (by decide) hv
        clear hv
        go_wp2_with fail
        go_region_held3 (fun w' => Below w.heap.size w w') (first | assumption | exact Below.drew (by assumption)) (first | (go_at_call 42; refine (HF.out _).mono ?_; rintro e wz ⟨rfl, hz⟩; subst wz))
        all_goals go_wp2
        all_goals go_ret
        all_goals exact ⟨by rw [HR.out]; rfl, by first | assumption | exact Below.drew (by assumption)⟩
      · rw [hv] at HF
        have HV : Hid (fitAt [b0, b1, b2, b3, b4, b5, b6, b7, b8, b9] 8 = true) := hv
        clear hv
        go_wp2_with fail
        go_region_held3 (fun w' => Below w.heap.size w w') (first | assumption | exact Below.drew (by assumption)) (first | (go_at_call 42; refine (HF.out _).mono ?_; rintro e wz ⟨rfl, hz⟩; subst wz))
        all_goals go_wp2
        all_goals go_roundw
        all_goals first | (simp [intOf]; done) | exact ⟨9, by decide, rfl, fun j hj => by
          rcases Nat.lt_or_ge j 8 with q | q
          · exact HA.out j q
          · obtain rfl : j = 8 := by omega
            exact HV.out, by first | assumption | exact Below.drew (by assumption)⟩
    · have HF : Hid (∀ W : World, Calls Tryd.prog 42 #[.int .u8 (b9.toNat : Int), .int .u8 48] W fun e w' => e = .returned (.bool (digB b9)) ∧ w' = W) := fun W => fits_dig b9 W
      cases hv : digB b9
      · rw [hv] at HF
        have HR : Hid (shapeB [b0, b1, b2, b3, b4, b5, b6, b7, b8, b9] = false) := shape_no (l := [b0, b1, b2, b3, b4, b5, b6, b7, b8, b9]) (j := 9) (by decide) hv
        clear hv
        go_wp2_with fail
        go_region_held3 (fun w' => Below w.heap.size w w') (first | assumption | exact Below.drew (by assumption)) (first | (go_at_call 42; refine (HF.out _).mono ?_; rintro e wz ⟨rfl, hz⟩; subst wz))
        all_goals go_wp2
        all_goals go_ret
        all_goals exact ⟨by rw [HR.out]; rfl, by first | assumption | exact Below.drew (by assumption)⟩
      · rw [hv] at HF
        have HV : Hid (fitAt [b0, b1, b2, b3, b4, b5, b6, b7, b8, b9] 9 = true) := hv
        clear hv
        go_wp2_with fail
        go_region_held3 (fun w' => Below w.heap.size w w') (first | assumption | exact Below.drew (by assumption)) (first | (go_at_call 42; refine (HF.out _).mono ?_; rintro e wz ⟨rfl, hz⟩; subst wz))
        all_goals go_wp2
        all_goals go_roundw
        all_goals first | (simp [intOf]; done) | exact ⟨10, by decide, rfl, fun j hj => by
          rcases Nat.lt_or_ge j 9 with q | q
          · exact HA.out j q
          · obtain rfl : j = 9 := by omega
            exact HV.out, by first | assumption | exact Below.drew (by assumption)⟩
    · have HR : Hid (shapeB [b0, b1, b2, b3, b4, b5, b6, b7, b8, b9] = true) := shape_yes HA.out
      go_wp2
      go_ret
      exact ⟨by rw [HR.out]; rfl, hB⟩
end Go.Proofs.YtlhpplhhdeifhaaDoor
