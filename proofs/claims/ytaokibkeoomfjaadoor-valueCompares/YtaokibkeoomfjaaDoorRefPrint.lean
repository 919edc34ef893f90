/-
  The contracts of the answer's Digits and Print.
-/
import Derived.Test.YtaokibkeoomfjaaDoorRefRound
import Derived.Test.YtaokibkeoomfjaaDoorTextMath
namespace Go.Proofs.YtaokibkeoomfjaaDoor
open Go.RowKit

/-- One byte, laid in a new block, as a text. -/
theorem one_byte (w : World) (u : Nat) (c : UInt8) (hc : (c.toNat : Int) = 48 + (u : Int) % 10) : (convert 78 9 (.slice (some ⟨w.heap.size, 0, none⟩) 1 1)).run Tryd.prog (w.alloc (.cells #[.int .u8 (48 + (u : Int) % 10)] 5)) = .ok (.string ⟨([c] : List UInt8).toArray⟩) (w.alloc (.cells #[.int .u8 (48 + (u : Int) % 10)] 5)) := by
  have h := run_convert_bytes_back (P := Tryd.prog) (w.alloc (.cells #[.int .u8 (48 + (u : Int) % 10)] 5)) 78 9 5 ⟨w.heap.size, 0, none⟩ 1 [c] Tryd.underlying78 Tryd.underlying5 Tryd.underlying9 (fun j hj => by
    have : j = 0 := by simpa using hj
    subst this
    show (w.alloc (.cells #[.int .u8 (48 + (u : Int) % 10)] 5)).cell? (Addr.add ⟨w.heap.size, 0, none⟩ 0) = some (.int .u8 (c.toNat : Int))
    rw [hc]
    exact World.cell?_alloc_new _ _ _ 0)
  exact h

theorem dig_byte (u : Nat) : ((UInt8.ofNat (48 + u % 10)).toNat : Int) = 48 + (u : Int) % 10 := by
  have := (dig_ofNat (r := u % 10) (by omega)).2
  omega

set_option maxRecDepth 100000 in
set_option maxHeartbeats 1000000 in
theorem rdigits_ind : ∀ (k : Nat) (u : Nat) (w : World), u ≤ k → u ≤ 4000000000000000000 →
    Calls Tryd.prog 60 #[.int .i64 u] w fun e w' => e = .returned (.string ⟨(Lib.decDigits u).toArray⟩) ∧ Below w.heap.size w w' := by
  intro k
  induction k with
  | zero =>
    intro u w hk hu
    have h : u < 10 := by omega
    have hcv := one_byte w u _ (dig_byte u)
    have HE : Hid (Lib.decDigits u = [UInt8.ofNat (48 + u % 10)]) := by
      show Lib.decDigits u = _
      rw [Lib.decDigits, dif_pos h, Nat.mod_eq_of_lt h]
    generalize UInt8.ofNat (48 + u % 10) = c at *
    go_enter Tryd.func60, Tryd.ntmps60
    go_wp2
    go_ret
    exact ⟨by rw [HE.out]; rfl, (Below.refl _ _).alloc (Nat.le_refl _) _⟩
  | succ k ih =>
    intro u w hk hu
    have IH := hide ih
    clear ih
    have hcv := one_byte w u _ (dig_byte u)
    by_cases h : u < 10
    · have HE : Hid (Lib.decDigits u = [UInt8.ofNat (48 + u % 10)]) := by
        show Lib.decDigits u = _
        rw [Lib.decDigits, dif_pos h, Nat.mod_eq_of_lt h]
      generalize UInt8.ofNat (48 + u % 10) = c at *
      go_enter Tryd.func60, Tryd.ntmps60
      go_wp2
      go_ret
      exact ⟨by rw [HE.out]; rfl, (Below.refl _ _).alloc (Nat.le_refl _) _⟩
    · have HE : Hid (Lib.decDigits u = Lib.decDigits (u / 10) ++ [UInt8.ofNat (48 + u % 10)]) := by
        show Lib.decDigits u = _
        rw [Lib.decDigits, dif_neg h]
      have HI : Hid (∀ W : World, Calls Tryd.prog 60 #[.int .i64 ((u : Int) / 10)] W fun e w' => e = .returned (.string ⟨(Lib.decDigits (u / 10)).toArray⟩) ∧ Below W.heap.size W w') := fun W => by
        have := IH.out (u / 10) W (by omega) (by omega)
        rw [show ((u / 10 : Nat) : Int) = (u : Int) / 10 from by omega] at this
        exact this
      have hl := dec_len (u := u / 10) (by omega)
      clear IH
      generalize UInt8.ofNat (48 + u % 10) = c at *
      generalize Lib.decDigits (u / 10) = D at *
      go_enter Tryd.func60, Tryd.ntmps60
      go_wp2_with (go_at_call 60; refine (HI.out _).mono ?_; rintro e w1 ⟨rfl, b1⟩)
      go_ret
      refine ⟨by rw [HE.out, ← ba_app]; rfl, ?_⟩
      exact ((Below.refl _ _).alloc (Nat.le_refl _) _).trans (b1.mono (by simp))
theorem rdigits_any (u : Int) (w : World) (h0 : 0 ≤ u) (h1 : u ≤ 4000000000000000000) :
    Calls Tryd.prog 60 #[.int .i64 u] w fun e w' => e = .returned (.string ⟨(Lib.decDigits u.toNat).toArray⟩) ∧ Below w.heap.size w w' := by
  obtain ⟨n, rfl⟩ := Int.eq_ofNat_of_zero_le h0
  rw [Int.toNat_natCast]
  exact rdigits_ind n n w (Nat.le_refl _) (by omega)
end Go.Proofs.YtaokibkeoomfjaaDoor
