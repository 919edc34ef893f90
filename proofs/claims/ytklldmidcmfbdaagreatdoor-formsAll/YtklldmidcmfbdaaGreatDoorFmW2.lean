/-
  The answer's want.
-/
import Derived.Test.YtklldmidcmfbdaaGreatDoorFmC
namespace Go.Proofs.YtklldmidcmfbdaaGreatDoor
open Go.RowKit Go.Shelf

theorem rwant_any (c : UInt8) (w : World) : Calls Tryz.prog 16 #[.int .u8 (c.toNat : Int)] w fun e w' => e = .returned (.int .i64 (wantN c)) ∧ w' = w := by
  unfold wantN
  by_cases h1 : c = 86
  · subst h1
    rw [if_pos rfl]
    go_enter Tryz.func16, Tryz.ntmps16
    go_wp2
    go_ret
    exact ⟨rfl, rfl⟩
  · rw [if_neg h1]
    have e1 : ((c.toNat : Int) == 86) = false := by
      rw [beq_eq_false_iff_ne]
      intro e
      exact h1 (UInt8.toNat_inj.1 (by simpa using (by omega : c.toNat = 86)))
    by_cases h2 : c = 82
    · subst h2
      rw [if_pos rfl]
      go_enter Tryz.func16, Tryz.ntmps16
      go_wp2
      go_ret
      exact ⟨rfl, rfl⟩
    · rw [if_neg h2]
      have e2 : ((c.toNat : Int) == 82) = false := by
        rw [beq_eq_false_iff_ne]
        intro e
        exact h2 (UInt8.toNat_inj.1 (by simpa using (by omega : c.toNat = 82)))
      go_enter Tryz.func16, Tryz.ntmps16
      go_wp2
      go_ret
      exact ⟨rfl, rfl⟩
end Go.Proofs.YtklldmidcmfbdaaGreatDoor
