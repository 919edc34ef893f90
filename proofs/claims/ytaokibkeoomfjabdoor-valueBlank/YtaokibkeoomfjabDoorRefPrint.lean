/-
  The contracts of the answer's Digits and Print.
-/
import Derived.Test.YtaokibkeoomfjabDoorRefRound
import Derived.Test.YtaokibkeoomfjabDoorTextMath
namespace Go.Proofs.YtaokibkeoomfjabDoor
open Go.RowKit

/-- One byte, laid in a new block, as a text. -/
theorem one_byte (w : World) (u : Nat) (c : UInt8) (hc : (c.toNat : Int) = 48 + (u : Int) % 10) : (convert 38 9 (.slice (some ⟨w.heap.size, 0, none⟩) 1 1)).run Tryd.prog (w.alloc (.cells #[.int .u8 (48 + (u : Int) % 10)] 5)) = .ok (.string ⟨([c] : List UInt8).toArray⟩) (w.alloc (.cells #[.int .u8 (48 + (u : Int) % 10)] 5)) := by
  have h := run_convert_bytes_back (P := Tryd.prog) (w.alloc (.cells #[.int .u8 (48 + (u : Int) % 10)] 5)) 38 9 5 ⟨w.heap.size, 0, none⟩ 1 [c] Tryd.underlying38 Tryd.underlying5 Tryd.underlying9 (fun j hj => by
    have : j = 0 := by simpa using hj
    subst this
    show (w.alloc (.cells #[.int .u8 (48 + (u : Int) % 10)] 5)).cell? (Addr.add ⟨w.heap.size, 0, none⟩ 0) = some (.int .u8 (c.toNat : Int))
    rw [hc]
    exact World.cell?_alloc_new _ _ _ 0)
  exact h

theorem dig_byte (u : Nat) : ((UInt8.ofNat (48 + u % 10)).toNat : Int) = 48 + (u : Int) % 10 := by
  have := (dig_ofNat (r := u % 10) (by omega)).2
  omega

end Go.Proofs.YtaokibkeoomfjabDoor
