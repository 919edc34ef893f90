/-
  LexScans: Scan tells just what the answer written from the document tells.
-/
import Derived.Test.YtmmdflkjlhckhaaGreatDoorLxR6
import Derived.Test.YtmmdflkjlhckhaaGreatDoorLxBare
import Derived.Test.YtmmdflkjlhckhaaGreatDoorLxLives
namespace Go.Proofs.YtmmdflkjlhckhaaGreatDoor
open Go.RowKit Go.Shelf

set_option maxHeartbeats 2000000 in
set_option maxRecDepth 100000 in
theorem lexScans_walk (s : ByteArray) (w : World) (he : EnvL w) (hs : s.size ≤ maxLen) :
    Calls Tryz.prog 3 #[.string s] w fun e w' => e = .returned (.bool true) ∧ Below w.heap.size w w' := by
  have HA : Hid (∀ W : World, EnvL W → Calls Tryz.prog 8 #[.string s] W fun e w' => ∃ v, e = .returned (.tuple #[v, .int .i64 (scanR s.data.toList).2.1, .int .i64 (scanR s.data.toList).2.2]) ∧ RowT W.heap.size w' v (scanR s.data.toList).1 ∧ Below W.heap.size W w') := fun W hW => scan_any s W hW hs
  have HB : Hid (∀ W : World, Calls Tryz.prog 9 #[.string s] W fun e w' => ∃ v, e = .returned (.tuple #[v, .int .i64 (scanR s.data.toList).2.1, .int .i64 (scanR s.data.toList).2.2]) ∧ RowT W.heap.size w' v (scanR s.data.toList).1 ∧ Below W.heap.size W w') := fun W => rscan_any s W hs
  have HV : Hid (∀ W : World, EnvL W → Calls Tryz.prog 11 #[] W fun e w' => e = .returned (.bool true) ∧ Below W.heap.size W w') := fun W hW => lives_any W hW
  have HE := hide he
  generalize (scanR s.data.toList).2.1 = z at *
  generalize (scanR s.data.toList).2.2 = y at *
  generalize (scanR s.data.toList).1 = ts at *
  clear he hs
  go_enter Tryz.func3, Tryz.ntmps3
  go_wp2_with fail
  refine (HA.out _ HE.out).mono ?_
  rintro e w1 ⟨v1, rfl, hr1, hb1⟩
  have R1 := hide hr1
  clear hr1
  go_wp2_with fail
  refine (HB.out _).mono ?_
  rintro e w2 ⟨v2, rfl, hr2, hb2⟩
  have hb3 : Below w.heap.size w w2 := hb1.trans (hb2.mono hb1.size)
  have HS : Hid (Calls Tryz.prog 10 #[v1, v2] w2 fun e w' => e = .returned (.bool true) ∧ Below w2.heap.size w2 w') := rsame_any v1 v2 ts w2 (R1.out.below hb2).rd hr2.rd
  clear hr2 R1 hb1 hb2
  go_wp2_with fail
  refine HS.out.mono ?_
  rintro e w3 ⟨rfl, hb4⟩
  have hb5 : Below w.heap.size w w3 := hb3.trans (hb4.mono hb3.size)
  go_wp2_with (go_at_call 11; refine (HV.out _ (HE.out.below hb5)).mono ?_; rintro e w4 ⟨rfl, hb6⟩)
  go_ret
  exact ⟨rfl, hb5.trans (hb6.mono hb5.size)⟩
end Go.Proofs.YtmmdflkjlhckhaaGreatDoor
