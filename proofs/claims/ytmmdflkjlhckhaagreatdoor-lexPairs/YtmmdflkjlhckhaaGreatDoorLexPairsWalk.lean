/-
  LexPairs: the same of two texts side by side, with any byte between.
-/
import Derived.Test.YtmmdflkjlhckhaaGreatDoorLexScansWalk
import Derived.Laws.BytesArg
namespace Go.Proofs.YtmmdflkjlhckhaaGreatDoor
open Go.RowKit Go.Shelf

set_option maxHeartbeats 2000000 in
set_option maxRecDepth 100000 in
theorem lexPairs_walk (s : ByteArray) (a : Int) (t : ByteArray) (w : World) (he : EnvL w) (hs : s.size ≤ reachBytes) (_ : (Lit.int .u8 a).wf = true) (ht : t.size ≤ reachBytes) :
    Calls Tryz.prog 4 #[.string s, .int .u8 a, .string t] w fun e w' => e = .returned (.bool true) ∧ Below w.heap.size w w' := by
  have HA : Hid (∀ (u : ByteArray) (W : World), EnvL W → u.size ≤ maxLen → Calls Tryz.prog 3 #[.string u] W fun e w' => e = .returned (.bool true) ∧ Below W.heap.size W w') := fun u W hW hu => lexScans_walk u W hW hu
  unfold reachBytes at hs ht
  obtain ⟨C, hC, hz⟩ : ∃ C : ByteArray, (∀ W : World, (convert 31 9 (.slice (some ⟨W.heap.size, 0, none⟩) 1 1)).run Tryz.prog (W.alloc (.cells #[.int .u8 a] 5)) = .ok (.string C) (W.alloc (.cells #[.int .u8 a] 5))) ∧ C.size = 1 := by
    refine ⟨strOfNums [a], fun W => run_convert_bytes_arg (W.alloc (.cells #[.int .u8 a] 5)) 31 5 Tryz.underlying31 Tryz.underlying5 W.heap.size 0 1 1 [a] rfl (fun i hi => ?_) 9 Tryz.underlying9, by simp [strOfNums, ByteArray.size]⟩
    obtain rfl : i = 0 := by omega
    exact (World.cell?_alloc_mark W _ _ _ _).trans rfl
  have hc := hC w
  have g1 : ¬ 9223372036854775807 < s.size + C.size := by omega
  have g2 : ¬ 9223372036854775807 < (s ++ C).size + t.size := by rw [ByteArray.size_append]; omega
  have g3 : ¬ 9223372036854775807 < s.size + C.size + t.size := by omega
  have HU : Hid ((s ++ C ++ t).size ≤ maxLen) := by
    show _ ≤ _
    rw [ByteArray.size_append, ByteArray.size_append]; unfold maxLen; omega
  have HE := hide he
  clear he hC hs ht hz
  go_enter Tryz.func4, Tryz.ntmps4
  go_wp2_with fail
  refine (HA.out _ _ (HE.out.below ?_) HU.out).mono ?_
  · repeat' (first | with_reducible exact Below.refl _ _ | with_reducible refine Below.setCell ?_ ?_ _ | with_reducible refine Below.alloc ?_ ?_ _ | with_reducible refine below_drewN ?_ _ | with_reducible refine Below.drew ?_ | with_reducible refine Below.trans ?_ (Below.mono (by assumption) ?_) | with_reducible exact Nat.le_refl _ | with_reducible refine Nat.le_trans ?_ (Below.size (by assumption)) | with_reducible refine Nat.le_trans ?_ (size_alloc _ _) | with_reducible refine Nat.le_trans ?_ (size_set _ _ _) | with_reducible refine Nat.le_trans ?_ (size_drewN _ _) | with_reducible refine Nat.le_trans ?_ (size_drew _) | (simp; done) | (simp; omega) | omega)
  rintro e w1 ⟨rfl, hb1⟩
  go_wp2
  go_ret
  refine ⟨rfl, ?_⟩
  repeat' (first | with_reducible exact Below.refl _ _ | with_reducible refine Below.setCell ?_ ?_ _ | with_reducible refine Below.alloc ?_ ?_ _ | with_reducible refine below_drewN ?_ _ | with_reducible refine Below.drew ?_ | with_reducible refine Below.trans ?_ (Below.mono (by assumption) ?_) | with_reducible exact Nat.le_refl _ | with_reducible refine Nat.le_trans ?_ (Below.size (by assumption)) | with_reducible refine Nat.le_trans ?_ (size_alloc _ _) | with_reducible refine Nat.le_trans ?_ (size_set _ _ _) | with_reducible refine Nat.le_trans ?_ (size_drewN _ _) | with_reducible refine Nat.le_trans ?_ (size_drew _) | (simp; done) | (simp; omega) | omega)
end Go.Proofs.YtmmdflkjlhckhaaGreatDoor
