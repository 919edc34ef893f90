/-
  The contracts of codes' ofDay.
-/
import Derived.Test.YtnhaapcpklfkpaaGreatDoorCd9c
import Derived.Test.YtnhaapcpklfkpaaGreatDoorVDat2
namespace Go.Proofs.YtnhaapcpklfkpaaGreatDoor
open Go.RowKit
set_option linter.unusedSimpArgs false

def dayOf (n : Int) : Int := Int.tdiv (floorR n).1 1000000
theorem floor_bd (n : Int) : -1000000000000000000 ≤ (floorR n).1 ∧ (floorR n).1 ≤ 1000000000000000000 := by
  unfold floorR told
  split
  · split
    · exact fitsB_true (by assumption)
    · decide
  · decide
theorem lenM_le (y : Int) (k : Nat) : Dat.lenM y k ≤ 31 := by
  unfold Dat.lenM
  repeat' split
  all_goals first | decide | omega
set_option maxHeartbeats 2000000 in
theorem ofDay_yes (u : Value) (ps : List Pc) (n : Int) (y k d : Nat) (w : World) (hu : PcsAt w u ps) (hs : Sane ps) (ht : TabOk w) (hl : Dat.LenOk w) (hd : Dat.DayIs y k d (dayOf n)) :
    Calls Tryz.prog 34 #[secV u ps, .int .i64 n] w fun e w' => e = .returned (.tuple #[.string ⟨(secT zeroPlc 0 y (k + 1) d [] ps).toArray⟩, .int .i64 0]) ∧ Below w.heap.size w w' := by
  have hy := hd.y2
  have hk := hd.k1
  have hd2 : d ≤ 31 := by have h1 := hd.d2; have h2 := lenM_le y (k + 1); omega
  have hyn : y ≤ 9999 := by omega
  have HP : Hid (∀ W : World, Below w.heap.size w W → Calls Tryz.prog 60 #[.int .i64 (Int.tdiv (floorR n).1 1000000)] W fun e w' => e = .returned (.tuple #[.int .i64 y, .int .i64 ((k : Int) + 1), .int .i64 d, .int .i64 0]) ∧ Below W.heap.size W w') := fun W hW => Dat.parts_yes y k d (dayOf n) W hd (Dat.len_below hl hW)
  have HF : Hid (∀ W : World, Calls Tryz.prog 59 #[.int .i64 n] W fun e w' => e = .returned (.tuple #[.int .i64 (floorR n).1, .int .i64 (floorR n).2]) ∧ w' = W) := fun W => floor_any n W
  obtain ⟨f1, f2⟩ := floor_bd n
  have HSA := hide (secAt_new w u ps)
  have HB0 : Hid (Below w.heap.size w (w.alloc (.cells (secC u ps).toArray 66))) := hide ((Below.refl _ _).alloc (Nat.le_refl _) _)
  have HC : Hid (∀ W : World, Below (w.alloc (.cells (secC u ps).toArray 66)).heap.size (w.alloc (.cells (secC u ps).toArray 66)) W → Calls Tryz.prog 30 #[.pointer (some ⟨w.heap.size, 0, none⟩), .agg (wrC zeroPlc 0 y (k + 1) d []).toArray] W fun e w' => e = .returned (.string ⟨(secT zeroPlc 0 y (k + 1) d [] ps).toArray⟩) ∧ Below W.heap.size W w') := fun W hW =>
    write_any w.heap.size 0 u ps zeroPlc 0 y (k + 1) d [] W (HSA.out.below hW) ((hu.below HB0.out).below hW) (tab_below ht (up HB0.out hW)) (by omega) (by decide) (by decide) (by omega) (by omega) (by omega) (fun q hq => by have := hs.texts q hq; omega) (piece_len hs ⟨by decide, by decide⟩ (by omega) (by omega) (by omega) (by omega) (by simp)) (by have := hs.len; omega)
  have hkk : (((k + 1 : Nat)) : Int) = (k : Int) + 1 := by omega
  simp only [wrC, zeroPlc, secC, cn, hkk] at HC HB0 HSA
  simp only [secV]
  generalize (floorR n).1 = F at *
  generalize (floorR n).2 = F2 at *
  clear hd hu hl ht hs hkk
  go_enter Tryz.func34, Tryz.ntmps34
  go_wp2_with (first | (go_at_call 59; refine (HF.out _).mono ?_; rintro e wz ⟨rfl, hz⟩; subst wz) | (go_at_call 60; refine (HP.out _ HB0.out).mono ?_; rintro e w1 ⟨rfl, hb1⟩; have HB1 := hide hb1; clear hb1) | (go_at_call 30; refine (HC.out _ HB1.out).mono ?_; rintro e w3 ⟨rfl, hb3⟩))
  go_ret2
  exact ⟨rfl, up (up HB0.out HB1.out) hb3⟩
set_option maxHeartbeats 2000000 in
theorem ofDay_no (u : Value) (ps : List Pc) (n : Int) (w : World) (hd : ¬ (1 ≤ dayOf n ∧ dayOf n ≤ 2958464)) :
    Calls Tryz.prog 34 #[secV u ps, .int .i64 n] w fun e w' => e = .returned (.tuple #[.string ⟨#[]⟩, .int .i64 2]) ∧ Below w.heap.size w w' := by
  have HP : Hid (∀ W : World, Calls Tryz.prog 60 #[.int .i64 (Int.tdiv (floorR n).1 1000000)] W fun e w' => e = .returned (.tuple #[.int .i64 0, .int .i64 0, .int .i64 0, .int .i64 2]) ∧ Below W.heap.size W w') := fun W => Dat.parts_no (dayOf n) W hd
  have HF : Hid (∀ W : World, Calls Tryz.prog 59 #[.int .i64 n] W fun e w' => e = .returned (.tuple #[.int .i64 (floorR n).1, .int .i64 (floorR n).2]) ∧ w' = W) := fun W => floor_any n W
  obtain ⟨f1, f2⟩ := floor_bd n
  have HB0 : Hid (Below w.heap.size w (w.alloc (.cells (secC u ps).toArray 66))) := hide ((Below.refl _ _).alloc (Nat.le_refl _) _)
  simp only [secC, cn] at HB0
  simp only [secV]
  generalize (floorR n).1 = F at *
  generalize (floorR n).2 = F2 at *
  clear hd
  go_enter Tryz.func34, Tryz.ntmps34
  go_wp2_with (first | (go_at_call 59; refine (HF.out _).mono ?_; rintro e wz ⟨rfl, hz⟩; subst wz) | (go_at_call 60; refine (HP.out _).mono ?_; rintro e w1 ⟨rfl, hb1⟩; have HB1 := hide hb1; clear hb1))
  go_ret2
  exact ⟨rfl, up HB0.out HB1.out⟩
end Go.Proofs.YtnhaapcpklfkpaaGreatDoor
