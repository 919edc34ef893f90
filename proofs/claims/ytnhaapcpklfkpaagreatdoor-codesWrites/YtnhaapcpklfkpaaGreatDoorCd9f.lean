/-
  The contract of codes' ofNumber, where a number is written.
-/
import Derived.Test.YtnhaapcpklfkpaaGreatDoorCd9e
namespace Go.Proofs.YtnhaapcpklfkpaaGreatDoor
open Go.RowKit
set_option linter.unusedSimpArgs false

set_option maxHeartbeats 4000000 in
theorem ofNumber_far (B0 g cap : Nat) (G : List (Value × List Pc)) (n : Int) (u : Value) (ps : List Pc) (E : Int) (w : World) (hs : SsAt w g cap G) (hB : B0 ≤ g) (hle : 1 ≤ (leftG G).length) (hx : (leftG G)[chosenR (leftG G).length n]? = some (u, ps)) (hk : kindS ps ≠ 3) (hf : fitsB n = true)
    (hz : sizedR ps (max n (-n)) = (0, E)) (hE : E ≠ 0) :
    Calls Tryz.prog 10 #[.slice (some ⟨g, 0, none⟩) G.length cap, .int .i64 n] w fun e w' => e = .returned (.tuple #[.string ⟨#[]⟩, .int .i64 E]) ∧ Below B0 w w' := by
  have HD := hide hs.del
  have hgl : g < w.heap.size := hs.secs.1
  have HG : Hid (∀ W, w.grownBy W (some g) → Below B0 w W) := fun W hg => (Below.refl B0 w).grown hg (by omega) (fun k e => by cases e; exact hB)
  have HL : Hid (∀ W, w.grownBy W (some g) → PcsAt W u ps) := fun W hg => ((left_at hs hg).2 _ (List.mem_of_getElem? hx)).1
  have hl3 : (leftG G).length ≤ 3 := Nat.le_trans (List.length_filter_le _ _) hs.three
  have hlt := chosen_lt (n := n) hle
  obtain ⟨q1, q2, q3, rfl⟩ : ∃ q1 q2 q3, u = .slice q1 q2 q3 := by
    obtain ⟨p, c, e, _⟩ := HL.out w (grown_refl w g)
    exact ⟨_, _, _, e⟩
  obtain ⟨n1, n2⟩ := fitsB_true hf
  have hsa : Sane ps := ((left_at hs (grown_refl w g)).2 _ (List.mem_of_getElem? hx)).2
  have hE0 : (E != 0) = true := by rw [bne_iff_ne]; exact hE
  have HZ : Hid (∀ W : World, Calls Tryz.prog 35 #[.pointer (some ⟨W.heap.size, 0, none⟩), .int .i64 (max n (-n))] (W.alloc (.cells (secC (.slice q1 q2 q3) ps).toArray 66)) fun e w' => e = .returned (.tuple #[.int .i64 0, .int .i64 E]) ∧ Below (W.alloc (.cells (secC (.slice q1 q2 q3) ps).toArray 66)).heap.size (W.alloc (.cells (secC (.slice q1 q2 q3) ps).toArray 66)) w') := fun W => by
    have := sized_any W.heap.size 0 (.slice q1 q2 q3) ps (max n (-n)) _ (secAt_new W (.slice q1 q2 q3) ps) (Nat.le_trans (cnt_le ps 2) (by have := hsa.len; omega)) (by have := hsa.plc; omega) (by have := hsa.plc; omega)
    rw [hz] at this
    exact this
  have HCh : Hid (∀ W : World, Calls Tryz.prog 32 #[.int .i64 (leftG G).length, .int .i64 n] W fun e w' => e = .returned (.int .i64 (chosenR (leftG G).length n)) ∧ w' = W) := fun W => chosen_any _ n W
  have HX := hide hx
  have hl0 : (((leftG G).length : Int) == 0) = false := by rw [beq_eq_false_iff_ne]; omega
  have hcapi : (cap : Int) ≤ 9223372036854775807 := by have := hs.mx; unfold maxLen at this; omega
  have hlc : ((leftG G).length : Int) ≤ (cap : Int) := by have h1 : (leftG G).length ≤ G.length := List.length_filter_le _ _; have := hs.le; omega
  have hlti : ((chosenR (leftG G).length n : Nat) : Int) < ((leftG G).length : Int) := by omega
  have hl3i : ((leftG G).length : Int) ≤ 3 := by omega
  generalize hL : leftG G = L at *
  generalize hc : chosenR L.length n = c at *
  clear hs hx hL hc hz hE hsa hf
  have HK : Hid (∀ W : World, Calls Tryz.prog 33 #[.pointer (some ⟨W.heap.size, 0, none⟩)] (W.alloc (.cells (secC (.slice q1 q2 q3) ps).toArray 66)) fun e w' => e = .returned (.int .i64 (kindS ps)) ∧ w' = W.alloc (.cells (secC (.slice q1 q2 q3) ps).toArray 66)) := fun W => by
    have := kind_any W.heap.size 0 (.slice q1 q2 q3) ps _ (secAt_new W (.slice q1 q2 q3) ps)
    exact this
  simp only [secC, cn] at HK HZ
  have hk3 : ((kindS ps : Int) == 3) = false := by rw [beq_eq_false_iff_ne]; omega
  generalize kindS ps = K at *
  clear hk
  go_enter Tryz.func10, Tryz.ntmps10
  go_wp2_with (first | (go_at_call 31; refine HD.out.mono ?_; rintro e w1 ⟨rfl, hq1, hg1⟩; have HB1 := hide (HG.out w1 hg1); have HP1 := hide (HL.out w1 hg1); obtain ⟨c0, c1, c2, c3, c4, c5, c6, c7, c8, c9, c10, c11⟩ := (hq1.2 _ _ HX.out).all; simp only at c0 c1 c2 c3 c4 c5 c6 c7 c8 c9 c10 c11; clear hg1 hq1) | (go_at_call 32; refine (HCh.out _).mono ?_; rintro e wz ⟨rfl, hz⟩; subst wz) | (go_at_call 33; refine (HK.out _).mono ?_; rintro e wz ⟨rfl, hz⟩; subst wz) | (go_at_call 35; refine (HZ.out _).mono ?_; rintro e w2 ⟨rfl, hb2⟩))
  go_ret2
  exact ⟨rfl, (HB1.out.alloc (by have := HB1.out.size; omega) _).trans (hb2.mono (by have := HB1.out.size; simp; omega))⟩
end Go.Proofs.YtnhaapcpklfkpaaGreatDoor
