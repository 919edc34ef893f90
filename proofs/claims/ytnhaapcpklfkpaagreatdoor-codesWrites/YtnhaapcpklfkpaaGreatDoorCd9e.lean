/-
  The contracts of codes' chosen and ofNumber.
-/
import Derived.Test.YtnhaapcpklfkpaaGreatDoorCd9d
namespace Go.Proofs.YtnhaapcpklfkpaaGreatDoor
open Go.RowKit
set_option linter.unusedSimpArgs false

def chosenR (count : Nat) (n : Int) : Nat := if count = 1 ∨ 0 < n then 0 else if n < 0 then 1 else if count = 3 then 2 else 0
theorem chosen_lt {count : Nat} {n : Int} (h : 1 ≤ count) : chosenR count n < count := by
  unfold chosenR
  split
  · omega
  · split
    · omega
    · split <;> omega
set_option maxHeartbeats 1000000 in
theorem chosen_any (count : Nat) (n : Int) (w : World) :
    Calls Tryz.prog 32 #[.int .i64 count, .int .i64 n] w fun e w' => e = .returned (.int .i64 (chosenR count n)) ∧ w' = w := by
  unfold chosenR
  by_cases h1 : count = 1
  · have e1 : ((count : Int) == 1) = true := by rw [beq_iff_eq]; omega
    rw [if_pos (.inl h1)]
    clear h1
    go_enter Tryz.func32, Tryz.ntmps32
    go_wp2
    go_ret
    exact ⟨rfl, rfl⟩
  · have e1 : ((count : Int) == 1) = false := by rw [beq_eq_false_iff_ne]; omega
    by_cases h2 : 0 < n
    · rw [if_pos (.inr h2)]
      clear h1
      go_enter Tryz.func32, Tryz.ntmps32
      go_wp2
      go_ret
      exact ⟨rfl, rfl⟩
    · rw [if_neg (by omega)]
      by_cases h3 : n < 0
      · rw [if_pos h3]
        clear h1
        go_enter Tryz.func32, Tryz.ntmps32
        go_wp2
        go_ret
        exact ⟨rfl, rfl⟩
      · rw [if_neg h3]
        by_cases h4 : count = 3
        · have e4 : ((count : Int) == 3) = true := by rw [beq_iff_eq]; omega
          rw [if_pos h4]
          clear h1 h4
          go_enter Tryz.func32, Tryz.ntmps32
          go_wp2
          go_ret
          exact ⟨rfl, rfl⟩
        · have e4 : ((count : Int) == 3) = false := by rw [beq_eq_false_iff_ne]; omega
          rw [if_neg h4]
          clear h1 h4
          go_enter Tryz.func32, Tryz.ntmps32
          go_wp2
          go_ret
          exact ⟨rfl, rfl⟩
theorem pcs_grown {w w' : World} {g : Nat} {u : Value} {ps : List Pc} (h : PcsAt w u ps) (hg : w.grownBy w' (some g)) (hu : u.ownBlock ≠ some g) : PcsAt w' u ps := by
  obtain ⟨p, cap, e, h⟩ := h
  refine ⟨p, cap, e, h.imp id fun ⟨gp, ep, hl, hc⟩ => ⟨gp, ep, Nat.lt_of_lt_of_le hl hg.size, fun i q hq => ?_⟩⟩
  have hb := hg.block gp hl (fun e2 => hu (by rw [e, ep]; exact e2))
  obtain ⟨h1, h2⟩ := hc i q hq
  exact ⟨(World.cell?_of_block (a := ⟨gp, i * 2, none⟩) hb).trans h1, (World.cell?_of_block (a := ⟨gp, i * 2 + 1, none⟩) hb).trans h2⟩
/-- Behind the deletion of the sections for texts. -/
theorem left_at {w w1 : World} {g cap : Nat} {G : List (Value × List Pc)} (h : SsAt w g cap G) (hg : w.grownBy w1 (some g)) : (leftG G).length ≤ 3 ∧ ∀ x ∈ leftG G, PcsAt w1 x.1 x.2 ∧ Sane x.2 := by
  refine ⟨Nat.le_trans (List.length_filter_le _ _) h.three, fun x hx => ?_⟩
  obtain ⟨i, hi⟩ := List.mem_iff_getElem?.1 (List.mem_filter.1 hx).1
  exact ⟨pcs_grown (h.pcs i x hi) hg (h.apart i x hi), h.sane i x hi⟩
theorem SsAt.del {w : World} {g cap : Nat} {G : List (Value × List Pc)} (h : SsAt w g cap G) :
    Calls Tryz.prog 31 #[.slice (some ⟨g, 0, none⟩) G.length cap, .func (.func 29) #[] #[]] w fun e w' => e = .returned (.slice (some ⟨g, 0, none⟩) (leftG G).length cap) ∧ SecsAt w' g (leftG G) ∧ w.grownBy w' (some g) :=
  delete_any g cap G w h.secs h.free (by have := h.three; omega) h.le h.mx (fun x hx => by
    obtain ⟨i, hi⟩ := List.mem_iff_getElem?.1 hx
    obtain ⟨p, c, e, _⟩ := h.pcs i x hi
    exact ⟨_, _, _, e⟩)
set_option maxHeartbeats 4000000 in
theorem ofNumber_none (B0 g cap : Nat) (G : List (Value × List Pc)) (n : Int) (w : World) (hs : SsAt w g cap G) (hB : B0 ≤ g) (ht : ∀ W, Below B0 w W → TabOk W) (hle : leftG G = []) :
    Calls Tryz.prog 10 #[.slice (some ⟨g, 0, none⟩) G.length cap, .int .i64 n] w fun e w' => e = .returned (.tuple #[.string ⟨(wordsV 1 n ⟨#[]⟩ false 0).1.toArray⟩, .int .i64 (wordsV 1 n ⟨#[]⟩ false 0).2]) ∧ Below B0 w w' := by
  have HD := hide hs.del
  have hgl : g < w.heap.size := hs.secs.1
  have HW : Hid (∀ W : World, Below B0 w W → Calls Tryz.prog 27 #[.agg #[.int .i64 1, .int .i64 n, .string ⟨#[]⟩, .bool false, .int .i64 0]] W fun e w' => e = .returned (.tuple #[.string ⟨(wordsV 1 n ⟨#[]⟩ false 0).1.toArray⟩, .int .i64 (wordsV 1 n ⟨#[]⟩ false 0).2]) ∧ Below W.heap.size W w') := fun W hW => wordsV_any 1 n ⟨#[]⟩ false 0 W (ht W hW) (by decide)
  have HG : Hid (∀ W, w.grownBy W (some g) → Below B0 w W) := fun W hg => (Below.refl B0 w).grown hg (by omega) (fun k e => by cases e; exact hB)
  rw [hle] at HD
  generalize (wordsV 1 n ⟨#[]⟩ false 0).1 = X at *
  generalize (wordsV 1 n ⟨#[]⟩ false 0).2 = E at *
  clear hs ht hle
  go_enter Tryz.func10, Tryz.ntmps10
  go_wp2_with (first | (go_at_call 31; refine HD.out.mono ?_; rintro e w1 ⟨rfl, hq1, hg1⟩; have HB1 := hide (HG.out w1 hg1); clear hg1) | (go_at_call 27; refine (HW.out _ HB1.out).mono ?_; rintro e w2 ⟨rfl, hb2⟩))
  go_ret2
  exact ⟨rfl, HB1.out.trans (hb2.mono (by have := HB1.out.size; omega))⟩
set_option maxHeartbeats 4000000 in
theorem ofNumber_day (B0 g cap : Nat) (G : List (Value × List Pc)) (n : Int) (u : Value) (ps : List Pc) (S : List UInt8) (E : Int) (w : World) (hs : SsAt w g cap G) (hB : B0 ≤ g) (hle : 1 ≤ (leftG G).length) (hx : (leftG G)[chosenR (leftG G).length n]? = some (u, ps)) (hk : kindS ps = 3)
    (hd : ∀ W, Below B0 w W → PcsAt W u ps → Calls Tryz.prog 34 #[secV u ps, .int .i64 n] W fun e w' => e = .returned (.tuple #[.string ⟨S.toArray⟩, .int .i64 E]) ∧ Below W.heap.size W w') :
    Calls Tryz.prog 10 #[.slice (some ⟨g, 0, none⟩) G.length cap, .int .i64 n] w fun e w' => e = .returned (.tuple #[.string ⟨S.toArray⟩, .int .i64 E]) ∧ Below B0 w w' := by
  have HD := hide hs.del
  have hgl : g < w.heap.size := hs.secs.1
  have HG : Hid (∀ W, w.grownBy W (some g) → Below B0 w W) := fun W hg => (Below.refl B0 w).grown hg (by omega) (fun k e => by cases e; exact hB)
  have HL : Hid (∀ W, w.grownBy W (some g) → PcsAt W u ps) := fun W hg => ((left_at hs hg).2 _ (List.mem_of_getElem? hx)).1
  have hl3 : (leftG G).length ≤ 3 := Nat.le_trans (List.length_filter_le _ _) hs.three
  have hlt := chosen_lt (n := n) hle
  obtain ⟨q1, q2, q3, rfl⟩ : ∃ q1 q2 q3, u = .slice q1 q2 q3 := by
    obtain ⟨p, c, e, _⟩ := HL.out w (grown_refl w g)
    exact ⟨_, _, _, e⟩
  have HDay := hide hd
  have HCh : Hid (∀ W : World, Calls Tryz.prog 32 #[.int .i64 (leftG G).length, .int .i64 n] W fun e w' => e = .returned (.int .i64 (chosenR (leftG G).length n)) ∧ w' = W) := fun W => chosen_any _ n W
  have HX := hide hx
  have hl0 : (((leftG G).length : Int) == 0) = false := by rw [beq_eq_false_iff_ne]; omega
  have hcapi : (cap : Int) ≤ 9223372036854775807 := by have := hs.mx; unfold maxLen at this; omega
  have hlc : ((leftG G).length : Int) ≤ (cap : Int) := by have h1 : (leftG G).length ≤ G.length := List.length_filter_le _ _; have := hs.le; omega
  have hlti : ((chosenR (leftG G).length n : Nat) : Int) < ((leftG G).length : Int) := by omega
  have hl3i : ((leftG G).length : Int) ≤ 3 := by omega
  generalize hL : leftG G = L at *
  generalize hc : chosenR L.length n = c at *
  clear hs hd hx hL hc
  have HK : Hid (∀ W : World, Calls Tryz.prog 33 #[.pointer (some ⟨W.heap.size, 0, none⟩)] (W.alloc (.cells (secC (.slice q1 q2 q3) ps).toArray 66)) fun e w' => e = .returned (.int .i64 3) ∧ w' = W.alloc (.cells (secC (.slice q1 q2 q3) ps).toArray 66)) := fun W => by
    have := kind_any W.heap.size 0 (.slice q1 q2 q3) ps _ (secAt_new W (.slice q1 q2 q3) ps)
    rw [hk] at this
    exact this
  simp only [secC, cn] at HK
  simp only [secV] at HDay
  clear hk
  go_enter Tryz.func10, Tryz.ntmps10
  go_wp2_with (first | (go_at_call 31; refine HD.out.mono ?_; rintro e w1 ⟨rfl, hq1, hg1⟩; have HB1 := hide (HG.out w1 hg1); have HP1 := hide (HL.out w1 hg1); obtain ⟨c0, c1, c2, c3, c4, c5, c6, c7, c8, c9, c10, c11⟩ := (hq1.2 _ _ HX.out).all; simp only at c0 c1 c2 c3 c4 c5 c6 c7 c8 c9 c10 c11; clear hg1 hq1) | (go_at_call 32; refine (HCh.out _).mono ?_; rintro e wz ⟨rfl, hz⟩; subst wz) | (go_at_call 33; refine (HK.out _).mono ?_; rintro e wz ⟨rfl, hz⟩; subst wz) | (go_at_call 34; refine (HDay.out _ (HB1.out.alloc (by have := HB1.out.size; omega) _) (HP1.out.below ((Below.refl _ _).alloc (Nat.le_refl _) _))).mono ?_; rintro e w2 ⟨rfl, hb2⟩))
  go_ret2
  exact ⟨rfl, (HB1.out.alloc (by have := HB1.out.size; omega) _).trans (hb2.mono (by have := HB1.out.size; simp; omega))⟩
end Go.Proofs.YtnhaapcpklfkpaaGreatDoor
