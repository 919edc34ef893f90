/-
  strs' substituted.
-/
import Derived.Test.YthooimaadgabiabDoorSt5
namespace Go.Proofs.YthooimaadgabiabDoor
open Go.RowKit Go.Shelf
attribute [local go_sem] Oper.semAt_some
set_option linter.unusedSimpArgs false

/-- The world behind the boxes of what is captured, the row's and the parts' two. -/
theorem subst_world (s old new : By) (k : Nat) (w : World) :
    ((((((w.alloc (.cells #[.string ⟨old.toArray⟩] 9)).alloc (.cells #[.string ⟨new.toArray⟩] 9)).alloc (.cells #[.int .i64 k] 3)).alloc (.cells #[.slice none 0 0] 58)).alloc (.cells #[.string ⟨s.toArray⟩] 9)).alloc (.cells #[.string ⟨old.toArray⟩] 9)).cell? ⟨w.heap.size + 1 + 1 + 1 + 1 + 1, 0, none⟩ = some (.string ⟨old.toArray⟩) ∧
    ((((((w.alloc (.cells #[.string ⟨old.toArray⟩] 9)).alloc (.cells #[.string ⟨new.toArray⟩] 9)).alloc (.cells #[.int .i64 k] 3)).alloc (.cells #[.slice none 0 0] 58)).alloc (.cells #[.string ⟨s.toArray⟩] 9)).alloc (.cells #[.string ⟨old.toArray⟩] 9)).cell? ⟨w.heap.size + 1 + 1 + 1 + 1, 0, none⟩ = some (.string ⟨s.toArray⟩) ∧
    RowIs (w.heap.size + 6) (w.heap.size + 1 + 1 + 1) ((((((w.alloc (.cells #[.string ⟨old.toArray⟩] 9)).alloc (.cells #[.string ⟨new.toArray⟩] 9)).alloc (.cells #[.int .i64 k] 3)).alloc (.cells #[.slice none 0 0] 58)).alloc (.cells #[.string ⟨s.toArray⟩] 9)).alloc (.cells #[.string ⟨old.toArray⟩] 9)) [] ∧ Below w.heap.size w ((((((w.alloc (.cells #[.string ⟨old.toArray⟩] 9)).alloc (.cells #[.string ⟨new.toArray⟩] 9)).alloc (.cells #[.int .i64 k] 3)).alloc (.cells #[.slice none 0 0] 58)).alloc (.cells #[.string ⟨s.toArray⟩] 9)).alloc (.cells #[.string ⟨old.toArray⟩] 9)) ∧ ((((((w.alloc (.cells #[.string ⟨old.toArray⟩] 9)).alloc (.cells #[.string ⟨new.toArray⟩] 9)).alloc (.cells #[.int .i64 k] 3)).alloc (.cells #[.slice none 0 0] 58)).alloc (.cells #[.string ⟨s.toArray⟩] 9)).alloc (.cells #[.string ⟨old.toArray⟩] 9)).heap.size = w.heap.size + 6 ∧
    ((((((w.alloc (.cells #[.string ⟨old.toArray⟩] 9)).alloc (.cells #[.string ⟨new.toArray⟩] 9)).alloc (.cells #[.int .i64 k] 3)).alloc (.cells #[.slice none 0 0] 58)).alloc (.cells #[.string ⟨s.toArray⟩] 9)).alloc (.cells #[.string ⟨old.toArray⟩] 9)).cell? ⟨w.heap.size, 0, none⟩ = some (.string ⟨old.toArray⟩) ∧ ((((((w.alloc (.cells #[.string ⟨old.toArray⟩] 9)).alloc (.cells #[.string ⟨new.toArray⟩] 9)).alloc (.cells #[.int .i64 k] 3)).alloc (.cells #[.slice none 0 0] 58)).alloc (.cells #[.string ⟨s.toArray⟩] 9)).alloc (.cells #[.string ⟨old.toArray⟩] 9)).cell? ⟨w.heap.size + 1, 0, none⟩ = some (.string ⟨new.toArray⟩) ∧ ((((((w.alloc (.cells #[.string ⟨old.toArray⟩] 9)).alloc (.cells #[.string ⟨new.toArray⟩] 9)).alloc (.cells #[.int .i64 k] 3)).alloc (.cells #[.slice none 0 0] 58)).alloc (.cells #[.string ⟨s.toArray⟩] 9)).alloc (.cells #[.string ⟨old.toArray⟩] 9)).cell? ⟨w.heap.size + 1 + 1, 0, none⟩ = some (.int .i64 k) := by
  obtain ⟨w1, h1⟩ : ∃ x, w.alloc (.cells #[.string ⟨old.toArray⟩] 9) = x := ⟨_, rfl⟩
  obtain ⟨w2, h2⟩ : ∃ x, w1.alloc (.cells #[.string ⟨new.toArray⟩] 9) = x := ⟨_, rfl⟩
  obtain ⟨w3, h3⟩ : ∃ x, w2.alloc (.cells #[.int .i64 k] 3) = x := ⟨_, rfl⟩
  obtain ⟨w4, h4⟩ : ∃ x, w3.alloc (.cells #[.slice none 0 0] 58) = x := ⟨_, rfl⟩
  obtain ⟨w5, h5⟩ : ∃ x, w4.alloc (.cells #[.string ⟨s.toArray⟩] 9) = x := ⟨_, rfl⟩
  obtain ⟨w6, h6⟩ : ∃ x, w5.alloc (.cells #[.string ⟨old.toArray⟩] 9) = x := ⟨_, rfl⟩
  rw [h1, h2, h3, h4, h5, h6]
  have z1 : w1.heap.size = w.heap.size + 1 := by rw [← h1, World.size_alloc]
  have z2 : w2.heap.size = w.heap.size + 2 := by rw [← h2, World.size_alloc, z1]
  have z3 : w3.heap.size = w.heap.size + 3 := by rw [← h3, World.size_alloc, z2]
  have z4 : w4.heap.size = w.heap.size + 4 := by rw [← h4, World.size_alloc, z3]
  have z5 : w5.heap.size = w.heap.size + 5 := by rw [← h5, World.size_alloc, z4]
  have z6 : w6.heap.size = w.heap.size + 6 := by rw [← h6, World.size_alloc, z5]
  have k1 : ∀ b, b < w1.heap.size → w2.heap[b]? = w1.heap[b]? := fun b hb => by rw [← h2, Below.heap_alloc _ _ _ hb]
  have k2 : ∀ b, b < w2.heap.size → w3.heap[b]? = w2.heap[b]? := fun b hb => by rw [← h3, Below.heap_alloc _ _ _ hb]
  have k3 : ∀ b, b < w3.heap.size → w4.heap[b]? = w3.heap[b]? := fun b hb => by rw [← h4, Below.heap_alloc _ _ _ hb]
  have k4 : ∀ b, b < w4.heap.size → w5.heap[b]? = w4.heap[b]? := fun b hb => by rw [← h5, Below.heap_alloc _ _ _ hb]
  have k5 : ∀ b, b < w5.heap.size → w6.heap[b]? = w5.heap[b]? := fun b hb => by rw [← h6, Below.heap_alloc _ _ _ hb]
  have n1 : w1.heap[w.heap.size]? = some (.cells #[.string ⟨old.toArray⟩] 9) := by rw [← h1]; exact World.alloc_heap_new w _
  have n2 : w2.heap[w1.heap.size]? = some (.cells #[.string ⟨new.toArray⟩] 9) := by rw [← h2]; exact World.alloc_heap_new w1 _
  have n3 : w3.heap[w2.heap.size]? = some (.cells #[.int .i64 k] 3) := by rw [← h3]; exact World.alloc_heap_new w2 _
  have n4 : w4.heap[w3.heap.size]? = some (.cells #[.slice none 0 0] 58) := by rw [← h4]; exact World.alloc_heap_new w3 _
  have n5 : w5.heap[w4.heap.size]? = some (.cells #[.string ⟨s.toArray⟩] 9) := by rw [← h5]; exact World.alloc_heap_new w4 _
  have n6 : w6.heap[w5.heap.size]? = some (.cells #[.string ⟨old.toArray⟩] 9) := by rw [← h6]; exact World.alloc_heap_new w5 _
  have hb : Below w.heap.size w w6 := by
    rw [← h6, ← h5, ← h4, ← h3, ← h2, ← h1]
    exact ((((((Below.refl _ w).alloc (Nat.le_refl _) _).alloc (by simp) _).alloc (by simp; omega) _).alloc (by simp; omega) _).alloc (by simp; omega) _).alloc (by simp; omega) _
  have m1 : w6.heap[w.heap.size]? = some (.cells #[.string ⟨old.toArray⟩] 9) := by rw [k5 _ (by omega), k4 _ (by omega), k3 _ (by omega), k2 _ (by omega), k1 _ (by omega)]; exact n1
  have m2 : w6.heap[w.heap.size + 1]? = some (.cells #[.string ⟨new.toArray⟩] 9) := by rw [k5 _ (by omega), k4 _ (by omega), k3 _ (by omega), k2 _ (by omega), ← z1]; exact n2
  have m3 : w6.heap[w.heap.size + 1 + 1]? = some (.cells #[.int .i64 k] 3) := by rw [k5 _ (by omega), k4 _ (by omega), k3 _ (by omega), show w.heap.size + 1 + 1 = w2.heap.size by omega]; exact n3
  have m4 : w6.heap[w.heap.size + 1 + 1 + 1]? = some (.cells #[.slice none 0 0] 58) := by rw [k5 _ (by omega), k4 _ (by omega), show w.heap.size + 1 + 1 + 1 = w3.heap.size by omega]; exact n4
  have m5 : w6.heap[w.heap.size + 1 + 1 + 1 + 1]? = some (.cells #[.string ⟨s.toArray⟩] 9) := by rw [k5 _ (by omega), show w.heap.size + 1 + 1 + 1 + 1 = w4.heap.size by omega]; exact n5
  have m6 : w6.heap[w.heap.size + 1 + 1 + 1 + 1 + 1]? = some (.cells #[.string ⟨old.toArray⟩] 9) := by rw [show w.heap.size + 1 + 1 + 1 + 1 + 1 = w5.heap.size by omega]; exact n6
  exact ⟨by simp [World.cell?, m6], by simp [World.cell?, m5], ⟨.slice none 0 0, m4, ⟨rfl, .inl ⟨rfl, rfl⟩⟩, fun e => by cases e⟩, hb, z6, by simp [World.cell?, m1], by simp [World.cell?, m2], by simp [World.cell?, m3]⟩
set_option maxRecDepth 100000 in
set_option maxHeartbeats 8000000 in
theorem substituted_any (s old new : By) (k : Nat) (w : World) (hs : s.length ≤ 255) (hc : CellOk w) :
    Calls Tryd.prog 42 #[.string ⟨s.toArray⟩, .string ⟨old.toArray⟩, .string ⟨new.toArray⟩, .int .i64 k] w fun e w' => e = endT (capS ((allP s old).foldl (putP old new k) [])) ∧ Below w.heap.size w w' := by
  have hg : 0 < w.heap.size := by
    obtain ⟨x, hx⟩ := hc
    rcases Nat.lt_or_ge 0 w.heap.size with h | h
    · exact h
    · simp [World.cell?, Array.getElem?_eq_none h] at hx
  obtain ⟨T, hT⟩ : ∃ T, (allP s old).foldl (putP old new k) [] = T := ⟨_, rfl⟩
  have HTr := hide hT
  rw [hT]
  clear hT
  refine (callsIn_wide (n := 0)).1 ?_
  refine callsIn_of_wp_marks Tryd.func42 rfl trivial ?_ rfl
  simp only [Tryd.ntmps42, List.size_toArray, List.length_cons, List.length_nil, Nat.reduceAdd, Nat.reduceSub, Array.replicate_succ, Array.replicate_zero, List.push_toArray, List.append_toArray, List.nil_append, List.cons_append]
  gi_wp2_with (refine ⟨trivial, rfl, ?_⟩; gi_at_call 46; refine (callsIn_wide.2 (parts_any _ _ _)).mono ?_; rintro e w1 ⟨rfl, rfl⟩)
  obtain ⟨hIt1, hIt2, hR0, hB0, z0, q1, q2, q3⟩ := subst_world s old new k w
  generalize hW0 : ((((((w.alloc (.cells #[.string ⟨old.toArray⟩] 9)).alloc (.cells #[.string ⟨new.toArray⟩] 9)).alloc (.cells #[.int .i64 k] 3)).alloc (.cells #[.slice none 0 0] 58)).alloc (.cells #[.string ⟨s.toArray⟩] 9)).alloc (.cells #[.string ⟨old.toArray⟩] 9)) = W0 at *
  have hI0 : InP (w.heap.size + 6) (w.heap.size + 1 + 1 + 1) (w.heap.size + 1 + 1 + 1 + 1 + 1) old W0 W0 [] := ⟨hR0, Kp.refl _ _ _, cellOk_below hc hB0, hIt1, by omega⟩
  clear hR0 hW0
  refine rangeQ (α := Nat × By) rfl (enters_of Tryd.func53 (by kernel_rfl) rfl) (parts_seq (w.heap.size + 1 + 1 + 1 + 1 + 1) (w.heap.size + 1 + 1 + 1 + 1) s old (by omega)) (fun W hW => ⟨(hW.cell (p := ⟨w.heap.size + 1 + 1 + 1 + 1 + 1, 0, none⟩) (by show w.heap.size + 1 + 1 + 1 + 1 + 1 < W0.heap.size; omega)).trans hIt1, (hW.cell (p := ⟨w.heap.size + 1 + 1 + 1 + 1, 0, none⟩) (by show w.heap.size + 1 + 1 + 1 + 1 < W0.heap.size; omega)).trans hIt2⟩) (fun _ => rfl)
    (fun pre W => InP (w.heap.size + 6) (w.heap.size + 1 + 1 + 1) (w.heap.size + 1 + 1 + 1 + 1 + 1) old W0 W (pre.foldl (putP old new k) []) ∧ (pre.foldl (putP old new k) []).length ≤ 255) (fun W => 255 < T.length ∧ Below w.heap.size w W)
    (fun pre W h => ⟨h.1.cell, h.1.box⟩) (fun pre W W' h k => ⟨h.1.below (by omega) k, h.2⟩) ?hIo ⟨hI0, Nat.zero_le _⟩
    (fun x a' _ => a' = { tmps := #[.string ⟨s.toArray⟩, .string ⟨old.toArray⟩, .string ⟨new.toArray⟩, .int .i64 k, undef, .pointer (some ⟨w.heap.size, 0, none⟩), .pointer (some ⟨w.heap.size + 1, 0, none⟩), .pointer (some ⟨w.heap.size + 1 + 1, 0, none⟩), .string ⟨#[]⟩, .pointer (some ⟨w.heap.size + 1 + 1 + 1, 0, none⟩), .int .i64 (x.1 : Int), .string ⟨x.2.toArray⟩, .string ⟨s.toArray⟩, .string ⟨old.toArray⟩, .func (.func 53) #[] #[.pointer (some ⟨w.heap.size + 1 + 1 + 1 + 1 + 1, 0, none⟩), .pointer (some ⟨w.heap.size + 1 + 1 + 1 + 1, 0, none⟩)], .int .i64 (x.1 : Int), .string ⟨x.2.toArray⟩, undef, undef, undef, undef, undef, undef, undef, undef, undef, undef, undef, undef, undef, undef, undef, undef, undef, undef, undef, undef], defers := [] })
    ?hAx ?assign ?body ?dead ?done ?pan
  case hIo => exact fun pre W l o o' h h1 h2 h3 => ⟨h.1.put (by omega) (by omega) h2 h3, h.2⟩
  case hAx => exact fun x a' W l o o' h _ _ _ => h
  case assign =>
    rintro lp pre ⟨xi, xt⟩ X K h1 hK
    have HK := hide hK
    clear hK
    simp only [encP]
    gi_wp2
    exact HK.out _ _ (Below.refl _ _) rfl
  case body =>
    rintro lp pre ⟨xi, xt⟩ a' X hg1 ⟨hi, hle⟩ rfl
    have hfold := fold_snoc (putP old new k) pre (xi, xt)
    obtain ⟨post, hpost⟩ := hg1
    have hlen := fold_part (f := putP old new k) putP_le hpost
    rw [HTr.out] at hlen
    obtain ⟨out, hout⟩ : ∃ out, pre.foldl (putP old new k) [] = out := ⟨_, rfl⟩
    rw [hout] at hi hfold hlen hle
    have HF := hide hfold
    have HI := hide hi
    have c5 : X.cell? ⟨w.heap.size, 0, none⟩ = some (.string ⟨old.toArray⟩) := (World.cell?_of_block (a := ⟨w.heap.size, 0, none⟩) (hi.kp.block (w.heap.size) (by omega) (by omega))).trans q1
    have c6 : X.cell? ⟨w.heap.size + 1, 0, none⟩ = some (.string ⟨new.toArray⟩) := (World.cell?_of_block (a := ⟨w.heap.size + 1, 0, none⟩) (hi.kp.block (w.heap.size + 1) (by omega) (by omega))).trans q2
    have c7 : X.cell? ⟨w.heap.size + 1 + 1, 0, none⟩ = some (.int .i64 k) := (World.cell?_of_block (a := ⟨w.heap.size + 1 + 1, 0, none⟩) (hi.kp.block (w.heap.size + 1 + 1) (by omega) (by omega))).trans q3
    have HBX : Hid (Below w.heap.size w X) := hB0.trans (hi.kp.below (by omega) (by omega))
    have hmX := hi.le
    dsimp only
    clear hfold hi hpost hIt1 hIt2 hout q1 q2 q3
    by_cases hx : xi = 0
    · subst hx
      have e1 : putP old new k out (0, xt) = out ++ xt := by unfold putP; rfl
      rw [e1] at hlen
      have HO := hide e1
      clear e1
      rw [List.length_append] at hlen
      by_cases hf : out.length + xt.length ≤ 255
      · have HP : Hid (∀ W : World, RowIs (w.heap.size + 6) (w.heap.size + 1 + 1 + 1) W (out) → w.heap.size + 6 ≤ W.heap.size → Calls Tryd.prog 45 #[.pointer (some ⟨w.heap.size + 1 + 1 + 1, 0, none⟩), .string ⟨xt.toArray⟩] W fun e w' => e = .returned (.tuple #[]) ∧ RowIs (w.heap.size + 6) (w.heap.size + 1 + 1 + 1) w' (out ++ xt) ∧ Kp (w.heap.size + 6) (w.heap.size + 1 + 1 + 1) W w') := fun W hW hs => put_ok _ _ _ _ W hW hs (by (try rw [List.length_append]); omega)
        have HL : Hid ((out ++ xt).length ≤ 255) := by show _ ≤ _; rw [List.length_append]; exact hf
        clear hf hlen hle
        refine wpQ_seq (wpQ_block (wpQ_seq (wpQ_reg rfl ?_)))
        go_wp2
        change Code.wpQ _ _ _ _ _ _
        refine wpQ_cond (t := true) rfl (wpQ_skip ?_)
        change Code.wpQ _ _ _ _ _ _
        refine wpQ_reg rfl ?_
        go_wp2_with (go_at_call 45; refine (HP.out _ HI.out.row HI.out.le).mono ?_; rintro e w1 ⟨rfl, h1, h2⟩; have A1 := hide h1; have B1 := hide h2; clear h1 h2 HP)
        refine ⟨B1.out.from, ?_⟩
        show InP _ _ _ _ _ _ _ ∧ _
        rw [HF.out, HO.out]
        exact ⟨HI.out.next (by omega) (by omega) (by omega) (by omega) A1.out B1.out, HL.out⟩
      · have HP : Hid (∀ W : World, RowIs (w.heap.size + 6) (w.heap.size + 1 + 1 + 1) W (out) → Calls Tryd.prog 45 #[.pointer (some ⟨w.heap.size + 1 + 1 + 1, 0, none⟩), .string ⟨xt.toArray⟩] W fun e w' => e = .panicked RF ∧ w' = W) := fun W hW => put_no _ _ _ _ W hW (by (try rw [List.length_append]); omega) (by (try rw [List.length_append]); omega)
        have HL : Hid (255 < T.length) := by show _ < _; omega
        clear hf hlen hle
        refine wpQ_seq (wpQ_block (wpQ_seq (wpQ_reg rfl ?_)))
        go_wp2
        change Code.wpQ _ _ _ _ _ _
        refine wpQ_cond (t := true) rfl (wpQ_skip ?_)
        change Code.wpQ _ _ _ _ _ _
        refine wpQ_reg rfl ?_
        go_wp2_with (go_at_call 45; refine (HP.out _ HI.out.row).mono ?_; rintro e w9 ⟨rfl, rfl⟩)
        exact ⟨rfl, rfl, KeepsFrom.refl _ _, HL.out, HBX.out⟩
    · have e19 : ((xi : Int) == 0) = false := by rw [beq_eq_false_iff_ne]; omega
      by_cases hk0 : k = 0 ∨ k = xi
      · have e1 : putP old new k out (xi, xt) = out ++ (new ++ xt) := by
          unfold putP; dsimp only; rw [if_neg hx, if_pos hk0]
        rw [e1] at hlen
        have HO := hide e1
        clear e1
        have e22 : ((k : Int) == 0) = true ∨ (((k : Int) == 0) = false ∧ ((k : Int) == (xi : Int)) = true) := by
          by_cases h0 : k = 0
          · left; rw [h0]; rfl
          · right
            refine ⟨by rw [beq_eq_false_iff_ne]; omega, ?_⟩
            rw [hk0.resolve_left h0]; exact beq_self_eq_true _
        clear hk0
        rcases e22 with e22 | ⟨e22, e23⟩
        · rw [List.length_append, List.length_append] at hlen
          by_cases hf : out.length + new.length ≤ 255
          · have HP : Hid (∀ W : World, RowIs (w.heap.size + 6) (w.heap.size + 1 + 1 + 1) W (out) → w.heap.size + 6 ≤ W.heap.size → Calls Tryd.prog 45 #[.pointer (some ⟨w.heap.size + 1 + 1 + 1, 0, none⟩), .string ⟨new.toArray⟩] W fun e w' => e = .returned (.tuple #[]) ∧ RowIs (w.heap.size + 6) (w.heap.size + 1 + 1 + 1) w' (out ++ new) ∧ Kp (w.heap.size + 6) (w.heap.size + 1 + 1 + 1) W w') := fun W hW hs => put_ok _ _ _ _ W hW hs (by (try rw [List.length_append]); omega)
            by_cases hf2 : out.length + new.length + xt.length ≤ 255
            · have HQ : Hid (∀ W : World, RowIs (w.heap.size + 6) (w.heap.size + 1 + 1 + 1) W (out ++ new) → w.heap.size + 6 ≤ W.heap.size → Calls Tryd.prog 45 #[.pointer (some ⟨w.heap.size + 1 + 1 + 1, 0, none⟩), .string ⟨xt.toArray⟩] W fun e w' => e = .returned (.tuple #[]) ∧ RowIs (w.heap.size + 6) (w.heap.size + 1 + 1 + 1) w' (out ++ new ++ xt) ∧ Kp (w.heap.size + 6) (w.heap.size + 1 + 1 + 1) W w') := fun W hW hs => put_ok _ _ _ _ W hW hs (by (try rw [List.length_append]); omega)
              have HL : Hid ((out ++ (new ++ xt)).length ≤ 255) := by show _ ≤ _; rw [List.length_append, List.length_append]; omega
              clear hf hf2 hlen hle
              refine wpQ_seq (wpQ_block (wpQ_seq (wpQ_reg rfl ?_)))
              go_wp2
              change Code.wpQ _ _ _ _ _ _
              refine wpQ_cond (t := false) rfl ?_
              change Code.wpQ _ _ _ _ _ _
              refine wpQ_seq (wpQ_reg rfl ?_)
              go_wp2
              change Code.wpQ _ _ _ _ _ _
              refine wpQ_cond (t := true) rfl (wpQ_reg rfl ?_)
              go_wp2_with (go_at_call 45; refine (HP.out _ HI.out.row HI.out.le).mono ?_; rintro e w1 ⟨rfl, h1, h2⟩; have A1 := hide h1; have B1 := hide h2; clear h1 h2 HP)
              change Code.wpQ _ _ _ _ _ _
              refine wpQ_reg rfl ?_
              go_wp2_with (go_at_call 45; refine (HQ.out _ A1.out (Nat.le_trans HI.out.le B1.out.size)).mono ?_; rintro e w2 ⟨rfl, h1, h2⟩; have A2 := hide h1; have B2 := hide h2; clear h1 h2 HQ)
              refine ⟨(B1.out.trans B2.out).from, ?_⟩
              show InP _ _ _ _ _ _ _ ∧ _
              rw [HF.out, HO.out]
              refine ⟨?_, HL.out⟩
              rw [← List.append_assoc]
              exact HI.out.next (by omega) (by omega) (by omega) (by omega) A2.out (B1.out.trans B2.out)
            · have HQ : Hid (∀ W : World, RowIs (w.heap.size + 6) (w.heap.size + 1 + 1 + 1) W (out ++ new) → Calls Tryd.prog 45 #[.pointer (some ⟨w.heap.size + 1 + 1 + 1, 0, none⟩), .string ⟨xt.toArray⟩] W fun e w' => e = .panicked RF ∧ w' = W) := fun W hW => put_no _ _ _ _ W hW (by (try rw [List.length_append]); omega) (by (try rw [List.length_append]); omega)
              have HL : Hid (255 < T.length) := by show _ < _; omega
              clear hf hf2 hlen hle
              refine wpQ_seq (wpQ_block (wpQ_seq (wpQ_reg rfl ?_)))
              go_wp2
              change Code.wpQ _ _ _ _ _ _
              refine wpQ_cond (t := false) rfl ?_
              change Code.wpQ _ _ _ _ _ _
              refine wpQ_seq (wpQ_reg rfl ?_)
              go_wp2
              change Code.wpQ _ _ _ _ _ _
              refine wpQ_cond (t := true) rfl (wpQ_reg rfl ?_)
              go_wp2_with (go_at_call 45; refine (HP.out _ HI.out.row HI.out.le).mono ?_; rintro e w1 ⟨rfl, h1, h2⟩; have A1 := hide h1; have B1 := hide h2; clear h1 h2 HP)
              change Code.wpQ _ _ _ _ _ _
              refine wpQ_reg rfl ?_
              go_wp2_with (go_at_call 45; refine (HQ.out _ A1.out).mono ?_; rintro e w9 ⟨rfl, rfl⟩)
              exact ⟨rfl, rfl, B1.out.from, HL.out, HBX.out.trans (B1.out.below (by omega) (by omega))⟩
          · have HP : Hid (∀ W : World, RowIs (w.heap.size + 6) (w.heap.size + 1 + 1 + 1) W (out) → Calls Tryd.prog 45 #[.pointer (some ⟨w.heap.size + 1 + 1 + 1, 0, none⟩), .string ⟨new.toArray⟩] W fun e w' => e = .panicked RF ∧ w' = W) := fun W hW => put_no _ _ _ _ W hW (by (try rw [List.length_append]); omega) (by (try rw [List.length_append]); omega)
            have HL : Hid (255 < T.length) := by show _ < _; omega
            clear hf hlen hle
            refine wpQ_seq (wpQ_block (wpQ_seq (wpQ_reg rfl ?_)))
            go_wp2
            change Code.wpQ _ _ _ _ _ _
            refine wpQ_cond (t := false) rfl ?_
            change Code.wpQ _ _ _ _ _ _
            refine wpQ_seq (wpQ_reg rfl ?_)
            go_wp2
            change Code.wpQ _ _ _ _ _ _
            refine wpQ_cond (t := true) rfl (wpQ_reg rfl ?_)
            go_wp2_with (go_at_call 45; refine (HP.out _ HI.out.row).mono ?_; rintro e w9 ⟨rfl, rfl⟩)
            exact ⟨rfl, rfl, KeepsFrom.refl _ _, HL.out, HBX.out⟩
        · rw [List.length_append, List.length_append] at hlen
          by_cases hf : out.length + new.length ≤ 255
          · have HP : Hid (∀ W : World, RowIs (w.heap.size + 6) (w.heap.size + 1 + 1 + 1) W (out) → w.heap.size + 6 ≤ W.heap.size → Calls Tryd.prog 45 #[.pointer (some ⟨w.heap.size + 1 + 1 + 1, 0, none⟩), .string ⟨new.toArray⟩] W fun e w' => e = .returned (.tuple #[]) ∧ RowIs (w.heap.size + 6) (w.heap.size + 1 + 1 + 1) w' (out ++ new) ∧ Kp (w.heap.size + 6) (w.heap.size + 1 + 1 + 1) W w') := fun W hW hs => put_ok _ _ _ _ W hW hs (by (try rw [List.length_append]); omega)
            by_cases hf2 : out.length + new.length + xt.length ≤ 255
            · have HQ : Hid (∀ W : World, RowIs (w.heap.size + 6) (w.heap.size + 1 + 1 + 1) W (out ++ new) → w.heap.size + 6 ≤ W.heap.size → Calls Tryd.prog 45 #[.pointer (some ⟨w.heap.size + 1 + 1 + 1, 0, none⟩), .string ⟨xt.toArray⟩] W fun e w' => e = .returned (.tuple #[]) ∧ RowIs (w.heap.size + 6) (w.heap.size + 1 + 1 + 1) w' (out ++ new ++ xt) ∧ Kp (w.heap.size + 6) (w.heap.size + 1 + 1 + 1) W w') := fun W hW hs => put_ok _ _ _ _ W hW hs (by (try rw [List.length_append]); omega)
              have HL : Hid ((out ++ (new ++ xt)).length ≤ 255) := by show _ ≤ _; rw [List.length_append, List.length_append]; omega
              clear hf hf2 hlen hle
              refine wpQ_seq (wpQ_block (wpQ_seq (wpQ_reg rfl ?_)))
              go_wp2
              change Code.wpQ _ _ _ _ _ _
              refine wpQ_cond (t := false) rfl ?_
              change Code.wpQ _ _ _ _ _ _
              refine wpQ_seq (wpQ_reg rfl ?_)
              go_wp2
              change Code.wpQ _ _ _ _ _ _
              refine wpQ_cond (t := true) rfl (wpQ_reg rfl ?_)
              go_wp2_with (go_at_call 45; refine (HP.out _ HI.out.row HI.out.le).mono ?_; rintro e w1 ⟨rfl, h1, h2⟩; have A1 := hide h1; have B1 := hide h2; clear h1 h2 HP)
              change Code.wpQ _ _ _ _ _ _
              refine wpQ_reg rfl ?_
              go_wp2_with (go_at_call 45; refine (HQ.out _ A1.out (Nat.le_trans HI.out.le B1.out.size)).mono ?_; rintro e w2 ⟨rfl, h1, h2⟩; have A2 := hide h1; have B2 := hide h2; clear h1 h2 HQ)
              refine ⟨(B1.out.trans B2.out).from, ?_⟩
              show InP _ _ _ _ _ _ _ ∧ _
              rw [HF.out, HO.out]
              refine ⟨?_, HL.out⟩
              rw [← List.append_assoc]
              exact HI.out.next (by omega) (by omega) (by omega) (by omega) A2.out (B1.out.trans B2.out)
            · have HQ : Hid (∀ W : World, RowIs (w.heap.size + 6) (w.heap.size + 1 + 1 + 1) W (out ++ new) → Calls Tryd.prog 45 #[.pointer (some ⟨w.heap.size + 1 + 1 + 1, 0, none⟩), .string ⟨xt.toArray⟩] W fun e w' => e = .panicked RF ∧ w' = W) := fun W hW => put_no _ _ _ _ W hW (by (try rw [List.length_append]); omega) (by (try rw [List.length_append]); omega)
              have HL : Hid (255 < T.length) := by show _ < _; omega
              clear hf hf2 hlen hle
              refine wpQ_seq (wpQ_block (wpQ_seq (wpQ_reg rfl ?_)))
              go_wp2
              change Code.wpQ _ _ _ _ _ _
              refine wpQ_cond (t := false) rfl ?_
              change Code.wpQ _ _ _ _ _ _
              refine wpQ_seq (wpQ_reg rfl ?_)
              go_wp2
              change Code.wpQ _ _ _ _ _ _
              refine wpQ_cond (t := true) rfl (wpQ_reg rfl ?_)
              go_wp2_with (go_at_call 45; refine (HP.out _ HI.out.row HI.out.le).mono ?_; rintro e w1 ⟨rfl, h1, h2⟩; have A1 := hide h1; have B1 := hide h2; clear h1 h2 HP)
              change Code.wpQ _ _ _ _ _ _
              refine wpQ_reg rfl ?_
              go_wp2_with (go_at_call 45; refine (HQ.out _ A1.out).mono ?_; rintro e w9 ⟨rfl, rfl⟩)
              exact ⟨rfl, rfl, B1.out.from, HL.out, HBX.out.trans (B1.out.below (by omega) (by omega))⟩
          · have HP : Hid (∀ W : World, RowIs (w.heap.size + 6) (w.heap.size + 1 + 1 + 1) W (out) → Calls Tryd.prog 45 #[.pointer (some ⟨w.heap.size + 1 + 1 + 1, 0, none⟩), .string ⟨new.toArray⟩] W fun e w' => e = .panicked RF ∧ w' = W) := fun W hW => put_no _ _ _ _ W hW (by (try rw [List.length_append]); omega) (by (try rw [List.length_append]); omega)
            have HL : Hid (255 < T.length) := by show _ < _; omega
            clear hf hlen hle
            refine wpQ_seq (wpQ_block (wpQ_seq (wpQ_reg rfl ?_)))
            go_wp2
            change Code.wpQ _ _ _ _ _ _
            refine wpQ_cond (t := false) rfl ?_
            change Code.wpQ _ _ _ _ _ _
            refine wpQ_seq (wpQ_reg rfl ?_)
            go_wp2
            change Code.wpQ _ _ _ _ _ _
            refine wpQ_cond (t := true) rfl (wpQ_reg rfl ?_)
            go_wp2_with (go_at_call 45; refine (HP.out _ HI.out.row).mono ?_; rintro e w9 ⟨rfl, rfl⟩)
            exact ⟨rfl, rfl, KeepsFrom.refl _ _, HL.out, HBX.out⟩
      · have e1 : putP old new k out (xi, xt) = out ++ (old ++ xt) := by
          unfold putP; dsimp only; rw [if_neg hx, if_neg hk0]
        rw [e1] at hlen
        have HO := hide e1
        clear e1
        have e22 : ((k : Int) == 0) = false := by rw [beq_eq_false_iff_ne]; omega
        have e23 : ((k : Int) == (xi : Int)) = false := by rw [beq_eq_false_iff_ne]; omega
        clear hk0
        rw [List.length_append, List.length_append] at hlen
        by_cases hf : out.length + old.length ≤ 255
        · have HP : Hid (∀ W : World, RowIs (w.heap.size + 6) (w.heap.size + 1 + 1 + 1) W (out) → w.heap.size + 6 ≤ W.heap.size → Calls Tryd.prog 45 #[.pointer (some ⟨w.heap.size + 1 + 1 + 1, 0, none⟩), .string ⟨old.toArray⟩] W fun e w' => e = .returned (.tuple #[]) ∧ RowIs (w.heap.size + 6) (w.heap.size + 1 + 1 + 1) w' (out ++ old) ∧ Kp (w.heap.size + 6) (w.heap.size + 1 + 1 + 1) W w') := fun W hW hs => put_ok _ _ _ _ W hW hs (by (try rw [List.length_append]); omega)
          by_cases hf2 : out.length + old.length + xt.length ≤ 255
          · have HQ : Hid (∀ W : World, RowIs (w.heap.size + 6) (w.heap.size + 1 + 1 + 1) W (out ++ old) → w.heap.size + 6 ≤ W.heap.size → Calls Tryd.prog 45 #[.pointer (some ⟨w.heap.size + 1 + 1 + 1, 0, none⟩), .string ⟨xt.toArray⟩] W fun e w' => e = .returned (.tuple #[]) ∧ RowIs (w.heap.size + 6) (w.heap.size + 1 + 1 + 1) w' (out ++ old ++ xt) ∧ Kp (w.heap.size + 6) (w.heap.size + 1 + 1 + 1) W w') := fun W hW hs => put_ok _ _ _ _ W hW hs (by (try rw [List.length_append]); omega)
            have HL : Hid ((out ++ (old ++ xt)).length ≤ 255) := by show _ ≤ _; rw [List.length_append, List.length_append]; omega
            clear hf hf2 hlen hle
            refine wpQ_seq (wpQ_block (wpQ_seq (wpQ_reg rfl ?_)))
            go_wp2
            change Code.wpQ _ _ _ _ _ _
            refine wpQ_cond (t := false) rfl ?_
            change Code.wpQ _ _ _ _ _ _
            refine wpQ_seq (wpQ_reg rfl ?_)
            go_wp2
            change Code.wpQ _ _ _ _ _ _
            refine wpQ_cond (t := false) rfl (wpQ_reg rfl ?_)
            go_wp2_with (go_at_call 45; refine (HP.out _ HI.out.row HI.out.le).mono ?_; rintro e w1 ⟨rfl, h1, h2⟩; have A1 := hide h1; have B1 := hide h2; clear h1 h2 HP)
            change Code.wpQ _ _ _ _ _ _
            refine wpQ_reg rfl ?_
            go_wp2_with (go_at_call 45; refine (HQ.out _ A1.out (Nat.le_trans HI.out.le B1.out.size)).mono ?_; rintro e w2 ⟨rfl, h1, h2⟩; have A2 := hide h1; have B2 := hide h2; clear h1 h2 HQ)
            refine ⟨(B1.out.trans B2.out).from, ?_⟩
            show InP _ _ _ _ _ _ _ ∧ _
            rw [HF.out, HO.out]
            refine ⟨?_, HL.out⟩
            rw [← List.append_assoc]
            exact HI.out.next (by omega) (by omega) (by omega) (by omega) A2.out (B1.out.trans B2.out)
          · have HQ : Hid (∀ W : World, RowIs (w.heap.size + 6) (w.heap.size + 1 + 1 + 1) W (out ++ old) → Calls Tryd.prog 45 #[.pointer (some ⟨w.heap.size + 1 + 1 + 1, 0, none⟩), .string ⟨xt.toArray⟩] W fun e w' => e = .panicked RF ∧ w' = W) := fun W hW => put_no _ _ _ _ W hW (by (try rw [List.length_append]); omega) (by (try rw [List.length_append]); omega)
            have HL : Hid (255 < T.length) := by show _ < _; omega
            clear hf hf2 hlen hle
            refine wpQ_seq (wpQ_block (wpQ_seq (wpQ_reg rfl ?_)))
            go_wp2
            change Code.wpQ _ _ _ _ _ _
            refine wpQ_cond (t := false) rfl ?_
            change Code.wpQ _ _ _ _ _ _
            refine wpQ_seq (wpQ_reg rfl ?_)
            go_wp2
            change Code.wpQ _ _ _ _ _ _
            refine wpQ_cond (t := false) rfl (wpQ_reg rfl ?_)
            go_wp2_with (go_at_call 45; refine (HP.out _ HI.out.row HI.out.le).mono ?_; rintro e w1 ⟨rfl, h1, h2⟩; have A1 := hide h1; have B1 := hide h2; clear h1 h2 HP)
            change Code.wpQ _ _ _ _ _ _
            refine wpQ_reg rfl ?_
            go_wp2_with (go_at_call 45; refine (HQ.out _ A1.out).mono ?_; rintro e w9 ⟨rfl, rfl⟩)
            exact ⟨rfl, rfl, B1.out.from, HL.out, HBX.out.trans (B1.out.below (by omega) (by omega))⟩
        · have HP : Hid (∀ W : World, RowIs (w.heap.size + 6) (w.heap.size + 1 + 1 + 1) W (out) → Calls Tryd.prog 45 #[.pointer (some ⟨w.heap.size + 1 + 1 + 1, 0, none⟩), .string ⟨old.toArray⟩] W fun e w' => e = .panicked RF ∧ w' = W) := fun W hW => put_no _ _ _ _ W hW (by (try rw [List.length_append]); omega) (by (try rw [List.length_append]); omega)
          have HL : Hid (255 < T.length) := by show _ < _; omega
          clear hf hlen hle
          refine wpQ_seq (wpQ_block (wpQ_seq (wpQ_reg rfl ?_)))
          go_wp2
          change Code.wpQ _ _ _ _ _ _
          refine wpQ_cond (t := false) rfl ?_
          change Code.wpQ _ _ _ _ _ _
          refine wpQ_seq (wpQ_reg rfl ?_)
          go_wp2
          change Code.wpQ _ _ _ _ _ _
          refine wpQ_cond (t := false) rfl (wpQ_reg rfl ?_)
          go_wp2_with (go_at_call 45; refine (HP.out _ HI.out.row).mono ?_; rintro e w9 ⟨rfl, rfl⟩)
          exact ⟨rfl, rfl, KeepsFrom.refl _ _, HL.out, HBX.out⟩
  case dead => exact fun pre W h _ => h.elim
  case done =>
    rintro D xs X hD rfl ⟨hi, hle⟩ hm
    rw [HTr.out] at hi hle
    have HM := hide hm
    obtain ⟨v, hv⟩ := hi.row
    obtain ⟨p, c, rfl⟩ := hv.slice
    have hb := row_back hv
    have c0 := hv.cell
    have HB : Hid (Below w.heap.size w X) := hB0.trans (hi.kp.below (by omega) (by omega))
    have hbD : w.heap.size ≤ D := by omega
    have HC := hide (cap_yes hle)
    clear hm hi hv hIt1 hIt2 hle
    dsimp only
    gi_wp2
    refine leave_ret HM.out ⟨_, sret rfl rfl, ?_⟩
    rw [HC.out]
    exact ⟨rfl, below_putD HB.out (Nat.le_refl _) hbD⟩
  case pan =>
    rintro D X hD ⟨h1, h2⟩ hm
    refine leave_panic hm ?_
    rw [cap_no h1]
    exact ⟨rfl, below_putD h2 (Nat.le_refl _) (by omega)⟩
end Go.Proofs.YthooimaadgabiabDoor
