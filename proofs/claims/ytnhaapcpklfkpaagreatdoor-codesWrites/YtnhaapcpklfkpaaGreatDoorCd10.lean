/-
  The document's examples, by the relation of Apply; the contract of lives.
-/
import Derived.Test.YtnhaapcpklfkpaaGreatDoorCd9i
namespace Go.Proofs.YtnhaapcpklfkpaaGreatDoor
open Go.RowKit
set_option linter.unusedSimpArgs false

theorem num_lit {ss : List (List Pc)} {n : Int} {ps : List Pc} {m : Nat} {S : List UInt8} (h1 : (leftS ss)[chosenR (leftS ss).length n]? = some ps) (h2 : kindS ps ≠ 3) (h3 : sizedR ps (max n (-n)) = ((m : Int), 0)) (h4 : m ≤ 9223372036854775807) (h5 : ¬ ((leftS ss).length = 1 ∧ n < 0)) (h6 : secT (plcOf ps) m 0 0 0 [] ps = S) : NumQ ss n S 0 := h6 ▸ NumQ.num h1 h2 h3 h4 h5
theorem day_lit {ss : List (List Pc)} {n : Int} {ps : List Pc} {y k d : Nat} {S : List UInt8} (h1 : (leftS ss)[chosenR (leftS ss).length n]? = some ps) (h2 : kindS ps = 3) (h3 : Dat.DayIs y k d (dayOf n)) (h6 : secT zeroPlc 0 y (k + 1) d [] ps = S) : NumQ ss n S 0 := h6 ▸ NumQ.day h1 h2 h3
theorem words_lit {l : List UInt8} {k n : Int} {s : ByteArray} {b : Bool} {c : Int} {ss : List (List Pc)} {S : List UInt8} {E : Int} (h1 : secsOpt l = some ss) (h2 : checkV k n s b c = 0) (h3 : k = 2 ∨ k = 3) (h4 : wordsSS ss (wordsV k n s b c).1 = S) (h5 : (wordsV k n s b c).2 = E) : AppQ l k n s b c S E := h4 ▸ h5 ▸ AppQ.words h1 h2 h3
theorem app_1 : AppQ [48, 46, 48, 48] 1 1005000 ⟨#[]⟩ false 0 [49, 46, 48, 48] 0 :=
  .number (ss := [[⟨1, [48, 46, 48, 48]⟩]]) (by kernel_rfl) (by kernel_rfl) (.inr rfl) (num_lit (ps := [⟨1, [48, 46, 48, 48]⟩]) (m := 1000000) (by kernel_rfl) (by decide) (by kernel_rfl) (by decide) (by decide) (by kernel_rfl))
theorem app_2 : AppQ [35, 44, 35, 35, 48] 1 1234567500000 ⟨#[]⟩ false 0 [49, 44, 50, 51, 52, 44, 53, 54, 56] 0 :=
  .number (ss := [[⟨1, [35, 44, 35, 35, 48]⟩]]) (by kernel_rfl) (by kernel_rfl) (.inr rfl) (num_lit (ps := [⟨1, [35, 44, 35, 35, 48]⟩]) (m := 1234568000000) (by kernel_rfl) (by decide) (by kernel_rfl) (by decide) (by decide) (by kernel_rfl))
theorem app_3 : AppQ [48, 37, 59, 40, 48, 37, 41] 1 (-500000) ⟨#[]⟩ false 0 [40, 53, 48, 37, 41] 0 :=
  .number (ss := [[⟨1, [48]⟩, ⟨2, [37]⟩], [⟨0, [40]⟩, ⟨1, [48]⟩, ⟨2, [37]⟩, ⟨0, [41]⟩]]) (by kernel_rfl) (by kernel_rfl) (.inr rfl) (num_lit (ps := [⟨0, [40]⟩, ⟨1, [48]⟩, ⟨2, [37]⟩, ⟨0, [41]⟩]) (m := 50000000) (by kernel_rfl) (by decide) (by kernel_rfl) (by decide) (by decide) (by kernel_rfl))
theorem app_4 : AppQ [35, 46, 35, 35] 1 500000 ⟨#[]⟩ false 0 [46, 53] 0 :=
  .number (ss := [[⟨1, [35, 46, 35, 35]⟩]]) (by kernel_rfl) (by kernel_rfl) (.inr rfl) (num_lit (ps := [⟨1, [35, 46, 35, 35]⟩]) (m := 500000) (by kernel_rfl) (by decide) (by kernel_rfl) (by decide) (by decide) (by kernel_rfl))
theorem day_e : Dat.DayIs ((2023 : Nat) : Int) 2 ((16 : Nat) : Int) (dayOf 45000000000) := ⟨by decide, by decide, by decide, by decide, by decide, by kernel_rfl⟩
theorem app_5 : AppQ [100, 47, 109, 47, 121, 121] 1 45000000000 ⟨#[]⟩ false 0 [49, 54, 47, 51, 47, 50, 51] 0 :=
  .number (ss := [[⟨3, [100]⟩, ⟨0, [47]⟩, ⟨3, [109]⟩, ⟨0, [47]⟩, ⟨3, [121, 121]⟩]]) (by kernel_rfl) (by kernel_rfl) (.inr rfl) (day_lit (ps := [⟨3, [100]⟩, ⟨0, [47]⟩, ⟨3, [109]⟩, ⟨0, [47]⟩, ⟨3, [121, 121]⟩]) (y := 2023) (k := 2) (d := 16) (by kernel_rfl) (by kernel_rfl) day_e (by kernel_rfl))
theorem app_6 : AppQ [34, 110, 58, 32, 34, 64] 2 0 ⟨#[120]⟩ false 0 [110, 58, 32, 120] 0 :=
  words_lit (ss := [[⟨0, [110, 58, 32]⟩, ⟨4, [64]⟩]]) (by kernel_rfl) (by kernel_rfl) (.inl rfl) (by kernel_rfl) (by kernel_rfl)
theorem app_7 : AppQ [48, 59, 45, 48, 59, 34, 122, 101, 114, 111, 34] 1 0 ⟨#[]⟩ false 0 [122, 101, 114, 111] 0 :=
  .number (ss := [[⟨1, [48]⟩], [⟨0, [45]⟩, ⟨1, [48]⟩], [⟨0, [122, 101, 114, 111]⟩]]) (by kernel_rfl) (by kernel_rfl) (.inr rfl) (num_lit (ps := [⟨0, [122, 101, 114, 111]⟩]) (m := 0) (by kernel_rfl) (by decide) (by kernel_rfl) (by decide) (by decide) (by kernel_rfl))
theorem check_8 : checkR [48, 44] = 5 := by kernel_rfl
theorem plain_9 : plainR [34, 120, 34] = true := by kernel_rfl
/-- What a law of this layer has of the world. -/
structure EnvC (w : World) : Prop where
  cell : CellOk w
  tab : TabOk w
  len : Dat.LenOk w
theorem EnvC.below {w w' : World} (h : EnvC w) (k : Below w.heap.size w w') : EnvC w' := ⟨cellOk_below h.cell k, tab_below h.tab k, Dat.len_below h.len k⟩
set_option maxHeartbeats 2000000 in
/-- The law's is: does a format write a value so? -/
theorem is_any {l : List UInt8} {k n : Int} {s : ByteArray} {b : Bool} {c : Int} {S : List UInt8} {E : Int} (h : AppQ l k n s b c S E) (T : List UInt8) (w : World) (hw : EnvC w) (hl : l.length ≤ 9223372036854775807) (hz : s.size ≤ maxLen) (B : Bool) (hB : B = (decide (S = T) && decide (E = 0))) :
    Calls Tryz.prog 19 #[.string ⟨l.toArray⟩, .agg #[.int .i64 k, .int .i64 n, .string s, .bool b, .int .i64 c], .string ⟨T.toArray⟩] w fun e w' => e = .returned (.bool B) ∧ Below w.heap.size w w' := by
  have HA : Hid (∀ W : World, Below w.heap.size w W → Calls Tryz.prog 4 #[.string ⟨l.toArray⟩, .agg #[.int .i64 k, .int .i64 n, .string s, .bool b, .int .i64 c]] W fun e w' => e = .returned (.tuple #[.string ⟨S.toArray⟩, .int .i64 E]) ∧ Below W.heap.size W w') := fun W hW => Apply_any h W hl (hw.below hW).cell (hw.below hW).tab (hw.below hW).len hz
  clear h hw hz
  go_enter Tryz.func19, Tryz.ntmps19
  go_wp2_with (go_at_call 4; refine (HA.out _ (by first | exact (Below.refl _ w) | exact ((Below.refl _ w).alloc (Nat.le_refl _) _))).mono ?_; rintro e w1 ⟨rfl, hb1⟩)
  all_goals
    go_ret
    refine ⟨ret_bool ?_, up ((Below.refl _ w).alloc (Nat.le_refl _) _) hb1⟩
    rw [hB]
    by_cases hE : E = 0 <;> simp_all
theorem is_yes {l : List UInt8} {k n : Int} {s : ByteArray} {b : Bool} {c : Int} {S : List UInt8} (h : AppQ l k n s b c S 0) (w : World) (hw : EnvC w) (hl : l.length ≤ 9223372036854775807) (hz : s.size ≤ maxLen) :
    Calls Tryz.prog 19 #[.string ⟨l.toArray⟩, .agg #[.int .i64 k, .int .i64 n, .string s, .bool b, .int .i64 c], .string ⟨S.toArray⟩] w fun e w' => e = .returned (.bool true) ∧ Below w.heap.size w w' :=
  is_any h S w hw hl hz true (by simp)
theorem lnumber_any (n : Int) (w : World) : Calls Tryz.prog 20 #[.int .i64 n] w fun e w' => e = .returned (.agg #[.int .i64 1, .int .i64 n, .string ⟨#[]⟩, .bool false, .int .i64 0]) ∧ Below w.heap.size w w' := by
  go_enter Tryz.func20, Tryz.ntmps20
  go_wp2
  refine bodyPost_ret (v := .agg #[.int .i64 1, .int .i64 n, .string ⟨#[]⟩, .bool false, .int .i64 0]) (by simp [results, Tryz.results20, go_sem]) rfl ⟨rfl, ?_⟩
  repeat' (first | with_reducible exact Below.refl _ _ | with_reducible refine Below.setCell ?_ ?_ _ | with_reducible refine Below.alloc ?_ ?_ _ | with_reducible refine below_drewN ?_ _ | with_reducible refine Below.drew ?_ | with_reducible refine Below.trans ?_ (Below.mono (by assumption) ?_) | with_reducible exact Nat.le_refl _ | with_reducible refine Nat.le_trans ?_ (Below.size (by assumption)) | with_reducible refine Nat.le_trans ?_ (size_alloc _ _) | with_reducible refine Nat.le_trans ?_ (size_set _ _ _) | with_reducible refine Nat.le_trans ?_ (size_drewN _ _) | with_reducible refine Nat.le_trans ?_ (size_drew _) | (simp; done) | (simp; omega) | omega)
theorem ltext_any (s : ByteArray) (w : World) : Calls Tryz.prog 21 #[.string s] w fun e w' => e = .returned (.agg #[.int .i64 2, .int .i64 0, .string s, .bool false, .int .i64 0]) ∧ Below w.heap.size w w' := by
  go_enter Tryz.func21, Tryz.ntmps21
  go_wp2
  refine bodyPost_ret (v := .agg #[.int .i64 2, .int .i64 0, .string s, .bool false, .int .i64 0]) (by simp [results, Tryz.results21, go_sem]) rfl ⟨rfl, ?_⟩
  repeat' (first | with_reducible exact Below.refl _ _ | with_reducible refine Below.setCell ?_ ?_ _ | with_reducible refine Below.alloc ?_ ?_ _ | with_reducible refine below_drewN ?_ _ | with_reducible refine Below.drew ?_ | with_reducible refine Below.trans ?_ (Below.mono (by assumption) ?_) | with_reducible exact Nat.le_refl _ | with_reducible refine Nat.le_trans ?_ (Below.size (by assumption)) | with_reducible refine Nat.le_trans ?_ (size_alloc _ _) | with_reducible refine Nat.le_trans ?_ (size_set _ _ _) | with_reducible refine Nat.le_trans ?_ (size_drewN _ _) | with_reducible refine Nat.le_trans ?_ (size_drew _) | (simp; done) | (simp; omega) | omega)
set_option maxRecDepth 100000 in
set_option maxHeartbeats 1000000 in
theorem lives_any (w : World) (hw : EnvC w) : Calls Tryz.prog 6 #[] w fun e w' => e = .returned (.bool true) ∧ Below w.heap.size w w' := by
  have HN : Hid (∀ (n : Int) (W : World), Calls Tryz.prog 20 #[.int .i64 n] W fun e w' => e = .returned (.agg #[.int .i64 1, .int .i64 n, .string ⟨#[]⟩, .bool false, .int .i64 0]) ∧ Below W.heap.size W w') := hide lnumber_any
  have HX : Hid (∀ (s : ByteArray) (W : World), Calls Tryz.prog 21 #[.string s] W fun e w' => e = .returned (.agg #[.int .i64 2, .int .i64 0, .string s, .bool false, .int .i64 0]) ∧ Below W.heap.size W w') := hide ltext_any
  have H1 : Hid (∀ W : World, Below w.heap.size w W → Calls Tryz.prog 19 #[.string ⟨#[48, 46, 48, 48]⟩, .agg #[.int .i64 1, .int .i64 (1005000), .string ⟨#[]⟩, .bool false, .int .i64 0], .string ⟨#[49, 46, 48, 48]⟩] W fun e w' => e = .returned (.bool true) ∧ Below W.heap.size W w') := fun W h => is_yes app_1 W (hw.below h) (by decide) (by decide)
  have H2 : Hid (∀ W : World, Below w.heap.size w W → Calls Tryz.prog 19 #[.string ⟨#[35, 44, 35, 35, 48]⟩, .agg #[.int .i64 1, .int .i64 (1234567500000), .string ⟨#[]⟩, .bool false, .int .i64 0], .string ⟨#[49, 44, 50, 51, 52, 44, 53, 54, 56]⟩] W fun e w' => e = .returned (.bool true) ∧ Below W.heap.size W w') := fun W h => is_yes app_2 W (hw.below h) (by decide) (by decide)
  have H3 : Hid (∀ W : World, Below w.heap.size w W → Calls Tryz.prog 19 #[.string ⟨#[48, 37, 59, 40, 48, 37, 41]⟩, .agg #[.int .i64 1, .int .i64 (-500000), .string ⟨#[]⟩, .bool false, .int .i64 0], .string ⟨#[40, 53, 48, 37, 41]⟩] W fun e w' => e = .returned (.bool true) ∧ Below W.heap.size W w') := fun W h => is_yes app_3 W (hw.below h) (by decide) (by decide)
  have H4 : Hid (∀ W : World, Below w.heap.size w W → Calls Tryz.prog 19 #[.string ⟨#[35, 46, 35, 35]⟩, .agg #[.int .i64 1, .int .i64 (500000), .string ⟨#[]⟩, .bool false, .int .i64 0], .string ⟨#[46, 53]⟩] W fun e w' => e = .returned (.bool true) ∧ Below W.heap.size W w') := fun W h => is_yes app_4 W (hw.below h) (by decide) (by decide)
  have H5 : Hid (∀ W : World, Below w.heap.size w W → Calls Tryz.prog 19 #[.string ⟨#[100, 47, 109, 47, 121, 121]⟩, .agg #[.int .i64 1, .int .i64 (45000000000), .string ⟨#[]⟩, .bool false, .int .i64 0], .string ⟨#[49, 54, 47, 51, 47, 50, 51]⟩] W fun e w' => e = .returned (.bool true) ∧ Below W.heap.size W w') := fun W h => is_yes app_5 W (hw.below h) (by decide) (by decide)
  have H6 : Hid (∀ W : World, Below w.heap.size w W → Calls Tryz.prog 19 #[.string ⟨#[34, 110, 58, 32, 34, 64]⟩, .agg #[.int .i64 2, .int .i64 (0), .string ⟨#[120]⟩, .bool false, .int .i64 0], .string ⟨#[110, 58, 32, 120]⟩] W fun e w' => e = .returned (.bool true) ∧ Below W.heap.size W w') := fun W h => is_yes app_6 W (hw.below h) (by decide) (by decide)
  have H7 : Hid (∀ W : World, Below w.heap.size w W → Calls Tryz.prog 19 #[.string ⟨#[48, 59, 45, 48, 59, 34, 122, 101, 114, 111, 34]⟩, .agg #[.int .i64 1, .int .i64 (0), .string ⟨#[]⟩, .bool false, .int .i64 0], .string ⟨#[122, 101, 114, 111]⟩] W fun e w' => e = .returned (.bool true) ∧ Below W.heap.size W w') := fun W h => is_yes app_7 W (hw.below h) (by decide) (by decide)
  have H8 : Hid (∀ W : World, Below w.heap.size w W → Calls Tryz.prog 22 #[.string ⟨#[48, 44]⟩] W fun e w' => e = .returned (.int .i64 5) ∧ Below W.heap.size W w') := fun W h => by have := Check_any [48, 44] W (by decide) (hw.below h).cell; rwa [check_8] at this
  have H9 : Hid (∀ W : World, Below w.heap.size w W → Calls Tryz.prog 23 #[.string ⟨#[34, 120, 34]⟩] W fun e w' => e = .returned (.bool true) ∧ Below W.heap.size W w') := fun W h => by have := Plain_any [34, 120, 34] W (by decide) (hw.below h).cell; rwa [plain_9] at this
  clear hw
  go_enter Tryz.func6, Tryz.ntmps6
  have hB0 := hide (Below.refl w.heap.size w)
  go_wp2_with (first | (go_at_call 20; refine (HN.out _ _).mono ?_; rintro e wz ⟨rfl, hz⟩) | (go_at_call 21; refine (HX.out _ _).mono ?_; rintro e wz ⟨rfl, hz⟩) | (go_at_call 19; have hC7 := up hB6.out hz; refine (H7.out _ hC7).mono ?_; rintro e w7 ⟨rfl, hb7⟩; have hB7 := hide (up hC7 hb7); clear hb7 hz hC7) | (go_at_call 19; have hC6 := up hB5.out hz; refine (H6.out _ hC6).mono ?_; rintro e w6 ⟨rfl, hb6⟩; have hB6 := hide (up hC6 hb6); clear hb6 hz hC6) | (go_at_call 19; have hC5 := up hB4.out hz; refine (H5.out _ hC5).mono ?_; rintro e w5 ⟨rfl, hb5⟩; have hB5 := hide (up hC5 hb5); clear hb5 hz hC5) | (go_at_call 19; have hC4 := up hB3.out hz; refine (H4.out _ hC4).mono ?_; rintro e w4 ⟨rfl, hb4⟩; have hB4 := hide (up hC4 hb4); clear hb4 hz hC4) | (go_at_call 19; have hC3 := up hB2.out hz; refine (H3.out _ hC3).mono ?_; rintro e w3 ⟨rfl, hb3⟩; have hB3 := hide (up hC3 hb3); clear hb3 hz hC3) | (go_at_call 19; have hC2 := up hB1.out hz; refine (H2.out _ hC2).mono ?_; rintro e w2 ⟨rfl, hb2⟩; have hB2 := hide (up hC2 hb2); clear hb2 hz hC2) | (go_at_call 19; have hC1 := up hB0.out hz; refine (H1.out _ hC1).mono ?_; rintro e w1 ⟨rfl, hb1⟩; have hB1 := hide (up hC1 hb1); clear hb1 hz hC1) | (go_at_call 22; refine (H8.out _ hB7.out).mono ?_; rintro e w8 ⟨rfl, hb8⟩; have hB8 := hide (up hB7.out hb8); clear hb8) | (go_at_call 23; refine (H9.out _ hB8.out).mono ?_; rintro e w9 ⟨rfl, hb9⟩))
  go_ret
  exact ⟨rfl, up hB8.out hb9⟩
end Go.Proofs.YtnhaapcpklfkpaaGreatDoor
