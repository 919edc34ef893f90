/-
  What the law's fits and lives tell.
-/
import Derived.Test.YtpghgjibpbimeaaGreatDoorCr7
namespace Go.Proofs.YtpghgjibpbimeaaGreatDoor
open Go.RowKit
set_option linter.unusedSimpArgs false

/-- What calls of this layer ask of the world. -/
structure EnvK (w : World) : Prop where
  signs : CSignsOk w
  cell : CellOk w
  names : NamesOk w
theorem EnvK.below {w w' : World} (h : EnvK w) (k : Below w.heap.size w w') : EnvK w' := ⟨csigns_below h.signs k, cellOk_below h.cell k, names_below h.names k⟩
theorem ltext_any (s : ByteArray) (w : World) : Calls Tryz.prog 20 #[.string s] w fun e w' => e = .returned (.agg #[.int .i64 2, .int .i64 0, .string s, .bool false, .int .i64 0]) ∧ Below w.heap.size w w' := by
  go_enter Tryz.func20, Tryz.ntmps20
  go_wp2
  refine bodyPost_ret (v := .agg #[.int .i64 2, .int .i64 0, .string s, .bool false, .int .i64 0]) (by simp [results, Tryz.results20, go_sem]) rfl ⟨rfl, ?_⟩
  repeat' (first | with_reducible exact Below.refl _ _ | with_reducible refine Below.setCell ?_ ?_ _ | with_reducible refine Below.alloc ?_ ?_ _ | with_reducible refine below_drewN ?_ _ | with_reducible refine Below.drew ?_ | with_reducible refine Below.trans ?_ (Below.mono (by assumption) ?_) | with_reducible exact Nat.le_refl _ | with_reducible refine Nat.le_trans ?_ (Below.size (by assumption)) | with_reducible refine Nat.le_trans ?_ (size_alloc _ _) | with_reducible refine Nat.le_trans ?_ (size_set _ _ _) | with_reducible refine Nat.le_trans ?_ (size_drewN _ _) | with_reducible refine Nat.le_trans ?_ (size_drew _) | (simp; done) | (simp; omega) | omega)
theorem lnumber_any (n : Int) (w : World) : Calls Tryz.prog 19 #[.int .i64 n] w fun e w' => e = .returned (.agg #[.int .i64 1, .int .i64 n, .string ⟨#[]⟩, .bool false, .int .i64 0]) ∧ Below w.heap.size w w' := by
  go_enter Tryz.func19, Tryz.ntmps19
  go_wp2
  refine bodyPost_ret (v := .agg #[.int .i64 1, .int .i64 n, .string ⟨#[]⟩, .bool false, .int .i64 0]) (by simp [results, Tryz.results19, go_sem]) rfl ⟨rfl, ?_⟩
  repeat' (first | with_reducible exact Below.refl _ _ | with_reducible refine Below.setCell ?_ ?_ _ | with_reducible refine Below.alloc ?_ ?_ _ | with_reducible refine below_drewN ?_ _ | with_reducible refine Below.drew ?_ | with_reducible refine Below.trans ?_ (Below.mono (by assumption) ?_) | with_reducible exact Nat.le_refl _ | with_reducible refine Nat.le_trans ?_ (Below.size (by assumption)) | with_reducible refine Nat.le_trans ?_ (size_alloc _ _) | with_reducible refine Nat.le_trans ?_ (size_set _ _ _) | with_reducible refine Nat.le_trans ?_ (size_drewN _ _) | with_reducible refine Nat.le_trans ?_ (size_drew _) | (simp; done) | (simp; omega) | omega)
/-- Does a value fit the criterion that a text means? -/
def fitsL (s : ByteArray) (k' n' : Int) (s' : ByteArray) (b' : Bool) (c' : Int) : Bool :=
  decide ((ofR 2 0 s false 0).2.2 = 0) && fitsR (ofR 2 0 s false 0).1 (ofR 2 0 s false 0).2.1.k (ofR 2 0 s false 0).2.1.n ⟨(ofR 2 0 s false 0).2.1.s.toArray⟩ (ofR 2 0 s false 0).2.1.b (ofR 2 0 s false 0).2.1.c k' n' s' b' c'
set_option maxHeartbeats 2000000 in
theorem lfits_any (s : ByteArray) (k' n' : Int) (s' : ByteArray) (b' : Bool) (c' : Int) (R : Bool) (hR : fitsL s k' n' s' b' c' = R) (h0 : (ofR 2 0 s false 0).2.2 = 0) (hl : (ofR 2 0 s false 0).2.1.s.length ≤ 1000) (w : World) (h : EnvK w) (hz : s.size ≤ 1000) (hz' : s'.size ≤ maxLen) :
    Calls Tryz.prog 18 #[.string s, .agg #[.int .i64 k', .int .i64 n', .string s', .bool b', .int .i64 c']] w fun e w' => e = .returned (.bool R) ∧ Below w.heap.size w w' := by
  have HX : Hid (∀ W : World, Calls Tryz.prog 20 #[.string s] W fun e w' => e = .returned (.agg #[.int .i64 2, .int .i64 0, .string s, .bool false, .int .i64 0]) ∧ Below W.heap.size W w') := fun W => ltext_any s W
  have HO : Hid (∀ W : World, Below w.heap.size w W → Calls Tryz.prog 34 #[.agg #[.int .i64 2, .int .i64 0, .string s, .bool false, .int .i64 0]] W fun e w' => e = .returned (.tuple #[critV (ofR 2 0 s false 0).1 (ofR 2 0 s false 0).2.1, .int .i64 (ofR 2 0 s false 0).2.2]) ∧ Below W.heap.size W w') := fun W hW => Of_any 2 0 s false 0 W (h.below hW).signs (h.below hW).cell (h.below hW).names (by unfold maxLen; omega)
  unfold fitsL at hR
  rw [h0, decide_eq_true rfl, Bool.true_and] at hR
  rw [h0] at HO
  generalize (ofR 2 0 s false 0).1 = g at *
  generalize (ofR 2 0 s false 0).2.1 = v at *
  obtain ⟨k, n, u, b, c⟩ := v
  simp only [critV] at *
  have hsz : (⟨u.toArray⟩ : ByteArray).size = u.length := by show u.toArray.size = _; simp
  have HF : Hid (∀ W : World, Below w.heap.size w W → Calls Tryz.prog 35 #[.agg #[.string ⟨g.toArray⟩, .int .i64 k, .int .i64 n, .string ⟨u.toArray⟩, .bool b, .int .i64 c], .agg #[.int .i64 k', .int .i64 n', .string s', .bool b', .int .i64 c']] W fun e w' => e = .returned (.bool R) ∧ Below W.heap.size W w') := fun W hW => by
    have := Fits_any ⟨g.toArray⟩ k n ⟨u.toArray⟩ b c k' n' s' b' c' W (h.below hW).signs (by rw [hsz]; unfold maxLen; omega) hz'
    rw [show (⟨g.toArray⟩ : ByteArray).data.toList = g by simp, hR] at this
    exact this
  clear h hR h0 hl hz hz' hsz
  generalize (⟨u.toArray⟩ : ByteArray) = U at *
  generalize (⟨g.toArray⟩ : ByteArray) = G at *
  go_enter Tryz.func18, Tryz.ntmps18
  go_wp2_with (first | (go_at_call 20; refine (HX.out _).mono ?_; rintro e w1 ⟨rfl, hb_w1⟩; obtain ⟨c_w1, f_w1⟩ := bcell hb_w1; have z_w1 := hb_w1.size; (try simp at z_w1); have y_w1 : w.heap.size < w1.heap.size := (by omega)) | (go_at_call 34; refine (HO.out _ (by repeat' (first | with_reducible exact Below.refl _ _ | with_reducible refine Below.setCell ?_ ?_ _ | with_reducible refine Below.alloc ?_ ?_ _ | with_reducible refine below_drewN ?_ _ | with_reducible refine Below.drew ?_ | with_reducible refine Below.trans ?_ (Below.mono (by assumption) ?_) | with_reducible exact Nat.le_refl _ | with_reducible refine Nat.le_trans ?_ (Below.size (by assumption)) | with_reducible refine Nat.le_trans ?_ (size_alloc _ _) | with_reducible refine Nat.le_trans ?_ (size_set _ _ _) | with_reducible refine Nat.le_trans ?_ (size_drewN _ _) | with_reducible refine Nat.le_trans ?_ (size_drew _) | (simp; done) | (simp; omega) | omega))).mono ?_; rintro e w2 ⟨rfl, hb_w2⟩; obtain ⟨c_w2, f_w2⟩ := bcell hb_w2; have z_w2 := hb_w2.size; (try simp at z_w2); have y_w2 : w.heap.size < w2.heap.size := (by omega)) | (go_at_call 35; refine (HF.out _ (by repeat' (first | with_reducible exact Below.refl _ _ | with_reducible refine Below.setCell ?_ ?_ _ | with_reducible refine Below.alloc ?_ ?_ _ | with_reducible refine below_drewN ?_ _ | with_reducible refine Below.drew ?_ | with_reducible refine Below.trans ?_ (Below.mono (by assumption) ?_) | with_reducible exact Nat.le_refl _ | with_reducible refine Nat.le_trans ?_ (Below.size (by assumption)) | with_reducible refine Nat.le_trans ?_ (size_alloc _ _) | with_reducible refine Nat.le_trans ?_ (size_set _ _ _) | with_reducible refine Nat.le_trans ?_ (size_drewN _ _) | with_reducible refine Nat.le_trans ?_ (size_drew _) | (simp; done) | (simp; omega) | omega))).mono ?_; rintro e w3 ⟨rfl, hb_w3⟩; obtain ⟨c_w3, f_w3⟩ := bcell hb_w3; have z_w3 := hb_w3.size))
  go_ret
  refine ⟨rfl, ?_⟩
  repeat' (first | with_reducible exact Below.refl _ _ | with_reducible refine Below.setCell ?_ ?_ _ | with_reducible refine Below.alloc ?_ ?_ _ | with_reducible refine below_drewN ?_ _ | with_reducible refine Below.drew ?_ | with_reducible refine Below.trans ?_ (Below.mono (by assumption) ?_) | with_reducible exact Nat.le_refl _ | with_reducible refine Nat.le_trans ?_ (Below.size (by assumption)) | with_reducible refine Nat.le_trans ?_ (size_alloc _ _) | with_reducible refine Nat.le_trans ?_ (size_set _ _ _) | with_reducible refine Nat.le_trans ?_ (size_drewN _ _) | with_reducible refine Nat.le_trans ?_ (size_drew _) | (simp; done) | (simp; omega) | omega)
theorem ex_0 : fitsL ⟨#[62, 61, 53]⟩ 1 7000000 ⟨#[]⟩ false 0 = true := by kernel_rfl
theorem of_0 : (ofR 2 0 ⟨#[62, 61, 53]⟩ false 0).2.2 = 0 := by kernel_rfl
theorem ol_0 : (ofR 2 0 ⟨#[62, 61, 53]⟩ false 0).2.1.s.length = 0 := by kernel_rfl
theorem ex_1 : fitsL ⟨#[62, 61, 53]⟩ 2 0 ⟨#[55]⟩ false 0 = false := by kernel_rfl
theorem ex_2 : fitsL ⟨#[97, 42]⟩ 2 0 ⟨#[65, 98, 99]⟩ false 0 = true := by kernel_rfl
theorem of_2 : (ofR 2 0 ⟨#[97, 42]⟩ false 0).2.2 = 0 := by kernel_rfl
theorem ol_2 : (ofR 2 0 ⟨#[97, 42]⟩ false 0).2.1.s.length = 2 := by kernel_rfl
theorem ex_3 : fitsL ⟨#[97, 126, 42]⟩ 2 0 ⟨#[97, 42]⟩ false 0 = true := by kernel_rfl
theorem of_3 : (ofR 2 0 ⟨#[97, 126, 42]⟩ false 0).2.2 = 0 := by kernel_rfl
theorem ol_3 : (ofR 2 0 ⟨#[97, 126, 42]⟩ false 0).2.1.s.length = 3 := by kernel_rfl
theorem ex_4 : fitsL ⟨#[97, 126, 42]⟩ 2 0 ⟨#[97, 98]⟩ false 0 = false := by kernel_rfl
theorem ex_5 : fitsL ⟨#[60, 62, 120]⟩ 0 0 ⟨#[]⟩ false 0 = true := by kernel_rfl
theorem of_5 : (ofR 2 0 ⟨#[60, 62, 120]⟩ false 0).2.2 = 0 := by kernel_rfl
theorem ol_5 : (ofR 2 0 ⟨#[60, 62, 120]⟩ false 0).2.1.s.length = 1 := by kernel_rfl
theorem ex_6 : fitsL ⟨#[60, 62, 120]⟩ 2 0 ⟨#[88]⟩ false 0 = false := by kernel_rfl
theorem like_e : likeR [63, 98, 42] [97, 98, 99] = true := by kernel_rfl
theorem wild_1 : wildB (stepsR (foldL [97, 63])) = true := by kernel_rfl
theorem wild_2 : wildB (stepsR (foldL [97, 126, 63])) = false := by kernel_rfl
set_option maxRecDepth 100000 in
set_option maxHeartbeats 2000000 in
theorem lives13_any (w : World) (hw : EnvK w) : Calls Tryz.prog 7 #[] w fun e w' => e = .returned (.bool true) ∧ Below w.heap.size w w' := by
  have HN : Hid (∀ (n : Int) (W : World), Calls Tryz.prog 19 #[.int .i64 n] W fun e w' => e = .returned (.agg #[.int .i64 1, .int .i64 n, .string ⟨#[]⟩, .bool false, .int .i64 0]) ∧ Below W.heap.size W w') := hide lnumber_any
  have HX : Hid (∀ (s : ByteArray) (W : World), Calls Tryz.prog 20 #[.string s] W fun e w' => e = .returned (.agg #[.int .i64 2, .int .i64 0, .string s, .bool false, .int .i64 0]) ∧ Below W.heap.size W w') := hide ltext_any
  have H0 : Hid (∀ W : World, Below w.heap.size w W → Calls Tryz.prog 18 #[.string ⟨#[62, 61, 53]⟩, .agg #[.int .i64 1, .int .i64 7000000, .string ⟨#[]⟩, .bool false, .int .i64 0]] W fun e w' => e = .returned (.bool true) ∧ Below W.heap.size W w') := fun W h => lfits_any _ _ _ _ _ _ _ ex_0 of_0 (by rw [ol_0]; decide) W (hw.below h) (by decide) (by decide)
  have H1 : Hid (∀ W : World, Below w.heap.size w W → Calls Tryz.prog 18 #[.string ⟨#[62, 61, 53]⟩, .agg #[.int .i64 2, .int .i64 0, .string ⟨#[55]⟩, .bool false, .int .i64 0]] W fun e w' => e = .returned (.bool false) ∧ Below W.heap.size W w') := fun W h => lfits_any _ _ _ _ _ _ _ ex_1 of_0 (by rw [ol_0]; decide) W (hw.below h) (by decide) (by decide)
  have H2 : Hid (∀ W : World, Below w.heap.size w W → Calls Tryz.prog 18 #[.string ⟨#[97, 42]⟩, .agg #[.int .i64 2, .int .i64 0, .string ⟨#[65, 98, 99]⟩, .bool false, .int .i64 0]] W fun e w' => e = .returned (.bool true) ∧ Below W.heap.size W w') := fun W h => lfits_any _ _ _ _ _ _ _ ex_2 of_2 (by rw [ol_2]; decide) W (hw.below h) (by decide) (by decide)
  have H3 : Hid (∀ W : World, Below w.heap.size w W → Calls Tryz.prog 18 #[.string ⟨#[97, 126, 42]⟩, .agg #[.int .i64 2, .int .i64 0, .string ⟨#[97, 42]⟩, .bool false, .int .i64 0]] W fun e w' => e = .returned (.bool true) ∧ Below W.heap.size W w') := fun W h => lfits_any _ _ _ _ _ _ _ ex_3 of_3 (by rw [ol_3]; decide) W (hw.below h) (by decide) (by decide)
  have H4 : Hid (∀ W : World, Below w.heap.size w W → Calls Tryz.prog 18 #[.string ⟨#[97, 126, 42]⟩, .agg #[.int .i64 2, .int .i64 0, .string ⟨#[97, 98]⟩, .bool false, .int .i64 0]] W fun e w' => e = .returned (.bool false) ∧ Below W.heap.size W w') := fun W h => lfits_any _ _ _ _ _ _ _ ex_4 of_3 (by rw [ol_3]; decide) W (hw.below h) (by decide) (by decide)
  have H5 : Hid (∀ W : World, Below w.heap.size w W → Calls Tryz.prog 18 #[.string ⟨#[60, 62, 120]⟩, .agg #[.int .i64 0, .int .i64 0, .string ⟨#[]⟩, .bool false, .int .i64 0]] W fun e w' => e = .returned (.bool true) ∧ Below W.heap.size W w') := fun W h => lfits_any _ _ _ _ _ _ _ ex_5 of_5 (by rw [ol_5]; decide) W (hw.below h) (by decide) (by decide)
  have H6 : Hid (∀ W : World, Below w.heap.size w W → Calls Tryz.prog 18 #[.string ⟨#[60, 62, 120]⟩, .agg #[.int .i64 2, .int .i64 0, .string ⟨#[88]⟩, .bool false, .int .i64 0]] W fun e w' => e = .returned (.bool false) ∧ Below W.heap.size W w') := fun W h => lfits_any _ _ _ _ _ _ _ ex_6 of_5 (by rw [ol_5]; decide) W (hw.below h) (by decide) (by decide)
  have HK : Hid (∀ W : World, Calls Tryz.prog 21 #[.string ⟨#[63, 98, 42]⟩, .string ⟨#[97, 98, 99]⟩] W fun e w' => e = .returned (.bool true) ∧ Below W.heap.size W w') := fun W => by have := Like_any ⟨#[63, 98, 42]⟩ ⟨#[97, 98, 99]⟩ W (by decide) (by decide); rwa [show likeR (⟨#[63, 98, 42]⟩ : ByteArray).data.toList (⟨#[97, 98, 99]⟩ : ByteArray).data.toList = true from like_e] at this
  have HW1 : Hid (∀ W : World, Calls Tryz.prog 22 #[.string ⟨#[97, 63]⟩] W fun e w' => e = .returned (.bool true) ∧ Below W.heap.size W w') := fun W => by have := Wild_any ⟨#[97, 63]⟩ W (by decide); rwa [show wildB (stepsR (foldL (⟨#[97, 63]⟩ : ByteArray).data.toList)) = true from wild_1] at this
  have HW2 : Hid (∀ W : World, Calls Tryz.prog 22 #[.string ⟨#[97, 126, 63]⟩] W fun e w' => e = .returned (.bool false) ∧ Below W.heap.size W w') := fun W => by have := Wild_any ⟨#[97, 126, 63]⟩ W (by decide); rwa [show wildB (stepsR (foldL (⟨#[97, 126, 63]⟩ : ByteArray).data.toList)) = false from wild_2] at this
  clear hw
  have HB := hide (Below.refl w.heap.size w)
  go_enter Tryz.func7, Tryz.ntmps7
  go_wp2_with (first | (go_at_call 19; refine (HN.out _ _).mono ?_; rintro e wz ⟨rfl, hz⟩; replace HB := hide (upR HB.out hz); clear hz) | (go_at_call 20; refine (HX.out _ _).mono ?_; rintro e wz ⟨rfl, hz⟩; replace HB := hide (upR HB.out hz); clear hz) | (go_at_call 18; refine (H0.out _ HB.out).mono ?_; rintro e wz ⟨rfl, hz⟩; replace HB := hide (upR HB.out hz); clear hz H0) | (go_at_call 18; refine (H1.out _ HB.out).mono ?_; rintro e wz ⟨rfl, hz⟩; replace HB := hide (upR HB.out hz); clear hz H1) | (go_at_call 18; refine (H2.out _ HB.out).mono ?_; rintro e wz ⟨rfl, hz⟩; replace HB := hide (upR HB.out hz); clear hz H2) | (go_at_call 18; refine (H3.out _ HB.out).mono ?_; rintro e wz ⟨rfl, hz⟩; replace HB := hide (upR HB.out hz); clear hz H3) | (go_at_call 18; refine (H4.out _ HB.out).mono ?_; rintro e wz ⟨rfl, hz⟩; replace HB := hide (upR HB.out hz); clear hz H4) | (go_at_call 18; refine (H5.out _ HB.out).mono ?_; rintro e wz ⟨rfl, hz⟩; replace HB := hide (upR HB.out hz); clear hz H5) | (go_at_call 18; refine (H6.out _ HB.out).mono ?_; rintro e wz ⟨rfl, hz⟩; replace HB := hide (upR HB.out hz); clear hz H6) | (go_at_call 21; refine (HK.out _).mono ?_; rintro e wz ⟨rfl, hz⟩; replace HB := hide (upR HB.out hz); clear hz HK) | (go_at_call 22; refine (HW1.out _).mono ?_; rintro e wz ⟨rfl, hz⟩; replace HB := hide (upR HB.out hz); clear hz HW1) | (go_at_call 22; refine (HW2.out _).mono ?_; rintro e wz ⟨rfl, hz⟩; replace HB := hide (upR HB.out hz); clear hz HW2))
  go_ret
  exact ⟨rfl, HB.out⟩
end Go.Proofs.YtpghgjibpbimeaaGreatDoor
