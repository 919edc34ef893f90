/-
  The contracts of dates' lengthOf, carried, count, Serial and Weekday; the table of lengths; a struct of three numbers in a block.
-/
import Derived.Test.YtlhpplhhdeifhaaDoorDt1
import Derived.Lib.SmallJoins
import Derived.Lib.LaidTab
namespace Go.Proofs.YtlhpplhhdeifhaaDoor
open Go.RowKit

/-- The months' lengths. -/
def lensL : List Int := [31, 28, 31, 30, 31, 30, 31, 31, 30, 31, 30, 31]
/-- The table of lengths lies as it was laid. -/
def LenOk (w : World) : Prop := Lib.TabIs Tryd.prog w "foolscap/dates.lengths" .i64 lensL
theorem gLen : Tryd.prog.globalNamed "foolscap/dates.lengths" = some 0 := by kernel_rfl
theorem len_below {w w' : World} (h : LenOk w) (hb : Below w.heap.size w w') : LenOk w' := Go.Joins.tab_stays gLen h hb (Nat.le_refl _)
theorem len_cell {w : World} (h : LenOk w) {k : Nat} (hk : k < 12) : w.cell? ⟨0, k, none⟩ = some (.int .i64 (lensL.getD k 0)) := by
  rw [World.var?_cell gLen h k]
  have : k = 0 ∨ k = 1 ∨ k = 2 ∨ k = 3 ∨ k = 4 ∨ k = 5 ∨ k = 6 ∨ k = 7 ∨ k = 8 ∨ k = 9 ∨ k = 10 ∨ k = 11 := by omega
  rcases this with rfl | rfl | rfl | rfl | rfl | rfl | rfl | rfl | rfl | rfl | rfl | rfl <;> rfl
theorem lens_other (y : Int) {k : Nat} (hk : k < 12) (h1 : k ≠ 1) : lensL.getD k 0 = lenM y (k + 1) := by
  have : k = 0 ∨ k = 2 ∨ k = 3 ∨ k = 4 ∨ k = 5 ∨ k = 6 ∨ k = 7 ∨ k = 8 ∨ k = 9 ∨ k = 10 ∨ k = 11 := by omega
  rcases this with rfl | rfl | rfl | rfl | rfl | rfl | rfl | rfl | rfl | rfl | rfl <;> rfl
set_option maxHeartbeats 1000000 in
theorem lengthOf_any (y : Int) (k : Nat) (w : World) (hk : k < 12) (ht : LenOk w) :
    Calls Tryd.prog 35 #[.int .i64 y, .int .i64 ((k : Int) + 1)] w fun e w' => e = .returned (.int .i64 (lenM y (k + 1))) ∧ w' = w := by
  have HL : Hid (∀ W : World, Calls Tryd.prog 11 #[.int .i64 y] W fun e w' => e = .returned (.bool (leapB y)) ∧ w' = W) := fun W => leap_any y W
  have hc := len_cell ht hk
  clear ht
  by_cases h1 : k = 1
  · subst h1
    cases h : leapB y
    · rw [h] at HL
      rw [show lenM y (1 + 1) = 28 by simp [lenM, h]]
      rw [show lensL.getD 1 0 = 28 from rfl] at hc
      clear h
      go_enter Tryd.func35, Tryd.ntmps35
      go_wp2_with (go_at_call 11; refine (HL.out _).mono ?_; rintro e w' ⟨rfl, rfl⟩)
      go_ret
      exact ⟨rfl, rfl⟩
    · rw [h] at HL
      rw [show lenM y (1 + 1) = 29 by simp [lenM, h]]
      rw [show lensL.getD 1 0 = 28 from rfl] at hc
      clear h
      go_enter Tryd.func35, Tryd.ntmps35
      go_wp2_with (go_at_call 11; refine (HL.out _).mono ?_; rintro e w' ⟨rfl, rfl⟩)
      go_ret
      exact ⟨rfl, rfl⟩
  · rw [lens_other y hk h1] at hc
    generalize lenM y (k + 1) = L at *
    have e1 : ((k : Int) + 1 == 2) = false := by rw [beq_eq_false_iff_ne]; omega
    have i1 : (0 : Int) ≤ (k : Int) := by omega
    have i2 : (k : Int) < 12 := by omega
    clear h1 hk HL
    go_enter Tryd.func35, Tryd.ntmps35
    go_wp2
    go_ret
    exact ⟨rfl, rfl⟩
/-- Three numbers lie in a block. -/
def At3 (w : World) (b : Nat) (x y z : Int) : Prop := b < w.heap.size ∧ w.cell? ⟨b, 0, none⟩ = some (.int .i64 x) ∧ w.cell? ⟨b, 1, none⟩ = some (.int .i64 y) ∧ w.cell? ⟨b, 2, none⟩ = some (.int .i64 z)
/-- .. that may be written. -/
def Has3 (w : World) (b : Nat) (x y z : Int) : Prop := At3 w b x y z ∧ w.frozen? ⟨b, 0, none⟩ = false ∧ w.frozen? ⟨b, 1, none⟩ = false ∧ w.frozen? ⟨b, 2, none⟩ = false
theorem Has3.new (w : World) (x y z : Int) (t : TypeId) : Has3 (w.alloc (.cells #[.int .i64 x, .int .i64 y, .int .i64 z] t)) w.heap.size x y z := ⟨⟨by simp, by simp [go_sem], by simp [go_sem], by simp [go_sem]⟩, by simp, by simp, by simp⟩
theorem At3.below {w w' : World} {b : Nat} {x y z : Int} (h : At3 w b x y z) (k : Below w.heap.size w w') : At3 w' b x y z :=
  ⟨Nat.lt_of_lt_of_le h.1 k.size, by rw [k.cell (p := ⟨b, 0, none⟩) h.1]; exact h.2.1, by rw [k.cell (p := ⟨b, 1, none⟩) h.1]; exact h.2.2.1, by rw [k.cell (p := ⟨b, 2, none⟩) h.1]; exact h.2.2.2⟩
theorem Has3.below {w w' : World} {b : Nat} {x y z : Int} (h : Has3 w b x y z) (k : Below w.heap.size w w') : Has3 w' b x y z :=
  ⟨h.1.below k, by rw [k.frozen (p := ⟨b, 0, none⟩) h.1.1]; exact h.2.1, by rw [k.frozen (p := ⟨b, 1, none⟩) h.1.1]; exact h.2.2.1, by rw [k.frozen (p := ⟨b, 2, none⟩) h.1.1]; exact h.2.2.2⟩
theorem Has3.drew {w : World} {b : Nat} {x y z : Int} (h : Has3 w b x y z) : Has3 w.drew b x y z := h.below (Below.refl _ _).drew
theorem Has3.alloc {w : World} {b : Nat} {x y z : Int} (h : Has3 w b x y z) (o : Obj) : Has3 (w.alloc o) b x y z := h.below ((Below.refl _ _).alloc (Nat.le_refl _) o)
/-- Three numbers lie in a block; all that was there at the start is as it was. -/
def S3 (w0 : World) (b : Nat) (x y z : Int) (w' : World) : Prop := w'.cell? ⟨b, 0, none⟩ = some (.int .i64 x) ∧ w'.cell? ⟨b, 1, none⟩ = some (.int .i64 y) ∧ w'.cell? ⟨b, 2, none⟩ = some (.int .i64 z) ∧ b < w'.heap.size ∧ Below w0.heap.size w0 w'
theorem S3.below {w0 w w' : World} {b : Nat} {x y z : Int} (h : S3 w0 b x y z w) (k : Below w.heap.size w w') : S3 w0 b x y z w' :=
  have ⟨h0, h1, h2, h3, h4⟩ := h
  ⟨by rw [k.cell (p := ⟨b, 0, none⟩) h3]; exact h0, by rw [k.cell (p := ⟨b, 1, none⟩) h3]; exact h1, by rw [k.cell (p := ⟨b, 2, none⟩) h3]; exact h2, Nat.lt_of_lt_of_le h3 k.size, h4.trans (k.mono h4.size)⟩
theorem S3.drew {w0 w : World} {b : Nat} {x y z : Int} (h : S3 w0 b x y z w) : S3 w0 b x y z w.drew := h.below (Below.refl _ _).drew
theorem Has3.s3 {w0 w : World} {b : Nat} {x y z : Int} (h : Has3 w b x y z) (k : Below w0.heap.size w0 w) : S3 w0 b x y z w := ⟨h.1.2.1, h.1.2.2.1, h.1.2.2.2, h.1.1, k⟩
theorem Has3.store {w : World} {b : Nat} {x y z : Int} (h : Has3 w b x y z) (x' y' z' : Int) : Has3 (((w.setCell ⟨b, 0, none⟩ (.int .i64 x')).setCell ⟨b, 1, none⟩ (.int .i64 y')).setCell ⟨b, 2, none⟩ (.int .i64 z')) b x' y' z' := by
  obtain ⟨⟨h0, h1, h2, h3⟩, f0, f1, f2⟩ := h
  refine ⟨⟨by simpa using h0, ?_, ?_, ?_⟩, ?_, ?_, ?_⟩ <;> simp [go_sem, *]
theorem below_store {w0 w : World} {b B : Nat} (k : Below B w0 w) (hb : B ≤ b) (x y z : Value) : Below B w0 (((w.setCell ⟨b, 0, none⟩ x).setCell ⟨b, 1, none⟩ y).setCell ⟨b, 2, none⟩ z) :=
  Below.setCell (Below.setCell (Below.setCell k hb _) hb _) hb _
set_option maxHeartbeats 1000000 in
theorem carried_any (y m d : Int) (w : World) (h1 : -100000 ≤ y) (h2 : y ≤ 100000) (h3 : -1000000 ≤ m) (h4 : m ≤ 1000000) :
    Calls Tryd.prog 34 #[.agg #[.int .i64 y, .int .i64 m, .int .i64 d]] w fun e w' => e = .returned (.agg #[.int .i64 (y + (m - 1) / 12), .int .i64 ((m - 1) % 12 + 1), .int .i64 d]) ∧ Below w.heap.size w w' := by
  have HP : Hid (∀ W : World, Calls Tryd.prog 41 #[.int .i64 (m - 1), .int .i64 12] W fun e w' => e = .returned (.tuple #[.int .i64 ((m - 1) / 12), .int .i64 ((m - 1) % 12)]) ∧ w' = W.drew) := fun W => parted_any (m - 1) 12 W (by omega) (by omega) (by decide) (by decide)
  have a1 : -100000 ≤ (m - 1) / 12 := by omega
  have a2 : (m - 1) / 12 ≤ 100000 := by omega
  have a3 : 0 ≤ (m - 1) % 12 := by omega
  have a4 : (m - 1) % 12 < 12 := by omega
  generalize (m - 1) / 12 = A at *
  generalize (m - 1) % 12 = B at *
  go_enter Tryd.func34, Tryd.ntmps34
  go_wp2_with (go_at_call 41; refine (HP.out _).mono ?_; rintro e w1 ⟨rfl, rfl⟩)
  refine bodyPost_ret (v := .agg #[.int .i64 (y + A), .int .i64 (B + 1), .int .i64 d]) (by simp [results, Tryd.results34, go_sem]) rfl ⟨rfl, ?_⟩
  repeat' (first | with_reducible exact Below.refl _ _ | with_reducible refine Below.setCell ?_ ?_ _ | with_reducible refine Below.alloc ?_ ?_ _ | with_reducible refine below_drewN ?_ _ | with_reducible refine Below.drew ?_ | with_reducible refine Below.trans ?_ (Below.mono (by assumption) ?_) | with_reducible exact Nat.le_refl _ | with_reducible refine Nat.le_trans ?_ (Below.size (by assumption)) | with_reducible refine Nat.le_trans ?_ (size_alloc _ _) | with_reducible refine Nat.le_trans ?_ (size_set _ _ _) | with_reducible refine Nat.le_trans ?_ (size_drewN _ _) | with_reducible refine Nat.le_trans ?_ (size_drew _) | (simp; done) | (simp; omega) | omega)
set_option maxHeartbeats 2000000 in
theorem count_any (y m d : Int) (w : World) (h1 : -20000 ≤ y) (h2 : y ≤ 20000) (h3 : -300000 ≤ m) (h4 : m ≤ 300000) (h5 : -300000 ≤ d) (h6 : d ≤ 300000) (ht : LenOk w) :
    Calls Tryd.prog 26 #[.agg #[.int .i64 y, .int .i64 m, .int .i64 d]] w fun e w' => e = .returned (.int .i64 (countR y m d)) ∧ Below w.heap.size w w' := by
  have HT := hide ht
  clear ht
  have HC : Hid (∀ W : World, Calls Tryd.prog 34 #[.agg #[.int .i64 y, .int .i64 m, .int .i64 d]] W fun e w' => e = .returned (.agg #[.int .i64 (y + (m - 1) / 12), .int .i64 ((m - 1) % 12 + 1), .int .i64 d]) ∧ Below W.heap.size W w') := fun W => carried_any y m d W (by omega) (by omega) (by omega) (by omega)
  have HD : Hid (∀ W : World, Calls Tryd.prog 38 #[.int .i64 (y + (m - 1) / 12)] W fun e w' => e = .returned (.int .i64 (dA (y + (m - 1) / 12))) ∧ Below W.heap.size W w') := fun W => daysAhead_any (y + (m - 1) / 12) W (by omega) (by omega)
  have b0 := dA_bd (y + (m - 1) / 12) (by omega) (by omega)
  unfold countR
  generalize y + (m - 1) / 12 = Y at *
  obtain ⟨K, hK, hK'⟩ : ∃ K : Nat, (m - 1) % 12 = (K : Int) ∧ K < 12 := ⟨((m - 1) % 12).toNat, by omega, by omega⟩
  rw [hK] at HC ⊢
  rw [Int.toNat_natCast]
  clear hK h1 h2 h3 h4
  generalize dA Y = D at *
  obtain ⟨b1, b2⟩ := b0
  have v1 : IntKind.i64.wrap (D + d) = D + d := by rw [IntKind.wrap_i64]; omega
  go_enter Tryd.func26, Tryd.ntmps26
  go_wp2_with (go_at_call 34; refine (HC.out _).mono ?_; rintro e w1 ⟨rfl, hb1⟩; have ⟨⟨z1, c0, c1, c2⟩, f0, f1, f2⟩ := (Has3.new w y m d 47).below hb1)
  have HS := hide (((Has3.new w y m d 47).below hb1).store Y ((K : Int) + 1) d |>.s3 (below_store (((Below.refl _ _).alloc (Nat.le_refl _) _).trans (hb1.mono (size_alloc _ _))) (Nat.le_refl _) _ _ _))
  obtain ⟨w2, hw2⟩ : ∃ w2 : World, w2 = (((w1.setCell ⟨w.heap.size, 0, none⟩ (.int .i64 Y)).setCell ⟨w.heap.size, 1, none⟩ (.int .i64 ((K : Int) + 1))).setCell ⟨w.heap.size, 2, none⟩ (.int .i64 d)) := ⟨_, rfl⟩
  rw [← hw2]
  rw [← hw2] at HS
  clear hw2 z1 c0 c1 c2 f0 f1 f2 hb1
  go_region_held3 (fun w' => w'.cell? ⟨w.heap.size, 0, none⟩ = some (.int .i64 Y) ∧ w'.cell? ⟨w.heap.size, 1, none⟩ = some (.int .i64 ((K : Int) + 1)) ∧ w'.cell? ⟨w.heap.size, 2, none⟩ = some (.int .i64 d) ∧ w.heap.size < w'.heap.size ∧ Below w.heap.size w w') (first | exact HS.out | assumption | exact S3.drew (by assumption)) (first | (go_at_call 38; refine (HD.out _).mono ?_; rintro e w3 ⟨rfl, hb3⟩; have hs3 := S3.below (by assumption) hb3))
  go_wp2
  clear HC HD HS
  go_loopw [3, 4] (fun sv mv wr => ∃ j : Nat, j ≤ K ∧ mv = .int .i64 ((j : Int) + 1) ∧ sv = .int .i64 (D + d + cum Y j) ∧ S3 w w.heap.size Y ((K : Int) + 1) d wr) (fun _ mv _ => K + 1 - (intOf mv).toNat)
  case atStart => exact ⟨0, Nat.zero_le _, rfl, by simp [cum], hs3⟩
  case round =>
    obtain ⟨j, hj, rfl, rfl, hs⟩ := hrel
    obtain ⟨c0, c1, c2, z, hB⟩ := hs
    have q1 := cum_le Y j
    by_cases hlt : j < K
    · have HLo : Hid (∀ W : World, Below wr.heap.size wr W → Calls Tryd.prog 35 #[.int .i64 Y, .int .i64 ((j : Int) + 1)] W fun e w' => e = .returned (.int .i64 (lenM Y (j + 1))) ∧ w' = W) := fun W hW => lengthOf_any Y j W (by omega) (len_below (len_below HT.out hB) hW)
      have HCu : Hid (cum Y (j + 1) = cum Y j + lenM Y (j + 1)) := rfl
      have q2 := len_bd Y (j + 1)
      have l1 : (j : Int) + 1 < (K : Int) + 1 := by omega
      obtain ⟨q3, q4⟩ := q1
      obtain ⟨q5, q6⟩ := q2
      generalize lenM Y (j + 1) = L at *
      generalize cum Y j = C at *
      go_wp2_with (go_at_call 35; refine (HLo.out _ (by repeat' (first | with_reducible exact Below.refl _ _ | with_reducible refine Below.setCell ?_ ?_ _ | with_reducible refine Below.alloc ?_ ?_ _ | with_reducible refine below_drewN ?_ _ | with_reducible refine Below.drew ?_ | with_reducible refine Below.trans ?_ (Below.mono (by assumption) ?_) | with_reducible exact Nat.le_refl _ | with_reducible refine Nat.le_trans ?_ (Below.size (by assumption)) | with_reducible refine Nat.le_trans ?_ (size_alloc _ _) | with_reducible refine Nat.le_trans ?_ (size_set _ _ _) | with_reducible refine Nat.le_trans ?_ (size_drewN _ _) | with_reducible refine Nat.le_trans ?_ (size_drew _) | (simp; done) | (simp; omega) | omega))).mono ?_; rintro e wz ⟨rfl, hz⟩; subst wz)
      go_roundw
      case rel =>
        refine ⟨j + 1, by omega, by go_num, ?_, S3.below ⟨c0, c1, c2, z, hB⟩ (by repeat' (first | with_reducible exact Below.refl _ _ | with_reducible refine Below.setCell ?_ ?_ _ | with_reducible refine Below.alloc ?_ ?_ _ | with_reducible refine below_drewN ?_ _ | with_reducible refine Below.drew ?_ | with_reducible refine Below.trans ?_ (Below.mono (by assumption) ?_) | with_reducible exact Nat.le_refl _ | with_reducible refine Nat.le_trans ?_ (Below.size (by assumption)) | with_reducible refine Nat.le_trans ?_ (size_alloc _ _) | with_reducible refine Nat.le_trans ?_ (size_set _ _ _) | with_reducible refine Nat.le_trans ?_ (size_drewN _ _) | with_reducible refine Nat.le_trans ?_ (size_drew _) | (simp; done) | (simp; omega) | omega))⟩
        rw [HCu.out]
        first | go_num | (congr 1; omega)
      case measure => simp [intOf]; omega
    · have l1 : ¬ (j : Int) + 1 < (K : Int) + 1 := by omega
      obtain rfl : j = K := by omega
      have v2 : D + cum Y j + d = D + d + cum Y j := by omega
      go_wp2
      go_ret
      exact ⟨by first | rfl | (congr 2; omega), hB⟩
end Go.Proofs.YtlhpplhhdeifhaaDoor
