/-
  The contracts of dates' number, read and Parse.
-/
import Derived.Test.YtlhpplhhdeifhaaDoorDt6
namespace Go.Proofs.YtlhpplhhdeifhaaDoor
open Go.RowKit

theorem ba_size (l : List UInt8) : (⟨l.toArray⟩ : ByteArray).size = l.length := by show l.toArray.size = _; simp
/-- The number of digits. -/
def decV (l : List UInt8) : Nat := l.foldl (fun n c => n * 10 + (c.toNat - 48)) 0
theorem dec_from : ∀ (l : List UInt8) (acc : Nat), l.all digB = true → Lib.decFrom acc l = some (l.foldl (fun n c => n * 10 + (c.toNat - 48)) acc)
  | [], acc, _ => rfl
  | c :: l, acc, h => by
    simp only [List.all_cons, Bool.and_eq_true] at h
    have h1 := digB_iff.1 h.1
    have : Lib.digitVal c = some (c.toNat - 48) := by unfold Lib.digitVal; rw [if_pos h1]
    rw [Lib.decFrom, this]
    exact dec_from l _ h.2
theorem atoi_dec {l : List UInt8} (h0 : l ≠ []) (h : l.all digB = true) : Lib.atoi l = some (decV l : Int) := by
  rcases l with _ | ⟨c, l⟩
  · exact absurd rfl h0
  · have h' := h
    simp only [List.all_cons, Bool.and_eq_true] at h'
    have h1 := digB_iff.1 h'.1
    have e1 : (c == 45) = false := by
      rw [beq_eq_false_iff_ne]; intro e; rw [e] at h1; exact absurd h1.1 (by decide)
    have e2 : (c == 43) = false := by
      rw [beq_eq_false_iff_ne]; intro e; rw [e] at h1; exact absurd h1.1 (by decide)
    have e3 : Lib.decNat (c :: l) = some (decV (c :: l)) := by
      unfold Lib.decNat; exact dec_from _ _ h
    simp only [Lib.atoi, e1, e2, e3]
    rfl
theorem dec_two_le {a b : UInt8} (h1 : digB a = true) (h2 : digB b = true) : decV [a, b] ≤ 99 := by
  have h1 := digB_iff.1 h1
  have h2 := digB_iff.1 h2
  show (0 * 10 + (a.toNat - 48)) * 10 + (b.toNat - 48) ≤ 99
  omega
theorem dec_four_le {a b c d : UInt8} (h1 : digB a = true) (h2 : digB b = true) (h3 : digB c = true) (h4 : digB d = true) : decV [a, b, c, d] ≤ 9999 := by
  have h1 := digB_iff.1 h1
  have h2 := digB_iff.1 h2
  have h3 := digB_iff.1 h3
  have h4 := digB_iff.1 h4
  show (((0 * 10 + (a.toNat - 48)) * 10 + (b.toNat - 48)) * 10 + (c.toNat - 48)) * 10 + (d.toNat - 48) ≤ 9999
  omega
set_option maxHeartbeats 400000 in
theorem number_any (l : List UInt8) (w : World) (h0 : l ≠ []) (hl : l.length ≤ 4) (h : l.all digB = true) :
    Calls Tryd.prog 43 #[.string ⟨l.toArray⟩] w fun e w' => e = .returned (.int .i64 (decV l : Int)) ∧ Below w.heap.size w w' := by
  have HA : Hid (∀ W : World, Calls Tryd.prog 47 #[.string ⟨l.toArray⟩] W fun e w' => e = .returned (.tuple #[.int .i64 (decV l : Int), .nilIface]) ∧ Below W.heap.size W w') := fun W =>
    (Tryd.strconv_Atoi ⟨l.toArray⟩ (decV l) (by rw [ba_size]; omega) (atoi_dec h0 h) W).mono fun e w' ⟨h1, t, h2⟩ => ⟨h1, by rw [h2]; exact Lib.bytesWorld_below _ _ _⟩
  clear h0 hl h
  generalize decV l = v at *
  go_enter Tryd.func43, Tryd.ntmps43
  go_wp2_with (go_at_call 47; refine (HA.out _).mono ?_; rintro e w1 ⟨rfl, hb1⟩)
  go_ret
  exact ⟨rfl, by assumption⟩
/-- Whether a year, a month and a day that were read are a date. -/
def dateB (Y M D : Nat) : Bool := decide (1900 ≤ Y) && decide (1 ≤ M) && decide (M ≤ 12) && decide (1 ≤ D) && decide ((D : Int) ≤ lenM Y M)
theorem dateB_iff {Y M D : Nat} : dateB Y M D = true ↔ 1900 ≤ Y ∧ 1 ≤ M ∧ M ≤ 12 ∧ 1 ≤ D ∧ (D : Int) ≤ lenM Y M := by unfold dateB; simp [and_assoc]
theorem date_is {Y M D : Nat} (h : dateB Y M D = true) (hy : Y ≤ 9999) : DayIs (Y : Int) (M - 1) (D : Int) (countR Y M D) := by
  obtain ⟨h1, h2, h3, h4, h5⟩ := dateB_iff.1 h
  refine ⟨by omega, by omega, by omega, by omega, by rw [show M - 1 + 1 = M by omega]; exact h5, ?_⟩
  have := count_date (Y : Int) (D : Int) (k := M - 1) (by omega)
  rw [show ((M - 1 : Nat) : Int) + 1 = (M : Int) by omega] at this
  exact this
/-- What Parse tells of parts that were read. -/
def parseN (Y M D : Nat) : Int × Int := if dateB Y M D then (countR Y M D, 0) else (0, 3)
/-- What Parse tells. -/
def parseR (l : List UInt8) : Int × Int := if shapeB l then parseN (decV (l.take 4)) (decV ((l.drop 5).take 2)) (decV (l.drop 8)) else (0, 5)
theorem parse_out {Y M D : Nat} (hy : Y ≤ 9999) (h : ¬ (1 ≤ countR Y M D ∧ countR Y M D ≤ 2958464)) : parseN Y M D = (0, 3) := by
  unfold parseN
  cases hd : dateB Y M D
  · rfl
  · exact absurd (date_is hd hy).day h
theorem parse_same {Y M D : Nat} {y : Int} {k : Nat} {d : Int} (h : DayIs y k d (countR Y M D)) (h1 : y = (Y : Int)) (h2 : (k : Int) + 1 = (M : Int)) (h3 : d = (D : Int)) : parseN Y M D = (countR Y M D, 0) := by
  unfold parseN
  have k1 := h.k1
  have y1 := h.y1
  have e1 := h.d1
  have e2 := h.d2
  rw [h1, h3, show k + 1 = M by omega] at e2
  rw [if_pos (dateB_iff.2 ⟨by omega, by omega, by omega, by omega, e2⟩)]
theorem parse_other {Y M D : Nat} {y : Int} {k : Nat} {d : Int} (hy : Y ≤ 9999) (h : DayIs y k d (countR Y M D)) (h1 : ¬ (y = (Y : Int) ∧ (k : Int) + 1 = (M : Int) ∧ d = (D : Int))) : parseN Y M D = (0, 3) := by
  unfold parseN
  cases hd : dateB Y M D
  · rfl
  · obtain ⟨e1, e2, e3⟩ := day_unique h (date_is hd hy)
    have := dateB_iff.1 hd
    exact absurd ⟨e1, by omega, e3⟩ h1
theorem slice_a (b0 b1 b2 b3 b4 b5 b6 b7 b8 b9 : UInt8) : (⟨#[b0, b1, b2, b3, b4, b5, b6, b7, b8, b9]⟩ : ByteArray).extract 0 4 = ⟨[b0, b1, b2, b3].toArray⟩ := rfl
theorem slice_b (b0 b1 b2 b3 b4 b5 b6 b7 b8 b9 : UInt8) : (⟨#[b0, b1, b2, b3, b4, b5, b6, b7, b8, b9]⟩ : ByteArray).extract 5 7 = ⟨[b5, b6].toArray⟩ := rfl
theorem slice_c (b0 b1 b2 b3 b4 b5 b6 b7 b8 b9 : UInt8) : (⟨#[b0, b1, b2, b3, b4, b5, b6, b7, b8, b9]⟩ : ByteArray).extract 8 10 = ⟨[b8, b9].toArray⟩ := rfl
theorem parts_digits {b0 b1 b2 b3 b4 b5 b6 b7 b8 b9 : UInt8} (h : shapeB [b0, b1, b2, b3, b4, b5, b6, b7, b8, b9] = true) : [b0, b1, b2, b3].all digB = true ∧ [b5, b6].all digB = true ∧ [b8, b9].all digB = true := by
  have h0 : digB b0 = true := shape_at h (j := 0) (by decide)
  have h1 : digB b1 = true := shape_at h (j := 1) (by decide)
  have h2 : digB b2 = true := shape_at h (j := 2) (by decide)
  have h3 : digB b3 = true := shape_at h (j := 3) (by decide)
  have h5 : digB b5 = true := shape_at h (j := 5) (by decide)
  have h6 : digB b6 = true := shape_at h (j := 6) (by decide)
  have h8 : digB b8 = true := shape_at h (j := 8) (by decide)
  have h9 : digB b9 = true := shape_at h (j := 9) (by decide)
  exact ⟨by simp [h0, h1, h2, h3], by simp [h5, h6], by simp [h8, h9]⟩
theorem parts_bounds {b0 b1 b2 b3 b4 b5 b6 b7 b8 b9 : UInt8} (h : shapeB [b0, b1, b2, b3, b4, b5, b6, b7, b8, b9] = true) : decV [b0, b1, b2, b3] ≤ 9999 ∧ decV [b5, b6] ≤ 99 ∧ decV [b8, b9] ≤ 99 :=
  ⟨dec_four_le (shape_at h (j := 0) (by decide)) (shape_at h (j := 1) (by decide)) (shape_at h (j := 2) (by decide)) (shape_at h (j := 3) (by decide)), dec_two_le (shape_at h (j := 5) (by decide)) (shape_at h (j := 6) (by decide)), dec_two_le (shape_at h (j := 8) (by decide)) (shape_at h (j := 9) (by decide))⟩
theorem up {w0 w w' : World} (h : Below w0.heap.size w0 w) (k : Below w.heap.size w w') : Below w0.heap.size w0 w' := h.trans (k.mono h.size)
/-- The result's block; all that was there at the start is as it was. -/
def R0 (w0 w : World) : Prop := Has3 w w0.heap.size 0 0 0 ∧ Below w0.heap.size w0 w
theorem R0.below {w0 w w' : World} (h : R0 w0 w) (k : Below w.heap.size w w') : R0 w0 w' := ⟨h.1.below k, up h.2 k⟩
theorem R0.drew {w0 w : World} (h : R0 w0 w) : R0 w0 w.drew := h.below (Below.refl _ _).drew
set_option maxHeartbeats 4000000 in
theorem read_ten (b0 b1 b2 b3 b4 b5 b6 b7 b8 b9 : UInt8) (w : World) (h : shapeB [b0, b1, b2, b3, b4, b5, b6, b7, b8, b9] = true) :
    Calls Tryd.prog 37 #[.string ⟨#[b0, b1, b2, b3, b4, b5, b6, b7, b8, b9]⟩] w fun e w' => e = .returned (.agg #[.int .i64 (decV [b0, b1, b2, b3] : Int), .int .i64 (decV [b5, b6] : Int), .int .i64 (decV [b8, b9] : Int)]) ∧ Below w.heap.size w w' := by
  obtain ⟨h1, h2, h3⟩ := parts_digits h
  have HA : Hid (∀ W : World, Calls Tryd.prog 43 #[.string ⟨[b0, b1, b2, b3].toArray⟩] W fun e w' => e = .returned (.int .i64 (decV [b0, b1, b2, b3] : Int)) ∧ Below W.heap.size W w') := fun W => number_any [b0, b1, b2, b3] W (by simp) (by simp) h1
  have HB : Hid (∀ W : World, Calls Tryd.prog 43 #[.string ⟨[b5, b6].toArray⟩] W fun e w' => e = .returned (.int .i64 (decV [b5, b6] : Int)) ∧ Below W.heap.size W w') := fun W => number_any [b5, b6] W (by simp) (by simp) h2
  have HC : Hid (∀ W : World, Calls Tryd.prog 43 #[.string ⟨[b8, b9].toArray⟩] W fun e w' => e = .returned (.int .i64 (decV [b8, b9] : Int)) ∧ Below W.heap.size W w') := fun W => number_any [b8, b9] W (by simp) (by simp) h3
  have x1 := slice_a b0 b1 b2 b3 b4 b5 b6 b7 b8 b9
  have x2 := slice_b b0 b1 b2 b3 b4 b5 b6 b7 b8 b9
  have x3 := slice_c b0 b1 b2 b3 b4 b5 b6 b7 b8 b9
  have hsz : (⟨#[b0, b1, b2, b3, b4, b5, b6, b7, b8, b9]⟩ : ByteArray).size = 10 := rfl
  generalize decV [b0, b1, b2, b3] = Y at *
  generalize decV [b5, b6] = M at *
  generalize decV [b8, b9] = D at *
  generalize (⟨[b0, b1, b2, b3].toArray⟩ : ByteArray) = S1 at *
  generalize (⟨[b5, b6].toArray⟩ : ByteArray) = S2 at *
  generalize (⟨[b8, b9].toArray⟩ : ByteArray) = S3' at *
  clear h h1 h2 h3
  generalize (⟨#[b0, b1, b2, b3, b4, b5, b6, b7, b8, b9]⟩ : ByteArray) = S at *
  have hB : Below w.heap.size w w := Below.refl _ _
  go_enter Tryd.func37, Tryd.ntmps37
  have hs0 : R0 w (w.alloc (.cells #[.int .i64 0, .int .i64 0, .int .i64 0] 47)) := ⟨Has3.new w 0 0 0 _, (Below.refl _ _).alloc (Nat.le_refl _) _⟩
  clear hB
  go_wp2_with fail
  go_region_with (first | (go_at_call_of 43 [Value.string S1]; refine (HA.out _).mono ?_; rintro e w1 ⟨rfl, hb1⟩; have hs1 := R0.below (by first | assumption | exact R0.drew (by assumption)) hb1; have ⟨⟨⟨_, _, _, _⟩, _, _, _⟩, _⟩ := hs1) | (go_at_call_of 43 [Value.string S2]; refine (HB.out _).mono ?_; rintro e w2 ⟨rfl, hb2⟩; have hs2 := R0.below (by first | assumption | exact R0.drew (by assumption)) hb2; have ⟨⟨⟨_, _, _, _⟩, _, _, _⟩, _⟩ := hs2) | (go_at_call_of 43 [Value.string S3']; refine (HC.out _).mono ?_; rintro e w3 ⟨rfl, hb3⟩; have hs3 := R0.below (by first | assumption | exact R0.drew (by assumption)) hb3; have ⟨⟨⟨_, _, _, _⟩, _, _, _⟩, _⟩ := hs3))
  all_goals go_wp2
  all_goals refine bodyPost_ret (v := .agg #[.int .i64 Y, .int .i64 M, .int .i64 D]) (by simp [results, Tryd.results37, go_sem, *]) rfl ⟨rfl, ?_⟩
  all_goals repeat' (first | with_reducible exact Below.refl _ _ | with_reducible refine Below.setCell ?_ ?_ _ | with_reducible refine Below.alloc ?_ ?_ _ | with_reducible refine below_drewN ?_ _ | with_reducible refine Below.drew ?_ | with_reducible refine Below.trans ?_ (Below.mono (by assumption) ?_) | with_reducible exact Nat.le_refl _ | with_reducible refine Nat.le_trans ?_ (Below.size (by assumption)) | with_reducible refine Nat.le_trans ?_ (size_alloc _ _) | with_reducible refine Nat.le_trans ?_ (size_set _ _ _) | with_reducible refine Nat.le_trans ?_ (size_drewN _ _) | with_reducible refine Nat.le_trans ?_ (size_drew _) | (simp; done) | (simp; omega) | omega)
end Go.Proofs.YtlhpplhhdeifhaaDoor
