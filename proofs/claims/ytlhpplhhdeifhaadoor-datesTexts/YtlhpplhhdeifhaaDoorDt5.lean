/-
  The contracts of dates' padded, text and Print.
-/
import Derived.Test.YtlhpplhhdeifhaaDoorDt3
import Derived.Test.YtlhpplhhdeifhaaDoorShelf
import Derived.Lib.AppendIntMem
import Derived.Laws.IdiomStrings
namespace Go.Proofs.YtlhpplhhdeifhaaDoor
open Go.RowKit

/-- The library's table of powers of ten lies as it was laid. -/
def TabOk (w : World) : Prop := Lib.TabIs Tryd.prog w "internal/strconv.uint64pow10" .u64 Lib.pow10Tab
theorem gTab : Tryd.prog.globalNamed "internal/strconv.uint64pow10" = some 3 := by kernel_rfl
theorem tab_below {w w' : World} (h : TabOk w) (hb : Below w.heap.size w w') : TabOk w' := Go.Joins.tab_stays gTab h hb (Nat.le_refl _)
/-- A number's digits, with noughts ahead. -/
def padL (n wd : Nat) : List UInt8 := Lib.repeatL [48] (wd - (Lib.decDigits n).length) ++ Lib.decDigits n
/-- The text of a day. -/
def textL (y : Int) (k : Nat) (d : Int) : List UInt8 := padL y.toNat 4 ++ [45] ++ padL (k + 1) 2 ++ [45] ++ padL d.toNat 2
theorem ba_app (a b : List UInt8) : (⟨a.toArray⟩ : ByteArray) ++ ⟨b.toArray⟩ = ⟨(a ++ b).toArray⟩ := ByteArray.ext (by simp)
theorem itoa_any (n : Nat) (w : World) (h1 : n ≤ 1048576) (ht : TabOk w) : Calls Tryd.prog 45 #[.int .i64 n] w fun e w' => e = .returned (.string ⟨(Lib.decDigits n).toArray⟩) ∧ Below w.heap.size w w' :=
  (Tryd.strconv_Itoa n (by omega) (by omega) w ht).mono fun e w' ⟨h, k, os, e2⟩ => ⟨by rw [h, Lib.itoa, if_neg (by omega), Int.toNat_natCast], by rw [e2]; exact Go.Lib.below_grow w.heap.size w (Nat.le_refl _) k os⟩
theorem nd_le : ∀ (k u : Nat), u < 10 ^ (k + 1) → Lib.nDigits u ≤ k + 1
  | 0, u, h => by rw [Lib.nDigits_small (by simpa using h)]; omega
  | k + 1, u, h => by
    by_cases a : u < 10
    · rw [Lib.nDigits_small a]; omega
    · rw [Lib.nDigits_big a]
      have := nd_le k (u / 10) (by rw [Nat.div_lt_iff_lt_mul (by decide)]; rw [Nat.pow_succ] at h; exact h)
      omega
theorem dec_four {n : Nat} (h : n ≤ 9999) : (Lib.decDigits n).length ≤ 4 := by rw [Lib.decDigits_length]; exact nd_le 3 n (by omega)
theorem dec_two {n : Nat} (h : n ≤ 99) : (Lib.decDigits n).length ≤ 2 := by rw [Lib.decDigits_length]; exact nd_le 1 n (by omega)
theorem pad_len {n wd : Nat} (h : (Lib.decDigits n).length ≤ wd) : (padL n wd).length = wd := by
  unfold padL
  rw [List.length_append, Lib.repeatL_length]
  simp; omega
set_option maxHeartbeats 1000000 in
theorem padded_any (n wd : Nat) (w : World) (hn : n ≤ 9999) (hw : wd ≤ 4) (hl : (Lib.decDigits n).length ≤ wd) (ht : TabOk w) :
    Calls Tryd.prog 39 #[.int .i64 n, .int .i64 wd] w fun e w' => e = .returned (.string ⟨(padL n wd).toArray⟩) ∧ Below w.heap.size w w' := by
  have HI : Hid (∀ W : World, Below w.heap.size w W → Calls Tryd.prog 45 #[.int .i64 n] W fun e w' => e = .returned (.string ⟨(Lib.decDigits n).toArray⟩) ∧ Below W.heap.size W w') := fun W hW => itoa_any n W (by omega) (tab_below ht hW)
  unfold padL
  generalize Lib.decDigits n = D at *
  obtain ⟨c, hc⟩ : ∃ c : Nat, c = wd - D.length := ⟨_, rfl⟩
  rw [← hc]
  have HR : Hid (∀ W : World, Calls Tryd.prog 46 #[.string ⟨#[48]⟩, .int .i64 (c : Int)] W fun e w' => e = .returned (.string ⟨(Lib.repeatL [48] c).toArray⟩) ∧ Below W.heap.size W w') := fun W => Tryd.strings_Repeat ⟨#[48]⟩ c W (by omega) (by show 1 * c ≤ _; omega)
  have HE : Hid ((⟨(Lib.repeatL [48] c ++ D).toArray⟩ : ByteArray) = ⟨(Lib.repeatL [48] c).toArray⟩ ++ ⟨D.toArray⟩) := (ba_app _ _).symm
  rw [HE.out]
  have HZ : Hid ((Lib.repeatL [48] c).length = c) := by show _ = _; rw [Lib.repeatL_length]; simp
  have m1 : max (0 : Int) ((wd : Int) - (D.length : Int)) = (c : Int) := by omega
  have m2 : IntKind.i64.wrap ((wd : Int) - (D.length : Int)) = (wd : Int) - (D.length : Int) := by rw [IntKind.wrap_i64]; omega
  have n1 : ¬ 9223372036854775807 < (Lib.repeatL [48] c).length + D.length := by rw [HZ.out]; omega
  have n2 : (9223372036854775807 < (Lib.repeatL [48] c).length + D.length) = False := eq_false n1
  generalize Lib.repeatL [48] c = Z at *
  have sz : (⟨D.toArray⟩ : ByteArray).size = D.length := by show D.toArray.size = _; simp
  clear ht HE HZ hc
  go_enter Tryd.func39, Tryd.ntmps39
  go_wp2_with (first | (go_at_call 45; refine (HI.out _ (by repeat' (first | with_reducible exact Below.refl _ _ | with_reducible refine Below.setCell ?_ ?_ _ | with_reducible refine Below.alloc ?_ ?_ _ | with_reducible refine below_drewN ?_ _ | with_reducible refine Below.drew ?_ | with_reducible refine Below.trans ?_ (Below.mono (by assumption) ?_) | with_reducible exact Nat.le_refl _ | with_reducible refine Nat.le_trans ?_ (Below.size (by assumption)) | with_reducible refine Nat.le_trans ?_ (size_alloc _ _) | with_reducible refine Nat.le_trans ?_ (size_set _ _ _) | with_reducible refine Nat.le_trans ?_ (size_drewN _ _) | with_reducible refine Nat.le_trans ?_ (size_drew _) | (simp; done) | (simp; omega) | omega))).mono ?_; rintro e w1 ⟨rfl, hb1⟩) | (go_at_call 46; refine (HR.out _).mono ?_; rintro e w2 ⟨rfl, hb2⟩))
  go_ret
  refine ⟨rfl, ?_⟩
  repeat' (first | with_reducible exact Below.refl _ _ | with_reducible refine Below.setCell ?_ ?_ _ | with_reducible refine Below.alloc ?_ ?_ _ | with_reducible refine below_drewN ?_ _ | with_reducible refine Below.drew ?_ | with_reducible refine Below.trans ?_ (Below.mono (by assumption) ?_) | with_reducible exact Nat.le_refl _ | with_reducible refine Nat.le_trans ?_ (Below.size (by assumption)) | with_reducible refine Nat.le_trans ?_ (size_alloc _ _) | with_reducible refine Nat.le_trans ?_ (size_set _ _ _) | with_reducible refine Nat.le_trans ?_ (size_drewN _ _) | with_reducible refine Nat.le_trans ?_ (size_drew _) | (simp; done) | (simp; omega) | omega)
theorem S3.out {w0 w : World} {b : Nat} {x y z : Int} (h : S3 w0 b x y z w) : Below w0.heap.size w0 w := h.2.2.2.2
set_option maxHeartbeats 4000000 in
theorem text_any (y : Int) (k : Nat) (d n : Int) (w : World) (h : DayIs y k d n) (ht : TabOk w) :
    Calls Tryd.prog 32 #[.agg #[.int .i64 y, .int .i64 ((k : Int) + 1), .int .i64 d]] w fun e w' => e = .returned (.string ⟨(textL y k d).toArray⟩) ∧ Below w.heap.size w w' := by
  have y1 := h.y1
  have y2 := h.y2
  have k1 := h.k1
  have e1 := h.d1
  have e2 := h.dle
  have HY : Hid (∀ W : World, Below w.heap.size w W → Calls Tryd.prog 39 #[.int .i64 y, .int .i64 4] W fun e w' => e = .returned (.string ⟨(padL y.toNat 4).toArray⟩) ∧ Below W.heap.size W w') := fun W hW => by
    have := padded_any y.toNat 4 W (by omega) (by decide) (dec_four (by omega)) (tab_below ht hW)
    rw [show ((y.toNat : Nat) : Int) = y by omega] at this
    exact this
  have HK : Hid (∀ W : World, Below w.heap.size w W → Calls Tryd.prog 39 #[.int .i64 ((k : Int) + 1), .int .i64 2] W fun e w' => e = .returned (.string ⟨(padL (k + 1) 2).toArray⟩) ∧ Below W.heap.size W w') := fun W hW => by
    have := padded_any (k + 1) 2 W (by omega) (by decide) (dec_two (by omega)) (tab_below ht hW)
    rw [show ((k + 1 : Nat) : Int) = (k : Int) + 1 by omega] at this
    exact this
  have HD : Hid (∀ W : World, Below w.heap.size w W → Calls Tryd.prog 39 #[.int .i64 d, .int .i64 2] W fun e w' => e = .returned (.string ⟨(padL d.toNat 2).toArray⟩) ∧ Below W.heap.size W w') := fun W hW => by
    have := padded_any d.toNat 2 W (by omega) (by decide) (dec_two (by omega)) (tab_below ht hW)
    rw [show ((d.toNat : Nat) : Int) = d by omega] at this
    exact this
  have l1 := pad_len (n := y.toNat) (wd := 4) (dec_four (by omega))
  have l2 := pad_len (n := k + 1) (wd := 2) (dec_two (by omega))
  have l3 := pad_len (n := d.toNat) (wd := 2) (dec_two (by omega))
  unfold textL
  generalize padL y.toNat 4 = A at *
  generalize padL (k + 1) 2 = B at *
  generalize padL d.toNat 2 = C at *
  have HE : Hid ((⟨(A ++ [45] ++ B ++ [45] ++ C).toArray⟩ : ByteArray) = ⟨A.toArray⟩ ++ ⟨#[45]⟩ ++ ⟨B.toArray⟩ ++ ⟨#[45]⟩ ++ ⟨C.toArray⟩) := by
    show _ = _
    rw [← ba_app, ← ba_app, ← ba_app, ← ba_app]
  rw [HE.out]
  have HS := hide (Has3.s3 (Has3.new w y ((k : Int) + 1) d 47) ((Below.refl _ _).alloc (Nat.le_refl _) _))
  have n1 : (9223372036854775807 < A.length + 1) = False := eq_false (by omega)
  have n2 : (9223372036854775807 < A.length + 1 + B.length) = False := eq_false (by omega)
  have n3 : (9223372036854775807 < A.length + 1 + B.length + 1) = False := eq_false (by omega)
  have n4 : (9223372036854775807 < A.length + 1 + B.length + 1 + C.length) = False := eq_false (by omega)
  clear HE h ht l1 l2 l3 y1 y2 k1 e1 e2
  have HG1 : Hid (0 = 0) := hide rfl
  go_enter Tryd.func32, Tryd.ntmps32
  go_wp2_with fail
  go_region_held3 (fun w' => w'.cell? ⟨w.heap.size, 0, none⟩ = some (.int .i64 y) ∧ w'.cell? ⟨w.heap.size, 1, none⟩ = some (.int .i64 ((k : Int) + 1)) ∧ w'.cell? ⟨w.heap.size, 2, none⟩ = some (.int .i64 d) ∧ w.heap.size < w'.heap.size ∧ Below w.heap.size w w') (first | exact HS.out | assumption | exact S3.drew (by assumption)) (first | (go_at_call_of 39 [Value.int IntKind.i64 y, Value.int IntKind.i64 4]; refine (HY.out _ (S3.out (by assumption))).mono ?_; rintro e w2 ⟨rfl, hb2⟩; have hs2 := S3.below (by assumption) hb2) | (go_at_call_of 39 [Value.int IntKind.i64 d, Value.int IntKind.i64 2]; refine (HD.out _ (S3.out (by assumption))).mono ?_; rintro e w2 ⟨rfl, hb2⟩; have hs2 := S3.below (by assumption) hb2) | (go_at_call 39; refine (HK.out _ (S3.out (by assumption))).mono ?_; rintro e w2 ⟨rfl, hb2⟩; have hs2 := S3.below (by assumption) hb2))
  all_goals go_wp2
  all_goals go_ret
  all_goals exact ⟨rfl, S3.out (by assumption)⟩
set_option maxHeartbeats 1000000 in
theorem print_yes (y : Int) (k : Nat) (d n : Int) (w : World) (h : DayIs y k d n) (hl : LenOk w) (ht : TabOk w) :
    Calls Tryd.prog 18 #[.int .i64 n] w fun e w' => e = .returned (.tuple #[.string ⟨(textL y k d).toArray⟩, .int .i64 0]) ∧ Below w.heap.size w w' := by
  have HI : Hid (∀ W : World, Calls Tryd.prog 29 #[.int .i64 n] W fun e w' => e = .returned (.bool true) ∧ w' = W) := fun W => by have := isDay_any n W; rw [decide_eq_true h.day] at this; exact this
  have HP : Hid (∀ W : World, Below w.heap.size w W → Calls Tryd.prog 30 #[.int .i64 n] W fun e w' => e = .returned (.agg #[.int .i64 y, .int .i64 ((k : Int) + 1), .int .i64 d]) ∧ Below W.heap.size W w') := fun W hW => partsOf_any y k d n W h (len_below hl hW)
  have HT : Hid (∀ W : World, Below w.heap.size w W → Calls Tryd.prog 32 #[.agg #[.int .i64 y, .int .i64 ((k : Int) + 1), .int .i64 d]] W fun e w' => e = .returned (.string ⟨(textL y k d).toArray⟩) ∧ Below W.heap.size W w') := fun W hW => text_any y k d n W h (tab_below ht hW)
  clear h hl ht
  generalize textL y k d = T at *
  go_enter Tryd.func18, Tryd.ntmps18
  go_wp2_with (first | (go_at_call 29; refine (HI.out _).mono ?_; rintro e wz ⟨rfl, hz⟩; subst wz) | (go_at_call 30; refine (HP.out _ (by repeat' (first | with_reducible exact Below.refl _ _ | with_reducible refine Below.setCell ?_ ?_ _ | with_reducible refine Below.alloc ?_ ?_ _ | with_reducible refine below_drewN ?_ _ | with_reducible refine Below.drew ?_ | with_reducible refine Below.trans ?_ (Below.mono (by assumption) ?_) | with_reducible exact Nat.le_refl _ | with_reducible refine Nat.le_trans ?_ (Below.size (by assumption)) | with_reducible refine Nat.le_trans ?_ (size_alloc _ _) | with_reducible refine Nat.le_trans ?_ (size_set _ _ _) | with_reducible refine Nat.le_trans ?_ (size_drewN _ _) | with_reducible refine Nat.le_trans ?_ (size_drew _) | (simp; done) | (simp; omega) | omega))).mono ?_; rintro e w1 ⟨rfl, hb1⟩) | (go_at_call 32; refine (HT.out _ (by repeat' (first | with_reducible exact Below.refl _ _ | with_reducible refine Below.setCell ?_ ?_ _ | with_reducible refine Below.alloc ?_ ?_ _ | with_reducible refine below_drewN ?_ _ | with_reducible refine Below.drew ?_ | with_reducible refine Below.trans ?_ (Below.mono (by assumption) ?_) | with_reducible exact Nat.le_refl _ | with_reducible refine Nat.le_trans ?_ (Below.size (by assumption)) | with_reducible refine Nat.le_trans ?_ (size_alloc _ _) | with_reducible refine Nat.le_trans ?_ (size_set _ _ _) | with_reducible refine Nat.le_trans ?_ (size_drewN _ _) | with_reducible refine Nat.le_trans ?_ (size_drew _) | (simp; done) | (simp; omega) | omega))).mono ?_; rintro e w2 ⟨rfl, hb2⟩))
  go_ret2
  refine ⟨rfl, ?_⟩
  repeat' (first | with_reducible exact Below.refl _ _ | with_reducible refine Below.setCell ?_ ?_ _ | with_reducible refine Below.alloc ?_ ?_ _ | with_reducible refine below_drewN ?_ _ | with_reducible refine Below.drew ?_ | with_reducible refine Below.trans ?_ (Below.mono (by assumption) ?_) | with_reducible exact Nat.le_refl _ | with_reducible refine Nat.le_trans ?_ (Below.size (by assumption)) | with_reducible refine Nat.le_trans ?_ (size_alloc _ _) | with_reducible refine Nat.le_trans ?_ (size_set _ _ _) | with_reducible refine Nat.le_trans ?_ (size_drewN _ _) | with_reducible refine Nat.le_trans ?_ (size_drew _) | (simp; done) | (simp; omega) | omega)
set_option maxHeartbeats 1000000 in
theorem print_no (n : Int) (w : World) (h : ¬ (1 ≤ n ∧ n ≤ 2958464)) :
    Calls Tryd.prog 18 #[.int .i64 n] w fun e w' => e = .returned (.tuple #[.string ⟨#[]⟩, .int .i64 2]) ∧ Below w.heap.size w w' := by
  have HI : Hid (∀ W : World, Calls Tryd.prog 29 #[.int .i64 n] W fun e w' => e = .returned (.bool false) ∧ w' = W) := fun W => by have := isDay_any n W; rw [decide_eq_false h] at this; exact this
  clear h
  go_enter Tryd.func18, Tryd.ntmps18
  go_wp2_with (first | (go_at_call 29; refine (HI.out _).mono ?_; rintro e wz ⟨rfl, hz⟩; subst wz))
  go_ret2
  refine ⟨rfl, ?_⟩
  repeat' (first | with_reducible exact Below.refl _ _ | with_reducible refine Below.setCell ?_ ?_ _ | with_reducible refine Below.alloc ?_ ?_ _ | with_reducible refine below_drewN ?_ _ | with_reducible refine Below.drew ?_ | with_reducible refine Below.trans ?_ (Below.mono (by assumption) ?_) | with_reducible exact Nat.le_refl _ | with_reducible refine Nat.le_trans ?_ (Below.size (by assumption)) | with_reducible refine Nat.le_trans ?_ (size_alloc _ _) | with_reducible refine Nat.le_trans ?_ (size_set _ _ _) | with_reducible refine Nat.le_trans ?_ (size_drewN _ _) | with_reducible refine Nat.le_trans ?_ (size_drew _) | (simp; done) | (simp; omega) | omega)
end Go.Proofs.YtlhpplhhdeifhaaDoor
