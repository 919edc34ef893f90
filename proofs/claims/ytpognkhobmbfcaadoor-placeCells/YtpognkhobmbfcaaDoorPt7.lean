/-
  The contracts of place's sign and Print.
-/
import Derived.Test.YtpognkhobmbfcaaDoorPt1
import Derived.Test.YtpognkhobmbfcaaDoorPt3
import Derived.Lib.SmallJoins
import Derived.Lib.AppendIntMem
namespace Go.Proofs.YtpognkhobmbfcaaDoor
open Go.RowKit

/-- The library's table of powers of ten lies as it was laid. -/
def TabOk (w : World) : Prop := Lib.TabIs Tryd.prog w "internal/strconv.uint64pow10" .u64 Lib.pow10Tab
theorem gTab : Tryd.prog.globalNamed "internal/strconv.uint64pow10" = some 1 := by kernel_rfl
theorem tab_below {w w' : World} (h : TabOk w) (hb : Below w.heap.size w w') : TabOk w' := Go.Joins.tab_stays gTab h hb (Nat.le_refl _)
/-- What is written ahead. -/
def sgn (b : Bool) : List UInt8 := if b then [36] else []
/-- What Print tells. -/
def printR (r c : Int) (x y : Bool) : List UInt8 × Int := if placeB r c then (sgn y ++ lettersN c.toNat ++ sgn x ++ Lib.decDigits r.toNat, 0) else ([], 2)
theorem printR_yes {r c : Int} {x y : Bool} (h : placeB r c = true) : printR r c x y = (sgn y ++ lettersN c.toNat ++ sgn x ++ Lib.decDigits r.toNat, 0) := by simp [printR, h]
theorem printR_no {r c : Int} {x y : Bool} (h : placeB r c = false) : printR r c x y = ([], 2) := by simp [printR, h]
theorem ba_app (a b : List UInt8) : (⟨a.toArray⟩ : ByteArray) ++ ⟨b.toArray⟩ = ⟨(a ++ b).toArray⟩ := ByteArray.ext (by simp)
set_option maxHeartbeats 400000 in
theorem sign_any (b : Bool) (w : World) : Calls Tryd.prog 36 #[.bool b] w fun e w' => e = .returned (.string ⟨(sgn b).toArray⟩) ∧ w' = w := by
  cases b
  all_goals
    go_enter Tryd.func36, Tryd.ntmps36
    go_wp2
    go_ret
    exact ⟨rfl, rfl⟩
theorem itoa_any (n : Nat) (w : World) (h1 : n ≤ 1048576) (ht : TabOk w) : Calls Tryd.prog 37 #[.int .i64 n] w fun e w' => e = .returned (.string ⟨(Lib.decDigits n).toArray⟩) ∧ Below w.heap.size w w' :=
  (Tryd.strconv_Itoa n (by omega) (by omega) w ht).mono fun e w' ⟨h, k, os, e2⟩ => ⟨by rw [h, Lib.itoa, if_neg (by omega), Int.toNat_natCast], by rw [e2]; exact Go.Lib.below_grow w.heap.size w (Nat.le_refl _) k os⟩
theorem nd_le : ∀ (k u : Nat), u < 10 ^ (k + 1) → Lib.nDigits u ≤ k + 1
  | 0, u, h => by rw [Lib.nDigits_small (by simpa using h)]; omega
  | k + 1, u, h => by
    by_cases a : u < 10
    · rw [Lib.nDigits_small a]; omega
    · rw [Lib.nDigits_big a]
      have := nd_le k (u / 10) (by rw [Nat.div_lt_iff_lt_mul (by decide)]; rw [Nat.pow_succ] at h; exact h)
      omega
theorem dec_len {n : Nat} (h : n ≤ 1048576) : (Lib.decDigits n).length ≤ 7 := by
  rw [Lib.decDigits_length]; exact nd_le 6 n (by omega)
theorem sgn_len (b : Bool) : (sgn b).length ≤ 1 := by cases b <;> simp [sgn]
/-- The cell in its block, the world above the start. -/
theorem CelS.below {W w' w2 : World} {p : Nat} {r c : Int} {x y : Bool} (h : w'.cell? ⟨p, 0, none⟩ = some (.int .i64 r) ∧ w'.cell? ⟨p, 1, none⟩ = some (.int .i64 c) ∧ w'.cell? ⟨p, 2, none⟩ = some (.bool x) ∧ w'.cell? ⟨p, 3, none⟩ = some (.bool y) ∧ p < w'.heap.size ∧ Below W.heap.size W w') (k : Below w'.heap.size w' w2) :
    w2.cell? ⟨p, 0, none⟩ = some (.int .i64 r) ∧ w2.cell? ⟨p, 1, none⟩ = some (.int .i64 c) ∧ w2.cell? ⟨p, 2, none⟩ = some (.bool x) ∧ w2.cell? ⟨p, 3, none⟩ = some (.bool y) ∧ p < w2.heap.size ∧ Below W.heap.size W w2 := by
  obtain ⟨h0, h1, h2, h3, h4, h5⟩ := h
  exact ⟨by rw [k.cell (p := ⟨p, 0, none⟩) h4]; exact h0, by rw [k.cell (p := ⟨p, 1, none⟩) h4]; exact h1, by rw [k.cell (p := ⟨p, 2, none⟩) h4]; exact h2, by rw [k.cell (p := ⟨p, 3, none⟩) h4]; exact h3, Nat.lt_of_lt_of_le h4 k.size, h5.trans (k.mono h5.size)⟩
theorem CelS.drew {W w' : World} {p : Nat} {r c : Int} {x y : Bool} (h : w'.cell? ⟨p, 0, none⟩ = some (.int .i64 r) ∧ w'.cell? ⟨p, 1, none⟩ = some (.int .i64 c) ∧ w'.cell? ⟨p, 2, none⟩ = some (.bool x) ∧ w'.cell? ⟨p, 3, none⟩ = some (.bool y) ∧ p < w'.heap.size ∧ Below W.heap.size W w') :
    w'.drew.cell? ⟨p, 0, none⟩ = some (.int .i64 r) ∧ w'.drew.cell? ⟨p, 1, none⟩ = some (.int .i64 c) ∧ w'.drew.cell? ⟨p, 2, none⟩ = some (.bool x) ∧ w'.drew.cell? ⟨p, 3, none⟩ = some (.bool y) ∧ p < w'.drew.heap.size ∧ Below W.heap.size W w'.drew := ⟨h.1, h.2.1, h.2.2.1, h.2.2.2.1, h.2.2.2.2.1, h.2.2.2.2.2.drew⟩
theorem CelS.new (w : World) (r c : Int) (x y : Bool) (t : TypeId) : (fun w' : World => w'.cell? ⟨w.heap.size, 0, none⟩ = some (.int .i64 r) ∧ w'.cell? ⟨w.heap.size, 1, none⟩ = some (.int .i64 c) ∧ w'.cell? ⟨w.heap.size, 2, none⟩ = some (.bool x) ∧ w'.cell? ⟨w.heap.size, 3, none⟩ = some (.bool y) ∧ w.heap.size < w'.heap.size ∧ Below w.heap.size w w') (w.alloc (.cells #[.int .i64 r, .int .i64 c, .bool x, .bool y] t)) :=
  ⟨by simp [go_sem], by simp [go_sem], by simp [go_sem], by simp [go_sem], by simp, (Below.refl _ _).alloc (Nat.le_refl _) _⟩
theorem CelS.out {W w' : World} {p : Nat} {r c : Int} {x y : Bool} (h : w'.cell? ⟨p, 0, none⟩ = some (.int .i64 r) ∧ w'.cell? ⟨p, 1, none⟩ = some (.int .i64 c) ∧ w'.cell? ⟨p, 2, none⟩ = some (.bool x) ∧ w'.cell? ⟨p, 3, none⟩ = some (.bool y) ∧ p < w'.heap.size ∧ Below W.heap.size W w') : Below W.heap.size W w' := h.2.2.2.2.2
set_option maxHeartbeats 2000000 in
theorem print_any (r c : Int) (x y : Bool) (w : World) (ht : TabOk w) :
    Calls Tryd.prog 14 #[.agg #[.int .i64 r, .int .i64 c, .bool x, .bool y]] w fun e w' => e = .returned (.tuple #[.string ⟨(printR r c x y).1.toArray⟩, .int .i64 (printR r c x y).2]) ∧ Below w.heap.size w w' := by
  have HT := hide ht
  clear ht
  have HP : Hid (∀ W : World, Calls Tryd.prog 35 #[.agg #[.int .i64 r, .int .i64 c]] W fun e w' => e = .returned (.bool (placeB r c)) ∧ w' = W.alloc (.cells #[.int .i64 r, .int .i64 c] 34)) := fun W => isPlace_any r c W
  cases h : placeB r c
  · rw [printR_no h]
    rw [h] at HP
    clear h
    go_enter Tryd.func14, Tryd.ntmps14
    go_wp2_with (go_at_call 35; refine (HP.out _).mono ?_; rintro e w' ⟨rfl, rfl⟩)
    go_ret2
    refine ⟨rfl, ?_⟩
    repeat' (first | with_reducible exact Below.refl _ _ | with_reducible refine Below.setCell ?_ ?_ _ | with_reducible refine Below.alloc ?_ ?_ _ | with_reducible refine below_drewN ?_ _ | with_reducible refine Below.drew ?_ | with_reducible refine Below.trans ?_ (Below.mono (by assumption) ?_) | with_reducible exact Nat.le_refl _ | with_reducible refine Nat.le_trans ?_ (Below.size (by assumption)) | with_reducible refine Nat.le_trans ?_ (size_alloc _ _) | with_reducible refine Nat.le_trans ?_ (size_set _ _ _) | with_reducible refine Nat.le_trans ?_ (size_drewN _ _) | with_reducible refine Nat.le_trans ?_ (size_drew _) | (simp; done) | (simp; omega) | omega)
  · rw [printR_yes h]
    rw [h] at HP
    obtain ⟨h1, h2, h3, h4⟩ := placeB_iff.1 h
    clear h
    obtain ⟨n, rfl⟩ : ∃ n : Nat, r = n := ⟨r.toNat, by omega⟩
    obtain ⟨m, rfl⟩ : ∃ m : Nat, c = m := ⟨c.toNat, by omega⟩
    rw [Int.toNat_natCast, Int.toNat_natCast]
    have HL : Hid (∀ W : World, Calls Tryd.prog 29 #[.int .i64 m] W fun e w' => e = .returned (.string ⟨(lettersN m).toArray⟩) ∧ w' = W) := fun W => lettersOf_any m W (by omega) (by omega)
    have HX : Hid (∀ W : World, Calls Tryd.prog 36 #[.bool x] W fun e w' => e = .returned (.string ⟨(sgn x).toArray⟩) ∧ w' = W) := fun W => sign_any x W
    have HY : Hid (∀ W : World, Calls Tryd.prog 36 #[.bool y] W fun e w' => e = .returned (.string ⟨(sgn y).toArray⟩) ∧ w' = W) := fun W => sign_any y W
    have HI : Hid (∀ W : World, Below w.heap.size w W → Calls Tryd.prog 37 #[.int .i64 n] W fun e w' => e = .returned (.string ⟨(Lib.decDigits n).toArray⟩) ∧ Below W.heap.size W w') := fun W hW => itoa_any n W (by omega) (tab_below HT.out hW)
    have s1 := sgn_len x
    have s2 := sgn_len y
    have s3 := (letters_len (n := m) (by omega) (by omega)).2
    have s4 := dec_len (n := n) (by omega)
    have HS := hide (CelS.below (CelS.new w n m x y 36) ((Below.refl _ _).alloc (Nat.le_refl _) (.cells #[.int .i64 n, .int .i64 m] 34)))
    have HEQ : Hid ((⟨(sgn y ++ lettersN m ++ sgn x ++ Lib.decDigits n).toArray⟩ : ByteArray) = ⟨(sgn y).toArray⟩ ++ ⟨(lettersN m).toArray⟩ ++ ⟨(sgn x).toArray⟩ ++ ⟨(Lib.decDigits n).toArray⟩) := by
      show _ = _
      rw [ba_app, ba_app, ba_app]
    rw [HEQ.out]
    generalize sgn x = X at *
    generalize sgn y = Y at *
    generalize lettersN m = L at *
    generalize Lib.decDigits n = D at *
    clear h1 h2 h3 h4 HEQ
    have n1 : ¬ 9223372036854775807 < Y.length + L.length := by omega
    have n2 : ¬ 9223372036854775807 < Y.length + L.length + X.length := by omega
    have n3 : ¬ 9223372036854775807 < Y.length + L.length + X.length + D.length := by omega
    go_enter Tryd.func14, Tryd.ntmps14
    go_wp2_with (first | (go_at_call 35; refine (HP.out _).mono ?_; rintro e w' ⟨rfl, rfl⟩))
    go_region_held3 (fun w' => w'.cell? ⟨w.heap.size, 0, none⟩ = some (.int .i64 n) ∧ w'.cell? ⟨w.heap.size, 1, none⟩ = some (.int .i64 m) ∧ w'.cell? ⟨w.heap.size, 2, none⟩ = some (.bool x) ∧ w'.cell? ⟨w.heap.size, 3, none⟩ = some (.bool y) ∧ w.heap.size < w'.heap.size ∧ Below w.heap.size w w') (first | exact HS.out | assumption | exact CelS.drew (by assumption)) (first | (go_at_call_of 36 [Value.bool x]; refine (HX.out _).mono ?_; rintro e w2 ⟨rfl, rfl⟩) | (go_at_call_of 36 [Value.bool y]; refine (HY.out _).mono ?_; rintro e w2 ⟨rfl, rfl⟩) | (go_at_call 29; refine (HL.out _).mono ?_; rintro e w2 ⟨rfl, rfl⟩) | (go_at_call 37; refine (HI.out _ (CelS.out (by assumption))).mono ?_; rintro e w2 ⟨rfl, hb2⟩; have hs2 := CelS.below (by assumption) hb2))
    all_goals go_wp2
    all_goals go_ret2
    all_goals exact ⟨rfl, CelS.out (by assumption)⟩
end Go.Proofs.YtpognkhobmbfcaaDoor
