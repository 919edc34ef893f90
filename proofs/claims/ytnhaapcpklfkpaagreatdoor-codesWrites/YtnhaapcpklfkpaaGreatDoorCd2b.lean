/-
  The contract of codes.first (made by firstgen.py).
-/
import Derived.Test.YtnhaapcpklfkpaaGreatDoorCd2
import Derived.Lib.IndexAny
namespace Go.Proofs.YtnhaapcpklfkpaaGreatDoor
open Go.RowKit

theorem ne_tst {c : UInt8} {k : Nat} (h : c.toNat ≠ k) : ((c.toNat : Int) == (k : Int)) = false := by rw [beq_eq_false_iff_ne]; omega
theorem ne_nat {c d : UInt8} (h : c ≠ d) : c.toNat ≠ d.toNat := fun e => h (UInt8.toNat_inj.1 e)
theorem byte_lt (c : UInt8) : (c.toNat : Int) < 256 := by have := UInt8.toNat_lt c; omega
set_option maxHeartbeats 2000000 in
theorem first_37 (r : List UInt8) (w : World) (hs : r.length ≤ 1000) :
    Calls Tryz.prog 75 #[.string ⟨((37 : UInt8) :: r).toArray⟩] w fun e w' => toldP (some (⟨2, [37]⟩, 1)) e ∧ Below w.heap.size w w' := by
  have HP : Hid (∀ W : World, Calls Tryz.prog 101 #[.int .i64 2, .string ⟨((37 : UInt8) :: r).toArray⟩, .int .i64 1] W fun e w' => e = .returned (.tuple #[pcV ⟨2, [37]⟩, .int .i64 1]) ∧ Below W.heap.size W w') := fun W => plain_any 2 1 (37 :: r) W (by simp)
  have sz : (⟨((37 : UInt8) :: r).toArray⟩ : ByteArray).size = r.length + 1 := mk_size (37 :: r)
  have hx : ∀ h, (⟨((37 : UInt8) :: r).toArray⟩ : ByteArray)[0]'h = 37 := fun _ => rfl
  simp only [pcV] at HP
  generalize (⟨((37 : UInt8) :: r).toArray⟩ : ByteArray) = S at *
  have hs' : (r.length : Int) ≤ 1000 := by omega
  have t0 : (((37 : UInt8).toNat : Int) == 34) = false := rfl
  have t1 : (((37 : UInt8).toNat : Int) == 92) = false := rfl
  have tt : (((37 : UInt8).toNat : Int) == 37) = true := rfl
  go_enter Tryz.func75, Tryz.ntmps75
  go_wp2_with (go_at_call 101; refine (HP.out _).mono ?_; rintro e w1 ⟨rfl, hb1⟩; obtain ⟨hc1, hf1⟩ := cbcell hb1; have hz1 : w.heap.size < w1.heap.size := by (have := hb1.size; simp at this; omega))
  refine bodyPost_ret (v := .tuple #[.agg #[.int .i64 2, .string ⟨([37] : List UInt8).toArray⟩], .int .i64 1]) (by simp [results, Tryz.results75, go_sem, hc1]) rfl ⟨rfl, ?_⟩
  repeat' (first | with_reducible exact Below.refl _ _ | with_reducible refine Below.setCell ?_ ?_ _ | with_reducible refine Below.alloc ?_ ?_ _ | with_reducible refine below_drewN ?_ _ | with_reducible refine Below.drew ?_ | with_reducible refine Below.trans ?_ (Below.mono (by assumption) ?_) | with_reducible exact Nat.le_refl _ | with_reducible refine Nat.le_trans ?_ (Below.size (by assumption)) | with_reducible refine Nat.le_trans ?_ (size_alloc _ _) | with_reducible refine Nat.le_trans ?_ (size_set _ _ _) | with_reducible refine Nat.le_trans ?_ (size_drewN _ _) | with_reducible refine Nat.le_trans ?_ (size_drew _) | (simp; done) | (simp; omega) | omega)
set_option maxHeartbeats 2000000 in
theorem first_64 (r : List UInt8) (w : World) (hs : r.length ≤ 1000) :
    Calls Tryz.prog 75 #[.string ⟨((64 : UInt8) :: r).toArray⟩] w fun e w' => toldP (some (⟨4, [64]⟩, 1)) e ∧ Below w.heap.size w w' := by
  have HP : Hid (∀ W : World, Calls Tryz.prog 101 #[.int .i64 4, .string ⟨((64 : UInt8) :: r).toArray⟩, .int .i64 1] W fun e w' => e = .returned (.tuple #[pcV ⟨4, [64]⟩, .int .i64 1]) ∧ Below W.heap.size W w') := fun W => plain_any 4 1 (64 :: r) W (by simp)
  have sz : (⟨((64 : UInt8) :: r).toArray⟩ : ByteArray).size = r.length + 1 := mk_size (64 :: r)
  have hx : ∀ h, (⟨((64 : UInt8) :: r).toArray⟩ : ByteArray)[0]'h = 64 := fun _ => rfl
  simp only [pcV] at HP
  generalize (⟨((64 : UInt8) :: r).toArray⟩ : ByteArray) = S at *
  have hs' : (r.length : Int) ≤ 1000 := by omega
  have t0 : (((64 : UInt8).toNat : Int) == 34) = false := rfl
  have t1 : (((64 : UInt8).toNat : Int) == 92) = false := rfl
  have t2 : (((64 : UInt8).toNat : Int) == 37) = false := rfl
  have tt : (((64 : UInt8).toNat : Int) == 64) = true := rfl
  go_enter Tryz.func75, Tryz.ntmps75
  go_wp2_with (go_at_call 101; refine (HP.out _).mono ?_; rintro e w1 ⟨rfl, hb1⟩; obtain ⟨hc1, hf1⟩ := cbcell hb1; have hz1 : w.heap.size < w1.heap.size := by (have := hb1.size; simp at this; omega))
  refine bodyPost_ret (v := .tuple #[.agg #[.int .i64 4, .string ⟨([64] : List UInt8).toArray⟩], .int .i64 1]) (by simp [results, Tryz.results75, go_sem, hc1]) rfl ⟨rfl, ?_⟩
  repeat' (first | with_reducible exact Below.refl _ _ | with_reducible refine Below.setCell ?_ ?_ _ | with_reducible refine Below.alloc ?_ ?_ _ | with_reducible refine below_drewN ?_ _ | with_reducible refine Below.drew ?_ | with_reducible refine Below.trans ?_ (Below.mono (by assumption) ?_) | with_reducible exact Nat.le_refl _ | with_reducible refine Nat.le_trans ?_ (Below.size (by assumption)) | with_reducible refine Nat.le_trans ?_ (size_alloc _ _) | with_reducible refine Nat.le_trans ?_ (size_set _ _ _) | with_reducible refine Nat.le_trans ?_ (size_drewN _ _) | with_reducible refine Nat.le_trans ?_ (size_drew _) | (simp; done) | (simp; omega) | omega)
set_option maxHeartbeats 2000000 in
theorem first_59 (r : List UInt8) (w : World) (hs : r.length ≤ 1000) :
    Calls Tryz.prog 75 #[.string ⟨((59 : UInt8) :: r).toArray⟩] w fun e w' => toldP (some (⟨5, [59]⟩, 1)) e ∧ Below w.heap.size w w' := by
  have HP : Hid (∀ W : World, Calls Tryz.prog 101 #[.int .i64 5, .string ⟨((59 : UInt8) :: r).toArray⟩, .int .i64 1] W fun e w' => e = .returned (.tuple #[pcV ⟨5, [59]⟩, .int .i64 1]) ∧ Below W.heap.size W w') := fun W => plain_any 5 1 (59 :: r) W (by simp)
  have sz : (⟨((59 : UInt8) :: r).toArray⟩ : ByteArray).size = r.length + 1 := mk_size (59 :: r)
  have hx : ∀ h, (⟨((59 : UInt8) :: r).toArray⟩ : ByteArray)[0]'h = 59 := fun _ => rfl
  simp only [pcV] at HP
  generalize (⟨((59 : UInt8) :: r).toArray⟩ : ByteArray) = S at *
  have hs' : (r.length : Int) ≤ 1000 := by omega
  have t0 : (((59 : UInt8).toNat : Int) == 34) = false := rfl
  have t1 : (((59 : UInt8).toNat : Int) == 92) = false := rfl
  have t2 : (((59 : UInt8).toNat : Int) == 37) = false := rfl
  have t3 : (((59 : UInt8).toNat : Int) == 64) = false := rfl
  have tt : (((59 : UInt8).toNat : Int) == 59) = true := rfl
  go_enter Tryz.func75, Tryz.ntmps75
  go_wp2_with (go_at_call 101; refine (HP.out _).mono ?_; rintro e w1 ⟨rfl, hb1⟩; obtain ⟨hc1, hf1⟩ := cbcell hb1; have hz1 : w.heap.size < w1.heap.size := by (have := hb1.size; simp at this; omega))
  refine bodyPost_ret (v := .tuple #[.agg #[.int .i64 5, .string ⟨([59] : List UInt8).toArray⟩], .int .i64 1]) (by simp [results, Tryz.results75, go_sem, hc1]) rfl ⟨rfl, ?_⟩
  repeat' (first | with_reducible exact Below.refl _ _ | with_reducible refine Below.setCell ?_ ?_ _ | with_reducible refine Below.alloc ?_ ?_ _ | with_reducible refine below_drewN ?_ _ | with_reducible refine Below.drew ?_ | with_reducible refine Below.trans ?_ (Below.mono (by assumption) ?_) | with_reducible exact Nat.le_refl _ | with_reducible refine Nat.le_trans ?_ (Below.size (by assumption)) | with_reducible refine Nat.le_trans ?_ (size_alloc _ _) | with_reducible refine Nat.le_trans ?_ (size_set _ _ _) | with_reducible refine Nat.le_trans ?_ (size_drewN _ _) | with_reducible refine Nat.le_trans ?_ (size_drew _) | (simp; done) | (simp; omega) | omega)
set_option maxHeartbeats 2000000 in
theorem first_34 (r : List UInt8) (w : World) (hs : r.length ≤ 1000) (hc : CellOk w) :
    Calls Tryz.prog 75 #[.string ⟨((34 : UInt8) :: r).toArray⟩] w fun e w' => toldP (quotedR r) e ∧ Below w.heap.size w w' := by
  have HP : Hid (∀ W : World, Below w.heap.size w W → Calls Tryz.prog 99 #[.string ⟨((34 : UInt8) :: r).toArray⟩] W fun e w' => toldP (quotedR r) e ∧ Below W.heap.size W w') := fun W hW => quoted_any 34 r W (by omega) (cellOk_below hc hW)
  have sz : (⟨((34 : UInt8) :: r).toArray⟩ : ByteArray).size = r.length + 1 := mk_size (34 :: r)
  have hx : ∀ h, (⟨((34 : UInt8) :: r).toArray⟩ : ByteArray)[0]'h = 34 := fun _ => rfl
  generalize (⟨((34 : UInt8) :: r).toArray⟩ : ByteArray) = S at *
  generalize quotedR r = X at *
  have hs' : (r.length : Int) ≤ 1000 := by omega
  clear hc
  have tt : (((34 : UInt8).toNat : Int) == 34) = true := rfl
  cases X with
  | none =>
    simp only [toldP] at HP
    go_enter Tryz.func75, Tryz.ntmps75
    go_wp2_with (go_at_call 99; refine (HP.out _ (by repeat' (first | with_reducible exact Below.refl _ _ | with_reducible refine Below.setCell ?_ ?_ _ | with_reducible refine Below.alloc ?_ ?_ _ | with_reducible refine below_drewN ?_ _ | with_reducible refine Below.drew ?_ | with_reducible refine Below.trans ?_ (Below.mono (by assumption) ?_) | with_reducible exact Nat.le_refl _ | with_reducible refine Nat.le_trans ?_ (Below.size (by assumption)) | with_reducible refine Nat.le_trans ?_ (size_alloc _ _) | with_reducible refine Nat.le_trans ?_ (size_set _ _ _) | with_reducible refine Nat.le_trans ?_ (size_drewN _ _) | with_reducible refine Nat.le_trans ?_ (size_drew _) | (simp; done) | (simp; omega) | omega))).mono ?_; rintro e w1 ⟨rfl, hb1⟩)
    exact ⟨rfl, rfl, by repeat' (first | with_reducible exact Below.refl _ _ | with_reducible refine Below.setCell ?_ ?_ _ | with_reducible refine Below.alloc ?_ ?_ _ | with_reducible refine below_drewN ?_ _ | with_reducible refine Below.drew ?_ | with_reducible refine Below.trans ?_ (Below.mono (by assumption) ?_) | with_reducible exact Nat.le_refl _ | with_reducible refine Nat.le_trans ?_ (Below.size (by assumption)) | with_reducible refine Nat.le_trans ?_ (size_alloc _ _) | with_reducible refine Nat.le_trans ?_ (size_set _ _ _) | with_reducible refine Nat.le_trans ?_ (size_drewN _ _) | with_reducible refine Nat.le_trans ?_ (size_drew _) | (simp; done) | (simp; omega) | omega)⟩
  | some x =>
    obtain ⟨⟨k, t⟩, n⟩ := x
    simp only [toldP, pcV] at HP
    go_enter Tryz.func75, Tryz.ntmps75
    go_wp2_with (go_at_call 99; refine (HP.out _ (by repeat' (first | with_reducible exact Below.refl _ _ | with_reducible refine Below.setCell ?_ ?_ _ | with_reducible refine Below.alloc ?_ ?_ _ | with_reducible refine below_drewN ?_ _ | with_reducible refine Below.drew ?_ | with_reducible refine Below.trans ?_ (Below.mono (by assumption) ?_) | with_reducible exact Nat.le_refl _ | with_reducible refine Nat.le_trans ?_ (Below.size (by assumption)) | with_reducible refine Nat.le_trans ?_ (size_alloc _ _) | with_reducible refine Nat.le_trans ?_ (size_set _ _ _) | with_reducible refine Nat.le_trans ?_ (size_drewN _ _) | with_reducible refine Nat.le_trans ?_ (size_drew _) | (simp; done) | (simp; omega) | omega))).mono ?_; rintro e w1 ⟨rfl, hb1⟩; obtain ⟨hc1, hf1⟩ := cbcell hb1; have hz1 : w.heap.size < w1.heap.size := by (have := hb1.size; simp at this; omega))
    refine bodyPost_ret (v := .tuple #[.agg #[.int .i64 k, .string ⟨t.toArray⟩], .int .i64 n]) (by simp [results, Tryz.results75, go_sem, hc1]) rfl ⟨rfl, ?_⟩
    repeat' (first | with_reducible exact Below.refl _ _ | with_reducible refine Below.setCell ?_ ?_ _ | with_reducible refine Below.alloc ?_ ?_ _ | with_reducible refine below_drewN ?_ _ | with_reducible refine Below.drew ?_ | with_reducible refine Below.trans ?_ (Below.mono (by assumption) ?_) | with_reducible exact Nat.le_refl _ | with_reducible refine Nat.le_trans ?_ (Below.size (by assumption)) | with_reducible refine Nat.le_trans ?_ (size_alloc _ _) | with_reducible refine Nat.le_trans ?_ (size_set _ _ _) | with_reducible refine Nat.le_trans ?_ (size_drewN _ _) | with_reducible refine Nat.le_trans ?_ (size_drew _) | (simp; done) | (simp; omega) | omega)
set_option maxHeartbeats 2000000 in
theorem first_92 (r : List UInt8) (w : World) (hs : r.length ≤ 1000) :
    Calls Tryz.prog 75 #[.string ⟨((92 : UInt8) :: r).toArray⟩] w fun e w' => toldP (escapedR r) e ∧ Below w.heap.size w w' := by
  have HP : Hid (∀ W : World, Below w.heap.size w W → Calls Tryz.prog 100 #[.string ⟨((92 : UInt8) :: r).toArray⟩] W fun e w' => toldP (escapedR r) e ∧ Below W.heap.size W w') := fun W _ => escaped_any 92 r W (by omega)
  have sz : (⟨((92 : UInt8) :: r).toArray⟩ : ByteArray).size = r.length + 1 := mk_size (92 :: r)
  have hx : ∀ h, (⟨((92 : UInt8) :: r).toArray⟩ : ByteArray)[0]'h = 92 := fun _ => rfl
  generalize (⟨((92 : UInt8) :: r).toArray⟩ : ByteArray) = S at *
  generalize escapedR r = X at *
  have hs' : (r.length : Int) ≤ 1000 := by omega
  have t0 : (((92 : UInt8).toNat : Int) == 34) = false := rfl
  have tt : (((92 : UInt8).toNat : Int) == 92) = true := rfl
  cases X with
  | none =>
    simp only [toldP] at HP
    go_enter Tryz.func75, Tryz.ntmps75
    go_wp2_with (go_at_call 100; refine (HP.out _ (by repeat' (first | with_reducible exact Below.refl _ _ | with_reducible refine Below.setCell ?_ ?_ _ | with_reducible refine Below.alloc ?_ ?_ _ | with_reducible refine below_drewN ?_ _ | with_reducible refine Below.drew ?_ | with_reducible refine Below.trans ?_ (Below.mono (by assumption) ?_) | with_reducible exact Nat.le_refl _ | with_reducible refine Nat.le_trans ?_ (Below.size (by assumption)) | with_reducible refine Nat.le_trans ?_ (size_alloc _ _) | with_reducible refine Nat.le_trans ?_ (size_set _ _ _) | with_reducible refine Nat.le_trans ?_ (size_drewN _ _) | with_reducible refine Nat.le_trans ?_ (size_drew _) | (simp; done) | (simp; omega) | omega))).mono ?_; rintro e w1 ⟨rfl, hb1⟩)
    exact ⟨rfl, rfl, by repeat' (first | with_reducible exact Below.refl _ _ | with_reducible refine Below.setCell ?_ ?_ _ | with_reducible refine Below.alloc ?_ ?_ _ | with_reducible refine below_drewN ?_ _ | with_reducible refine Below.drew ?_ | with_reducible refine Below.trans ?_ (Below.mono (by assumption) ?_) | with_reducible exact Nat.le_refl _ | with_reducible refine Nat.le_trans ?_ (Below.size (by assumption)) | with_reducible refine Nat.le_trans ?_ (size_alloc _ _) | with_reducible refine Nat.le_trans ?_ (size_set _ _ _) | with_reducible refine Nat.le_trans ?_ (size_drewN _ _) | with_reducible refine Nat.le_trans ?_ (size_drew _) | (simp; done) | (simp; omega) | omega)⟩
  | some x =>
    obtain ⟨⟨k, t⟩, n⟩ := x
    simp only [toldP, pcV] at HP
    go_enter Tryz.func75, Tryz.ntmps75
    go_wp2_with (go_at_call 100; refine (HP.out _ (by repeat' (first | with_reducible exact Below.refl _ _ | with_reducible refine Below.setCell ?_ ?_ _ | with_reducible refine Below.alloc ?_ ?_ _ | with_reducible refine below_drewN ?_ _ | with_reducible refine Below.drew ?_ | with_reducible refine Below.trans ?_ (Below.mono (by assumption) ?_) | with_reducible exact Nat.le_refl _ | with_reducible refine Nat.le_trans ?_ (Below.size (by assumption)) | with_reducible refine Nat.le_trans ?_ (size_alloc _ _) | with_reducible refine Nat.le_trans ?_ (size_set _ _ _) | with_reducible refine Nat.le_trans ?_ (size_drewN _ _) | with_reducible refine Nat.le_trans ?_ (size_drew _) | (simp; done) | (simp; omega) | omega))).mono ?_; rintro e w1 ⟨rfl, hb1⟩; obtain ⟨hc1, hf1⟩ := cbcell hb1; have hz1 : w.heap.size < w1.heap.size := by (have := hb1.size; simp at this; omega))
    refine bodyPost_ret (v := .tuple #[.agg #[.int .i64 k, .string ⟨t.toArray⟩], .int .i64 n]) (by simp [results, Tryz.results75, go_sem, hc1]) rfl ⟨rfl, ?_⟩
    repeat' (first | with_reducible exact Below.refl _ _ | with_reducible refine Below.setCell ?_ ?_ _ | with_reducible refine Below.alloc ?_ ?_ _ | with_reducible refine below_drewN ?_ _ | with_reducible refine Below.drew ?_ | with_reducible refine Below.trans ?_ (Below.mono (by assumption) ?_) | with_reducible exact Nat.le_refl _ | with_reducible refine Nat.le_trans ?_ (Below.size (by assumption)) | with_reducible refine Nat.le_trans ?_ (size_alloc _ _) | with_reducible refine Nat.le_trans ?_ (size_set _ _ _) | with_reducible refine Nat.le_trans ?_ (size_drewN _ _) | with_reducible refine Nat.le_trans ?_ (size_drew _) | (simp; done) | (simp; omega) | omega)
set_option maxHeartbeats 2000000 in
theorem first_121 (r : List UInt8) (w : World) (hs : r.length ≤ 1000) :
    Calls Tryz.prog 75 #[.string ⟨((121 : UInt8) :: r).toArray⟩] w fun e w' => toldP (partR 121 r) e ∧ Below w.heap.size w w' := by
  have HP : Hid (∀ W : World, Below w.heap.size w W → Calls Tryz.prog 102 #[.string ⟨((121 : UInt8) :: r).toArray⟩] W fun e w' => toldP (partR 121 r) e ∧ Below W.heap.size W w') := fun W _ => partOfDay_any 121 r W (by omega) (by decide)
  have sz : (⟨((121 : UInt8) :: r).toArray⟩ : ByteArray).size = r.length + 1 := mk_size (121 :: r)
  have hx : ∀ h, (⟨((121 : UInt8) :: r).toArray⟩ : ByteArray)[0]'h = 121 := fun _ => rfl
  generalize (⟨((121 : UInt8) :: r).toArray⟩ : ByteArray) = S at *
  generalize partR 121 r = X at *
  have hs' : (r.length : Int) ≤ 1000 := by omega
  have t0 : (((121 : UInt8).toNat : Int) == 34) = false := rfl
  have t1 : (((121 : UInt8).toNat : Int) == 92) = false := rfl
  have t2 : (((121 : UInt8).toNat : Int) == 37) = false := rfl
  have t3 : (((121 : UInt8).toNat : Int) == 64) = false := rfl
  have t4 : (((121 : UInt8).toNat : Int) == 59) = false := rfl
  have tt : (((121 : UInt8).toNat : Int) == 121) = true := rfl
  cases X with
  | none =>
    simp only [toldP] at HP
    go_enter Tryz.func75, Tryz.ntmps75
    go_wp2_with (go_at_call 102; refine (HP.out _ (by repeat' (first | with_reducible exact Below.refl _ _ | with_reducible refine Below.setCell ?_ ?_ _ | with_reducible refine Below.alloc ?_ ?_ _ | with_reducible refine below_drewN ?_ _ | with_reducible refine Below.drew ?_ | with_reducible refine Below.trans ?_ (Below.mono (by assumption) ?_) | with_reducible exact Nat.le_refl _ | with_reducible refine Nat.le_trans ?_ (Below.size (by assumption)) | with_reducible refine Nat.le_trans ?_ (size_alloc _ _) | with_reducible refine Nat.le_trans ?_ (size_set _ _ _) | with_reducible refine Nat.le_trans ?_ (size_drewN _ _) | with_reducible refine Nat.le_trans ?_ (size_drew _) | (simp; done) | (simp; omega) | omega))).mono ?_; rintro e w1 ⟨rfl, hb1⟩)
    exact ⟨rfl, rfl, by repeat' (first | with_reducible exact Below.refl _ _ | with_reducible refine Below.setCell ?_ ?_ _ | with_reducible refine Below.alloc ?_ ?_ _ | with_reducible refine below_drewN ?_ _ | with_reducible refine Below.drew ?_ | with_reducible refine Below.trans ?_ (Below.mono (by assumption) ?_) | with_reducible exact Nat.le_refl _ | with_reducible refine Nat.le_trans ?_ (Below.size (by assumption)) | with_reducible refine Nat.le_trans ?_ (size_alloc _ _) | with_reducible refine Nat.le_trans ?_ (size_set _ _ _) | with_reducible refine Nat.le_trans ?_ (size_drewN _ _) | with_reducible refine Nat.le_trans ?_ (size_drew _) | (simp; done) | (simp; omega) | omega)⟩
  | some x =>
    obtain ⟨⟨k, t⟩, n⟩ := x
    simp only [toldP, pcV] at HP
    go_enter Tryz.func75, Tryz.ntmps75
    go_wp2_with (go_at_call 102; refine (HP.out _ (by repeat' (first | with_reducible exact Below.refl _ _ | with_reducible refine Below.setCell ?_ ?_ _ | with_reducible refine Below.alloc ?_ ?_ _ | with_reducible refine below_drewN ?_ _ | with_reducible refine Below.drew ?_ | with_reducible refine Below.trans ?_ (Below.mono (by assumption) ?_) | with_reducible exact Nat.le_refl _ | with_reducible refine Nat.le_trans ?_ (Below.size (by assumption)) | with_reducible refine Nat.le_trans ?_ (size_alloc _ _) | with_reducible refine Nat.le_trans ?_ (size_set _ _ _) | with_reducible refine Nat.le_trans ?_ (size_drewN _ _) | with_reducible refine Nat.le_trans ?_ (size_drew _) | (simp; done) | (simp; omega) | omega))).mono ?_; rintro e w1 ⟨rfl, hb1⟩; obtain ⟨hc1, hf1⟩ := cbcell hb1; have hz1 : w.heap.size < w1.heap.size := by (have := hb1.size; simp at this; omega))
    refine bodyPost_ret (v := .tuple #[.agg #[.int .i64 k, .string ⟨t.toArray⟩], .int .i64 n]) (by simp [results, Tryz.results75, go_sem, hc1]) rfl ⟨rfl, ?_⟩
    repeat' (first | with_reducible exact Below.refl _ _ | with_reducible refine Below.setCell ?_ ?_ _ | with_reducible refine Below.alloc ?_ ?_ _ | with_reducible refine below_drewN ?_ _ | with_reducible refine Below.drew ?_ | with_reducible refine Below.trans ?_ (Below.mono (by assumption) ?_) | with_reducible exact Nat.le_refl _ | with_reducible refine Nat.le_trans ?_ (Below.size (by assumption)) | with_reducible refine Nat.le_trans ?_ (size_alloc _ _) | with_reducible refine Nat.le_trans ?_ (size_set _ _ _) | with_reducible refine Nat.le_trans ?_ (size_drewN _ _) | with_reducible refine Nat.le_trans ?_ (size_drew _) | (simp; done) | (simp; omega) | omega)
set_option maxHeartbeats 2000000 in
theorem first_109 (r : List UInt8) (w : World) (hs : r.length ≤ 1000) :
    Calls Tryz.prog 75 #[.string ⟨((109 : UInt8) :: r).toArray⟩] w fun e w' => toldP (partR 109 r) e ∧ Below w.heap.size w w' := by
  have HP : Hid (∀ W : World, Below w.heap.size w W → Calls Tryz.prog 102 #[.string ⟨((109 : UInt8) :: r).toArray⟩] W fun e w' => toldP (partR 109 r) e ∧ Below W.heap.size W w') := fun W _ => partOfDay_any 109 r W (by omega) (by decide)
  have sz : (⟨((109 : UInt8) :: r).toArray⟩ : ByteArray).size = r.length + 1 := mk_size (109 :: r)
  have hx : ∀ h, (⟨((109 : UInt8) :: r).toArray⟩ : ByteArray)[0]'h = 109 := fun _ => rfl
  generalize (⟨((109 : UInt8) :: r).toArray⟩ : ByteArray) = S at *
  generalize partR 109 r = X at *
  have hs' : (r.length : Int) ≤ 1000 := by omega
  have t0 : (((109 : UInt8).toNat : Int) == 34) = false := rfl
  have t1 : (((109 : UInt8).toNat : Int) == 92) = false := rfl
  have t2 : (((109 : UInt8).toNat : Int) == 37) = false := rfl
  have t3 : (((109 : UInt8).toNat : Int) == 64) = false := rfl
  have t4 : (((109 : UInt8).toNat : Int) == 59) = false := rfl
  have t5 : (((109 : UInt8).toNat : Int) == 121) = false := rfl
  have tt : (((109 : UInt8).toNat : Int) == 109) = true := rfl
  cases X with
  | none =>
    simp only [toldP] at HP
    go_enter Tryz.func75, Tryz.ntmps75
    go_wp2_with (go_at_call 102; refine (HP.out _ (by repeat' (first | with_reducible exact Below.refl _ _ | with_reducible refine Below.setCell ?_ ?_ _ | with_reducible refine Below.alloc ?_ ?_ _ | with_reducible refine below_drewN ?_ _ | with_reducible refine Below.drew ?_ | with_reducible refine Below.trans ?_ (Below.mono (by assumption) ?_) | with_reducible exact Nat.le_refl _ | with_reducible refine Nat.le_trans ?_ (Below.size (by assumption)) | with_reducible refine Nat.le_trans ?_ (size_alloc _ _) | with_reducible refine Nat.le_trans ?_ (size_set _ _ _) | with_reducible refine Nat.le_trans ?_ (size_drewN _ _) | with_reducible refine Nat.le_trans ?_ (size_drew _) | (simp; done) | (simp; omega) | omega))).mono ?_; rintro e w1 ⟨rfl, hb1⟩)
    exact ⟨rfl, rfl, by repeat' (first | with_reducible exact Below.refl _ _ | with_reducible refine Below.setCell ?_ ?_ _ | with_reducible refine Below.alloc ?_ ?_ _ | with_reducible refine below_drewN ?_ _ | with_reducible refine Below.drew ?_ | with_reducible refine Below.trans ?_ (Below.mono (by assumption) ?_) | with_reducible exact Nat.le_refl _ | with_reducible refine Nat.le_trans ?_ (Below.size (by assumption)) | with_reducible refine Nat.le_trans ?_ (size_alloc _ _) | with_reducible refine Nat.le_trans ?_ (size_set _ _ _) | with_reducible refine Nat.le_trans ?_ (size_drewN _ _) | with_reducible refine Nat.le_trans ?_ (size_drew _) | (simp; done) | (simp; omega) | omega)⟩
  | some x =>
    obtain ⟨⟨k, t⟩, n⟩ := x
    simp only [toldP, pcV] at HP
    go_enter Tryz.func75, Tryz.ntmps75
    go_wp2_with (go_at_call 102; refine (HP.out _ (by repeat' (first | with_reducible exact Below.refl _ _ | with_reducible refine Below.setCell ?_ ?_ _ | with_reducible refine Below.alloc ?_ ?_ _ | with_reducible refine below_drewN ?_ _ | with_reducible refine Below.drew ?_ | with_reducible refine Below.trans ?_ (Below.mono (by assumption) ?_) | with_reducible exact Nat.le_refl _ | with_reducible refine Nat.le_trans ?_ (Below.size (by assumption)) | with_reducible refine Nat.le_trans ?_ (size_alloc _ _) | with_reducible refine Nat.le_trans ?_ (size_set _ _ _) | with_reducible refine Nat.le_trans ?_ (size_drewN _ _) | with_reducible refine Nat.le_trans ?_ (size_drew _) | (simp; done) | (simp; omega) | omega))).mono ?_; rintro e w1 ⟨rfl, hb1⟩; obtain ⟨hc1, hf1⟩ := cbcell hb1; have hz1 : w.heap.size < w1.heap.size := by (have := hb1.size; simp at this; omega))
    refine bodyPost_ret (v := .tuple #[.agg #[.int .i64 k, .string ⟨t.toArray⟩], .int .i64 n]) (by simp [results, Tryz.results75, go_sem, hc1]) rfl ⟨rfl, ?_⟩
    repeat' (first | with_reducible exact Below.refl _ _ | with_reducible refine Below.setCell ?_ ?_ _ | with_reducible refine Below.alloc ?_ ?_ _ | with_reducible refine below_drewN ?_ _ | with_reducible refine Below.drew ?_ | with_reducible refine Below.trans ?_ (Below.mono (by assumption) ?_) | with_reducible exact Nat.le_refl _ | with_reducible refine Nat.le_trans ?_ (Below.size (by assumption)) | with_reducible refine Nat.le_trans ?_ (size_alloc _ _) | with_reducible refine Nat.le_trans ?_ (size_set _ _ _) | with_reducible refine Nat.le_trans ?_ (size_drewN _ _) | with_reducible refine Nat.le_trans ?_ (size_drew _) | (simp; done) | (simp; omega) | omega)
set_option maxHeartbeats 2000000 in
theorem first_100 (r : List UInt8) (w : World) (hs : r.length ≤ 1000) :
    Calls Tryz.prog 75 #[.string ⟨((100 : UInt8) :: r).toArray⟩] w fun e w' => toldP (partR 100 r) e ∧ Below w.heap.size w w' := by
  have HP : Hid (∀ W : World, Below w.heap.size w W → Calls Tryz.prog 102 #[.string ⟨((100 : UInt8) :: r).toArray⟩] W fun e w' => toldP (partR 100 r) e ∧ Below W.heap.size W w') := fun W _ => partOfDay_any 100 r W (by omega) (by decide)
  have sz : (⟨((100 : UInt8) :: r).toArray⟩ : ByteArray).size = r.length + 1 := mk_size (100 :: r)
  have hx : ∀ h, (⟨((100 : UInt8) :: r).toArray⟩ : ByteArray)[0]'h = 100 := fun _ => rfl
  generalize (⟨((100 : UInt8) :: r).toArray⟩ : ByteArray) = S at *
  generalize partR 100 r = X at *
  have hs' : (r.length : Int) ≤ 1000 := by omega
  have t0 : (((100 : UInt8).toNat : Int) == 34) = false := rfl
  have t1 : (((100 : UInt8).toNat : Int) == 92) = false := rfl
  have t2 : (((100 : UInt8).toNat : Int) == 37) = false := rfl
  have t3 : (((100 : UInt8).toNat : Int) == 64) = false := rfl
  have t4 : (((100 : UInt8).toNat : Int) == 59) = false := rfl
  have t5 : (((100 : UInt8).toNat : Int) == 121) = false := rfl
  have t6 : (((100 : UInt8).toNat : Int) == 109) = false := rfl
  have tt : (((100 : UInt8).toNat : Int) == 100) = true := rfl
  cases X with
  | none =>
    simp only [toldP] at HP
    go_enter Tryz.func75, Tryz.ntmps75
    go_wp2_with (go_at_call 102; refine (HP.out _ (by repeat' (first | with_reducible exact Below.refl _ _ | with_reducible refine Below.setCell ?_ ?_ _ | with_reducible refine Below.alloc ?_ ?_ _ | with_reducible refine below_drewN ?_ _ | with_reducible refine Below.drew ?_ | with_reducible refine Below.trans ?_ (Below.mono (by assumption) ?_) | with_reducible exact Nat.le_refl _ | with_reducible refine Nat.le_trans ?_ (Below.size (by assumption)) | with_reducible refine Nat.le_trans ?_ (size_alloc _ _) | with_reducible refine Nat.le_trans ?_ (size_set _ _ _) | with_reducible refine Nat.le_trans ?_ (size_drewN _ _) | with_reducible refine Nat.le_trans ?_ (size_drew _) | (simp; done) | (simp; omega) | omega))).mono ?_; rintro e w1 ⟨rfl, hb1⟩)
    exact ⟨rfl, rfl, by repeat' (first | with_reducible exact Below.refl _ _ | with_reducible refine Below.setCell ?_ ?_ _ | with_reducible refine Below.alloc ?_ ?_ _ | with_reducible refine below_drewN ?_ _ | with_reducible refine Below.drew ?_ | with_reducible refine Below.trans ?_ (Below.mono (by assumption) ?_) | with_reducible exact Nat.le_refl _ | with_reducible refine Nat.le_trans ?_ (Below.size (by assumption)) | with_reducible refine Nat.le_trans ?_ (size_alloc _ _) | with_reducible refine Nat.le_trans ?_ (size_set _ _ _) | with_reducible refine Nat.le_trans ?_ (size_drewN _ _) | with_reducible refine Nat.le_trans ?_ (size_drew _) | (simp; done) | (simp; omega) | omega)⟩
  | some x =>
    obtain ⟨⟨k, t⟩, n⟩ := x
    simp only [toldP, pcV] at HP
    go_enter Tryz.func75, Tryz.ntmps75
    go_wp2_with (go_at_call 102; refine (HP.out _ (by repeat' (first | with_reducible exact Below.refl _ _ | with_reducible refine Below.setCell ?_ ?_ _ | with_reducible refine Below.alloc ?_ ?_ _ | with_reducible refine below_drewN ?_ _ | with_reducible refine Below.drew ?_ | with_reducible refine Below.trans ?_ (Below.mono (by assumption) ?_) | with_reducible exact Nat.le_refl _ | with_reducible refine Nat.le_trans ?_ (Below.size (by assumption)) | with_reducible refine Nat.le_trans ?_ (size_alloc _ _) | with_reducible refine Nat.le_trans ?_ (size_set _ _ _) | with_reducible refine Nat.le_trans ?_ (size_drewN _ _) | with_reducible refine Nat.le_trans ?_ (size_drew _) | (simp; done) | (simp; omega) | omega))).mono ?_; rintro e w1 ⟨rfl, hb1⟩; obtain ⟨hc1, hf1⟩ := cbcell hb1; have hz1 : w.heap.size < w1.heap.size := by (have := hb1.size; simp at this; omega))
    refine bodyPost_ret (v := .tuple #[.agg #[.int .i64 k, .string ⟨t.toArray⟩], .int .i64 n]) (by simp [results, Tryz.results75, go_sem, hc1]) rfl ⟨rfl, ?_⟩
    repeat' (first | with_reducible exact Below.refl _ _ | with_reducible refine Below.setCell ?_ ?_ _ | with_reducible refine Below.alloc ?_ ?_ _ | with_reducible refine below_drewN ?_ _ | with_reducible refine Below.drew ?_ | with_reducible refine Below.trans ?_ (Below.mono (by assumption) ?_) | with_reducible exact Nat.le_refl _ | with_reducible refine Nat.le_trans ?_ (Below.size (by assumption)) | with_reducible refine Nat.le_trans ?_ (size_alloc _ _) | with_reducible refine Nat.le_trans ?_ (size_set _ _ _) | with_reducible refine Nat.le_trans ?_ (size_drewN _ _) | with_reducible refine Nat.le_trans ?_ (size_drew _) | (simp; done) | (simp; omega) | omega)
set_option maxHeartbeats 4000000 in
theorem first_row (c : UInt8) (r : List UInt8) (w : World) (hs : r.length ≤ 1000) (n34 : c ≠ 34) (n92 : c ≠ 92) (n37 : c ≠ 37) (n64 : c ≠ 64) (n59 : c ≠ 59) (n121 : c ≠ 121) (n109 : c ≠ 109) (n100 : c ≠ 100) (hm : 0 < rowLen (c :: r) marksL) :
    Calls Tryz.prog 75 #[.string ⟨(c :: r).toArray⟩] w fun e w' => toldP (some (⟨1, (c :: r).take (rowLen (c :: r) marksL)⟩, rowLen (c :: r) marksL)) e ∧ Below w.heap.size w w' := by
  have hle := rowLen_le (c :: r) marksL
  have HP : Hid (∀ W : World, Calls Tryz.prog 101 #[.int .i64 1, .string ⟨(c :: r).toArray⟩, .int .i64 (rowLen (c :: r) marksL)] W fun e w' => e = .returned (.tuple #[pcV ⟨1, (c :: r).take (rowLen (c :: r) marksL)⟩, .int .i64 (rowLen (c :: r) marksL)]) ∧ Below W.heap.size W w') := fun W => plain_any 1 (rowLen (c :: r) marksL) (c :: r) W hle
  have HR : Hid (∀ W : World, Calls Tryz.prog 103 #[.string ⟨(c :: r).toArray⟩, .string ⟨#[48, 35, 44, 46]⟩] W fun e w' => e = .returned (.int .i64 (rowLen (c :: r) marksL)) ∧ Below W.heap.size W w') := fun W => row_any (c :: r) marksL W (by simp; omega) (by decide) (by decide)
  have sz : (⟨(c :: r).toArray⟩ : ByteArray).size = r.length + 1 := mk_size (c :: r)
  have hx : ∀ h, (⟨(c :: r).toArray⟩ : ByteArray)[0]'h = c := fun _ => rfl
  have hs' : (r.length : Int) ≤ 1000 := by omega
  have hby := byte_lt c
  have t34 : ((c.toNat : Int) == 34) = false := ne_tst (k := 34) (ne_nat (d := 34) n34)
  have t92 : ((c.toNat : Int) == 92) = false := ne_tst (k := 92) (ne_nat (d := 92) n92)
  have t37 : ((c.toNat : Int) == 37) = false := ne_tst (k := 37) (ne_nat (d := 37) n37)
  have t64 : ((c.toNat : Int) == 64) = false := ne_tst (k := 64) (ne_nat (d := 64) n64)
  have t59 : ((c.toNat : Int) == 59) = false := ne_tst (k := 59) (ne_nat (d := 59) n59)
  have t121 : ((c.toNat : Int) == 121) = false := ne_tst (k := 121) (ne_nat (d := 121) n121)
  have t109 : ((c.toNat : Int) == 109) = false := ne_tst (k := 109) (ne_nat (d := 109) n109)
  have t100 : ((c.toNat : Int) == 100) = false := ne_tst (k := 100) (ne_nat (d := 100) n100)
  clear n34 n92 n37 n64 n59 n121 n109 n100
  simp only [pcV] at HP
  generalize rowLen (c :: r) marksL = N at *
  generalize (c :: r).take N = T at *
  generalize (⟨(c :: r).toArray⟩ : ByteArray) = S at *
  have hm' : (0 : Int) < (N : Int) := by omega
  clear hle
  go_enter Tryz.func75, Tryz.ntmps75
  go_wp2_with (first | (go_at_call 103; refine (HR.out _).mono ?_; rintro e w1 ⟨rfl, hb1⟩; obtain ⟨hc1, hf1⟩ := cbcell hb1; have hz1 : w.heap.size < w1.heap.size := by (have := hb1.size; simp at this; omega)) | (go_at_call 101; refine (HP.out _).mono ?_; rintro e w2 ⟨rfl, hb2⟩; obtain ⟨hc2, hf2⟩ := cbcell hb2; have hz2 : w.heap.size < w2.heap.size := by (have := hb2.size; omega)))
  refine bodyPost_ret (v := .tuple #[.agg #[.int .i64 1, .string ⟨T.toArray⟩], .int .i64 N]) (by simp [results, Tryz.results75, go_sem, hc1, hc2, hz1]) rfl ⟨rfl, ?_⟩
  repeat' (first | with_reducible exact Below.refl _ _ | with_reducible refine Below.setCell ?_ ?_ _ | with_reducible refine Below.alloc ?_ ?_ _ | with_reducible refine below_drewN ?_ _ | with_reducible refine Below.drew ?_ | with_reducible refine Below.trans ?_ (Below.mono (by assumption) ?_) | with_reducible exact Nat.le_refl _ | with_reducible refine Nat.le_trans ?_ (Below.size (by assumption)) | with_reducible refine Nat.le_trans ?_ (size_alloc _ _) | with_reducible refine Nat.le_trans ?_ (size_set _ _ _) | with_reducible refine Nat.le_trans ?_ (size_drewN _ _) | with_reducible refine Nat.le_trans ?_ (size_drew _) | (simp; done) | (simp; omega) | omega)
set_option maxHeartbeats 4000000 in
theorem first_self (c : UInt8) (r : List UInt8) (w : World) (hs : r.length ≤ 1000) (n34 : c ≠ 34) (n92 : c ≠ 92) (n37 : c ≠ 37) (n64 : c ≠ 64) (n59 : c ≠ 59) (n121 : c ≠ 121) (n109 : c ≠ 109) (n100 : c ≠ 100) (hm : rowLen (c :: r) marksL = 0) (hv : selvesL.contains c = true) :
    Calls Tryz.prog 75 #[.string ⟨(c :: r).toArray⟩] w fun e w' => toldP (some (⟨0, [c]⟩, 1)) e ∧ Below w.heap.size w w' := by
  have HP : Hid (∀ W : World, Calls Tryz.prog 101 #[.int .i64 0, .string ⟨(c :: r).toArray⟩, .int .i64 1] W fun e w' => e = .returned (.tuple #[pcV ⟨0, [c]⟩, .int .i64 1]) ∧ Below W.heap.size W w') := fun W => plain_any 0 1 (c :: r) W (by simp)
  have HC : Hid (∀ W : World, Calls Tryz.prog 104 #[.string ⟨#[32, 36, 40, 41, 43, 45, 47, 58, 33, 61]⟩, .string ⟨[c].toArray⟩] W fun e w' => e = .returned (.bool true) ∧ w' = W) := fun W => (Tryz.strings_Contains_one ⟨#[32, 36, 40, 41, 43, 45, 47, 58, 33, 61]⟩ c W).mono fun e w' ⟨h1, h2⟩ => ⟨by rw [h1]; exact congrArg (fun b => Ending.returned (.bool b)) ((Lib.contains_iff_indexByte selvesL c).symm.trans hv), h2⟩
  have HR : Hid (∀ W : World, Calls Tryz.prog 103 #[.string ⟨(c :: r).toArray⟩, .string ⟨#[48, 35, 44, 46]⟩] W fun e w' => e = .returned (.int .i64 (rowLen (c :: r) marksL)) ∧ Below W.heap.size W w') := fun W => row_any (c :: r) marksL W (by simp; omega) (by decide) (by decide)
  have sz : (⟨(c :: r).toArray⟩ : ByteArray).size = r.length + 1 := mk_size (c :: r)
  have hx : ∀ h, (⟨(c :: r).toArray⟩ : ByteArray)[0]'h = c := fun _ => rfl
  have hs' : (r.length : Int) ≤ 1000 := by omega
  have hby := byte_lt c
  have t34 : ((c.toNat : Int) == 34) = false := ne_tst (k := 34) (ne_nat (d := 34) n34)
  have t92 : ((c.toNat : Int) == 92) = false := ne_tst (k := 92) (ne_nat (d := 92) n92)
  have t37 : ((c.toNat : Int) == 37) = false := ne_tst (k := 37) (ne_nat (d := 37) n37)
  have t64 : ((c.toNat : Int) == 64) = false := ne_tst (k := 64) (ne_nat (d := 64) n64)
  have t59 : ((c.toNat : Int) == 59) = false := ne_tst (k := 59) (ne_nat (d := 59) n59)
  have t121 : ((c.toNat : Int) == 121) = false := ne_tst (k := 121) (ne_nat (d := 121) n121)
  have t109 : ((c.toNat : Int) == 109) = false := ne_tst (k := 109) (ne_nat (d := 109) n109)
  have t100 : ((c.toNat : Int) == 100) = false := ne_tst (k := 100) (ne_nat (d := 100) n100)
  clear n34 n92 n37 n64 n59 n121 n109 n100
  have x0 : (⟨(c :: r).toArray⟩ : ByteArray).extract 0 1 = ⟨[c].toArray⟩ := mk_take (c :: r) 1
  rw [hm] at HR
  simp only [pcV] at HP
  generalize (⟨(c :: r).toArray⟩ : ByteArray) = S at *
  clear hm hv
  go_enter Tryz.func75, Tryz.ntmps75
  go_wp2_with (first | (go_at_call 103; refine (HR.out _).mono ?_; rintro e w1 ⟨rfl, hb1⟩; obtain ⟨hc1, hf1⟩ := cbcell hb1; have hz1 : w.heap.size < w1.heap.size := by (have := hb1.size; simp at this; omega)) | (go_at_call 104; refine (HC.out _).mono ?_; rintro e wz ⟨rfl, hz⟩; subst wz) | (go_at_call 47; refine (refuse_any _).mono ?_; rintro e wz ⟨rfl, hz⟩; subst wz) | (go_at_call 101; refine (HP.out _).mono ?_; rintro e w2 ⟨rfl, hb2⟩; obtain ⟨hc2, hf2⟩ := cbcell hb2; have hz2 : w.heap.size < w2.heap.size := by (have := hb2.size; omega)))
  refine bodyPost_ret (v := .tuple #[.agg #[.int .i64 0, .string ⟨[c].toArray⟩], .int .i64 1]) (by simp [results, Tryz.results75, go_sem, hc1, hc2, hz1]) rfl ⟨rfl, ?_⟩
  repeat' (first | with_reducible exact Below.refl _ _ | with_reducible refine Below.setCell ?_ ?_ _ | with_reducible refine Below.alloc ?_ ?_ _ | with_reducible refine below_drewN ?_ _ | with_reducible refine Below.drew ?_ | with_reducible refine Below.trans ?_ (Below.mono (by assumption) ?_) | with_reducible exact Nat.le_refl _ | with_reducible refine Nat.le_trans ?_ (Below.size (by assumption)) | with_reducible refine Nat.le_trans ?_ (size_alloc _ _) | with_reducible refine Nat.le_trans ?_ (size_set _ _ _) | with_reducible refine Nat.le_trans ?_ (size_drewN _ _) | with_reducible refine Nat.le_trans ?_ (size_drew _) | (simp; done) | (simp; omega) | omega)
set_option maxHeartbeats 4000000 in
theorem first_none (c : UInt8) (r : List UInt8) (w : World) (hs : r.length ≤ 1000) (n34 : c ≠ 34) (n92 : c ≠ 92) (n37 : c ≠ 37) (n64 : c ≠ 64) (n59 : c ≠ 59) (n121 : c ≠ 121) (n109 : c ≠ 109) (n100 : c ≠ 100) (hm : rowLen (c :: r) marksL = 0) (hv : selvesL.contains c = false) :
    Calls Tryz.prog 75 #[.string ⟨(c :: r).toArray⟩] w fun e w' => toldP none e ∧ Below w.heap.size w w' := by
  have HP : Hid (∀ W : World, Calls Tryz.prog 101 #[.int .i64 0, .string ⟨(c :: r).toArray⟩, .int .i64 1] W fun e w' => e = .returned (.tuple #[pcV ⟨0, [c]⟩, .int .i64 1]) ∧ Below W.heap.size W w') := fun W => plain_any 0 1 (c :: r) W (by simp)
  have HC : Hid (∀ W : World, Calls Tryz.prog 104 #[.string ⟨#[32, 36, 40, 41, 43, 45, 47, 58, 33, 61]⟩, .string ⟨[c].toArray⟩] W fun e w' => e = .returned (.bool false) ∧ w' = W) := fun W => (Tryz.strings_Contains_one ⟨#[32, 36, 40, 41, 43, 45, 47, 58, 33, 61]⟩ c W).mono fun e w' ⟨h1, h2⟩ => ⟨by rw [h1]; exact congrArg (fun b => Ending.returned (.bool b)) ((Lib.contains_iff_indexByte selvesL c).symm.trans hv), h2⟩
  have HR : Hid (∀ W : World, Calls Tryz.prog 103 #[.string ⟨(c :: r).toArray⟩, .string ⟨#[48, 35, 44, 46]⟩] W fun e w' => e = .returned (.int .i64 (rowLen (c :: r) marksL)) ∧ Below W.heap.size W w') := fun W => row_any (c :: r) marksL W (by simp; omega) (by decide) (by decide)
  have sz : (⟨(c :: r).toArray⟩ : ByteArray).size = r.length + 1 := mk_size (c :: r)
  have hx : ∀ h, (⟨(c :: r).toArray⟩ : ByteArray)[0]'h = c := fun _ => rfl
  have hs' : (r.length : Int) ≤ 1000 := by omega
  have hby := byte_lt c
  have t34 : ((c.toNat : Int) == 34) = false := ne_tst (k := 34) (ne_nat (d := 34) n34)
  have t92 : ((c.toNat : Int) == 92) = false := ne_tst (k := 92) (ne_nat (d := 92) n92)
  have t37 : ((c.toNat : Int) == 37) = false := ne_tst (k := 37) (ne_nat (d := 37) n37)
  have t64 : ((c.toNat : Int) == 64) = false := ne_tst (k := 64) (ne_nat (d := 64) n64)
  have t59 : ((c.toNat : Int) == 59) = false := ne_tst (k := 59) (ne_nat (d := 59) n59)
  have t121 : ((c.toNat : Int) == 121) = false := ne_tst (k := 121) (ne_nat (d := 121) n121)
  have t109 : ((c.toNat : Int) == 109) = false := ne_tst (k := 109) (ne_nat (d := 109) n109)
  have t100 : ((c.toNat : Int) == 100) = false := ne_tst (k := 100) (ne_nat (d := 100) n100)
  clear n34 n92 n37 n64 n59 n121 n109 n100
  have x0 : (⟨(c :: r).toArray⟩ : ByteArray).extract 0 1 = ⟨[c].toArray⟩ := mk_take (c :: r) 1
  rw [hm] at HR
  simp only [pcV] at HP
  generalize (⟨(c :: r).toArray⟩ : ByteArray) = S at *
  clear hm hv
  go_enter Tryz.func75, Tryz.ntmps75
  go_wp2_with (first | (go_at_call 103; refine (HR.out _).mono ?_; rintro e w1 ⟨rfl, hb1⟩; obtain ⟨hc1, hf1⟩ := cbcell hb1; have hz1 : w.heap.size < w1.heap.size := by (have := hb1.size; simp at this; omega)) | (go_at_call 104; refine (HC.out _).mono ?_; rintro e wz ⟨rfl, hz⟩; subst wz) | (go_at_call 47; refine (refuse_any _).mono ?_; rintro e wz ⟨rfl, hz⟩; subst wz) | (go_at_call 101; refine (HP.out _).mono ?_; rintro e w2 ⟨rfl, hb2⟩; obtain ⟨hc2, hf2⟩ := cbcell hb2; have hz2 : w.heap.size < w2.heap.size := by (have := hb2.size; omega)))
  exact ⟨rfl, rfl, by repeat' (first | with_reducible exact Below.refl _ _ | with_reducible refine Below.setCell ?_ ?_ _ | with_reducible refine Below.alloc ?_ ?_ _ | with_reducible refine below_drewN ?_ _ | with_reducible refine Below.drew ?_ | with_reducible refine Below.trans ?_ (Below.mono (by assumption) ?_) | with_reducible exact Nat.le_refl _ | with_reducible refine Nat.le_trans ?_ (Below.size (by assumption)) | with_reducible refine Nat.le_trans ?_ (size_alloc _ _) | with_reducible refine Nat.le_trans ?_ (size_set _ _ _) | with_reducible refine Nat.le_trans ?_ (size_drewN _ _) | with_reducible refine Nat.le_trans ?_ (size_drew _) | (simp; done) | (simp; omega) | omega)⟩
theorem first_any (c : UInt8) (r : List UInt8) (w : World) (hs : r.length ≤ 1000) (hc : CellOk w) :
    Calls Tryz.prog 75 #[.string ⟨(c :: r).toArray⟩] w fun e w' => toldP (firstR (c :: r)) e ∧ Below w.heap.size w w' := by
  unfold firstR
  simp only
  split
  · rename_i h; subst h; exact first_34 r w hs hc
  split
  · rename_i h; subst h; exact first_92 r w hs
  split
  · rename_i h; subst h; exact first_37 r w hs
  split
  · rename_i h; subst h; exact first_64 r w hs
  split
  · rename_i h; subst h; exact first_59 r w hs
  split
  · rename_i h
    rcases h with h | h | h
    · subst h; exact first_121 r w hs
    · subst h; exact first_109 r w hs
    · subst h; exact first_100 r w hs
  rename_i n34 n92 n37 n64 n59 nd
  have n121 : c ≠ 121 := fun h => nd (.inl h)
  have n109 : c ≠ 109 := fun h => nd (.inr (.inl h))
  have n100 : c ≠ 100 := fun h => nd (.inr (.inr h))
  split
  · rename_i hm; exact first_row c r w hs n34 n92 n37 n64 n59 n121 n109 n100 hm
  rename_i hm
  split
  · rename_i hv; exact first_self c r w hs n34 n92 n37 n64 n59 n121 n109 n100 (by omega) hv
  · rename_i hv; exact first_none c r w hs n34 n92 n37 n64 n59 n121 n109 n100 (by omega) (by simpa using hv)
end Go.Proofs.YtnhaapcpklfkpaaGreatDoor
