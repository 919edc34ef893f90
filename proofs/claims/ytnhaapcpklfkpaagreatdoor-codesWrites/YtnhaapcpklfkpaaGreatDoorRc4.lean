/-
  The answer's piece.
-/
import Derived.Test.YtnhaapcpklfkpaaGreatDoorRc3
namespace Go.Proofs.YtnhaapcpklfkpaaGreatDoor
open Go.RowKit
set_option linter.unusedSimpArgs false

theorem cut_mid (l : List UInt8) (i j : Nat) : (⟨l.toArray⟩ : ByteArray).extract i j = ⟨((l.drop i).take (j - i)).toArray⟩ := by
  rw [Lib.extract_mk]
theorem rowLen_all (l cs : List UInt8) : ∀ d ∈ l.take (rowLen l cs), cs.contains d = true := by
  intro d hd
  have e := List.takeWhile_append_dropWhile (p := (cs.contains ·)) (l := l)
  have e2 : rowLen l cs = (l.takeWhile (cs.contains ·)).length := by
    unfold rowLen Lib.trimLeftS
    have := congrArg List.length e
    rw [List.length_append] at this
    omega
  have q := List.take_left (l₁ := l.takeWhile (cs.contains ·)) (l₂ := l.dropWhile (cs.contains ·))
  rw [e, ← e2] at q
  rw [q] at hd
  exact List.all_eq_true.1 (List.all_takeWhile (p := (cs.contains ·)) (l := l)) d hd
theorem ret_pc {p : Pc} {a : Int} {b : ByteArray} (h1 : a = (kk p.k : Int)) (h2 : b = ⟨p.t.toArray⟩) : Value.agg #[.int .i64 a, .string b] = rpc p := by subst h1 h2; rfl
set_option maxRecDepth 100000 in
set_option maxHeartbeats 4000000 in
theorem rp_at (S : List UInt8) (a : Nat) (c : UInt8) (w : World) (ha : a < S.length) (hs : S.length ≤ 1000) (hc : S[a] = c) (h0 : c = 64) :
    Calls Tryz.prog 36 #[.string ⟨S.toArray⟩, .int .i64 (a : Int)] w fun e w' => e = .returned (.tuple #[(rFirst (S.drop a)).1, .int .i64 (rFirst (S.drop a)).2]) ∧ Below w.heap.size w w' := by
  have sz := mk_size S
  have hL : S.drop a = c :: S.drop (a + 1) := by rw [← hc]; exact List.drop_eq_getElem_cons ha
  have hx : ∀ h, (⟨S.toArray⟩ : ByteArray)[a]'h = c := fun h => hc
  have g1 : (a : Int) < (S.length : Int) := by omega
  have g0 : (0 : Int) ≤ (a : Int) := by omega
  have hti : (S.length : Int) ≤ 1000 := by omega
  have wr1 : IntKind.i64.wrap ((a : Int) + 1) = (a : Int) + 1 := by rw [IntKind.wrap_i64]; omega
  have g2 : (a : Int) + 1 ≤ (S.length : Int) := by omega
  have t1 : ((a : Int) + 1).toNat = a + 1 := by omega
  have e34 : ¬ (c.toNat : Int) = 34 := by subst h0; decide
  have b34 : ((c.toNat : Int) == 34) = false := by rw [beq_eq_false_iff_ne]; exact e34
  have n34 : ((c.toNat : Int) != 34) = true := by rw [bne, b34]; rfl
  have e92 : ¬ (c.toNat : Int) = 92 := by subst h0; decide
  have b92 : ((c.toNat : Int) == 92) = false := by rw [beq_eq_false_iff_ne]; exact e92
  have n92 : ((c.toNat : Int) != 92) = true := by rw [bne, b92]; rfl
  have e37 : ¬ (c.toNat : Int) = 37 := by subst h0; decide
  have b37 : ((c.toNat : Int) == 37) = false := by rw [beq_eq_false_iff_ne]; exact e37
  have n37 : ((c.toNat : Int) != 37) = true := by rw [bne, b37]; rfl
  have e64 : (c.toNat : Int) = 64 := by subst h0; decide
  have b64 : ((c.toNat : Int) == 64) = true := by rw [e64]; rfl
  have n64 : ((c.toNat : Int) != 64) = false := by rw [bne, b64]; rfl
  have e121 : ¬ (c.toNat : Int) = 121 := by subst h0; decide
  have b121 : ((c.toNat : Int) == 121) = false := by rw [beq_eq_false_iff_ne]; exact e121
  have n121 : ((c.toNat : Int) != 121) = true := by rw [bne, b121]; rfl
  have HS : Hid (∀ W : World, Calls Tryz.prog 64 #[.int .u8 64, .string ⟨#[32, 36, 40, 41, 43, 45, 47, 58, 33, 61]⟩] W fun e w' => e = .returned (.bool false) ∧ Below W.heap.size W w') := fun W => by have q := rin_any c selvesL W (by decide); rw [show selvesL.contains c = false by subst h0; decide] at q; rw [e64] at q; exact q
  have HM : Hid (∀ W : World, Calls Tryz.prog 64 #[.int .u8 64, .string ⟨#[48, 35, 44, 46]⟩] W fun e w' => e = .returned (.bool false) ∧ Below W.heap.size W w') := fun W => by have q := rin_any c marksL W (by decide); rw [show marksL.contains c = false by subst h0; decide] at q; rw [e64] at q; exact q
  have HD : Hid (∀ W : World, Calls Tryz.prog 64 #[.int .u8 64, .string ⟨#[121, 109, 100]⟩] W fun e w' => e = .returned (.bool false) ∧ Below W.heap.size W w') := fun W => by have q := rin_any c daysL W (by decide); rw [show daysL.contains c = false by subst h0; decide] at q; rw [e64] at q; exact q
  rw [hL, show c = 64 from h0, rfirst_at]
  clear hL hc h0
  go_enter Tryz.func36, Tryz.ntmps36
  go_wp2_with (first | (go_at_call 64; refine (HS.out _).mono ?_; rintro e w1 ⟨rfl, hb1⟩; clear HS; obtain ⟨hc1, hf1⟩ := cbcell hb1; have hz1 : w.heap.size < w1.heap.size := by (have := hb1.size; simp at this; omega)) | (go_at_call 64; refine (HM.out _).mono ?_; rintro e w2 ⟨rfl, hb2⟩; clear HM; obtain ⟨hc2, hf2⟩ := cbcell hb2; have hz2 : w.heap.size < w2.heap.size := by (have := hb2.size; omega)) | (go_at_call 64; refine (HD.out _).mono ?_; rintro e w3 ⟨rfl, hb3⟩; clear HD; obtain ⟨hc3, hf3⟩ := cbcell hb3; have hz3 : w.heap.size < w3.heap.size := by (have := hb3.size; omega)))
  (refine bodyPost_ret (v := .tuple #[.agg #[.int .i64 3, .string ⟨#[64]⟩], .int .i64 1]) (by simp [results, Tryz.results36, go_sem , hc1, hz1, hc2, hz2, hc3, hz3]) rfl ⟨rfl, ?_⟩; repeat' (first | with_reducible exact Below.refl _ _ | with_reducible refine Below.setCell ?_ ?_ _ | with_reducible refine Below.alloc ?_ ?_ _ | with_reducible refine below_drewN ?_ _ | with_reducible refine Below.drew ?_ | with_reducible refine Below.trans ?_ (Below.mono (by assumption) ?_) | with_reducible exact Nat.le_refl _ | with_reducible refine Nat.le_trans ?_ (Below.size (by assumption)) | with_reducible refine Nat.le_trans ?_ (size_alloc _ _) | with_reducible refine Nat.le_trans ?_ (size_set _ _ _) | with_reducible refine Nat.le_trans ?_ (size_drewN _ _) | with_reducible refine Nat.le_trans ?_ (size_drew _) | (simp; done) | (simp; omega) | omega))
set_option maxRecDepth 100000 in
set_option maxHeartbeats 4000000 in
theorem rp_hundred (S : List UInt8) (a : Nat) (c : UInt8) (w : World) (ha : a < S.length) (hs : S.length ≤ 1000) (hc : S[a] = c) (h0 : c = 37) :
    Calls Tryz.prog 36 #[.string ⟨S.toArray⟩, .int .i64 (a : Int)] w fun e w' => e = .returned (.tuple #[(rFirst (S.drop a)).1, .int .i64 (rFirst (S.drop a)).2]) ∧ Below w.heap.size w w' := by
  have sz := mk_size S
  have hL : S.drop a = c :: S.drop (a + 1) := by rw [← hc]; exact List.drop_eq_getElem_cons ha
  have hx : ∀ h, (⟨S.toArray⟩ : ByteArray)[a]'h = c := fun h => hc
  have g1 : (a : Int) < (S.length : Int) := by omega
  have g0 : (0 : Int) ≤ (a : Int) := by omega
  have hti : (S.length : Int) ≤ 1000 := by omega
  have wr1 : IntKind.i64.wrap ((a : Int) + 1) = (a : Int) + 1 := by rw [IntKind.wrap_i64]; omega
  have g2 : (a : Int) + 1 ≤ (S.length : Int) := by omega
  have t1 : ((a : Int) + 1).toNat = a + 1 := by omega
  have e34 : ¬ (c.toNat : Int) = 34 := by subst h0; decide
  have b34 : ((c.toNat : Int) == 34) = false := by rw [beq_eq_false_iff_ne]; exact e34
  have n34 : ((c.toNat : Int) != 34) = true := by rw [bne, b34]; rfl
  have e92 : ¬ (c.toNat : Int) = 92 := by subst h0; decide
  have b92 : ((c.toNat : Int) == 92) = false := by rw [beq_eq_false_iff_ne]; exact e92
  have n92 : ((c.toNat : Int) != 92) = true := by rw [bne, b92]; rfl
  have e37 : (c.toNat : Int) = 37 := by subst h0; decide
  have b37 : ((c.toNat : Int) == 37) = true := by rw [e37]; rfl
  have n37 : ((c.toNat : Int) != 37) = false := by rw [bne, b37]; rfl
  have e64 : ¬ (c.toNat : Int) = 64 := by subst h0; decide
  have b64 : ((c.toNat : Int) == 64) = false := by rw [beq_eq_false_iff_ne]; exact e64
  have n64 : ((c.toNat : Int) != 64) = true := by rw [bne, b64]; rfl
  have e121 : ¬ (c.toNat : Int) = 121 := by subst h0; decide
  have b121 : ((c.toNat : Int) == 121) = false := by rw [beq_eq_false_iff_ne]; exact e121
  have n121 : ((c.toNat : Int) != 121) = true := by rw [bne, b121]; rfl
  have HS : Hid (∀ W : World, Calls Tryz.prog 64 #[.int .u8 37, .string ⟨#[32, 36, 40, 41, 43, 45, 47, 58, 33, 61]⟩] W fun e w' => e = .returned (.bool false) ∧ Below W.heap.size W w') := fun W => by have q := rin_any c selvesL W (by decide); rw [show selvesL.contains c = false by subst h0; decide] at q; rw [e37] at q; exact q
  have HM : Hid (∀ W : World, Calls Tryz.prog 64 #[.int .u8 37, .string ⟨#[48, 35, 44, 46]⟩] W fun e w' => e = .returned (.bool false) ∧ Below W.heap.size W w') := fun W => by have q := rin_any c marksL W (by decide); rw [show marksL.contains c = false by subst h0; decide] at q; rw [e37] at q; exact q
  have HD : Hid (∀ W : World, Calls Tryz.prog 64 #[.int .u8 37, .string ⟨#[121, 109, 100]⟩] W fun e w' => e = .returned (.bool false) ∧ Below W.heap.size W w') := fun W => by have q := rin_any c daysL W (by decide); rw [show daysL.contains c = false by subst h0; decide] at q; rw [e37] at q; exact q
  rw [hL, show c = 37 from h0, rfirst_hundred]
  clear hL hc h0
  go_enter Tryz.func36, Tryz.ntmps36
  go_wp2_with (first | (go_at_call 64; refine (HS.out _).mono ?_; rintro e w1 ⟨rfl, hb1⟩; clear HS; obtain ⟨hc1, hf1⟩ := cbcell hb1; have hz1 : w.heap.size < w1.heap.size := by (have := hb1.size; simp at this; omega)) | (go_at_call 64; refine (HM.out _).mono ?_; rintro e w2 ⟨rfl, hb2⟩; clear HM; obtain ⟨hc2, hf2⟩ := cbcell hb2; have hz2 : w.heap.size < w2.heap.size := by (have := hb2.size; omega)) | (go_at_call 64; refine (HD.out _).mono ?_; rintro e w3 ⟨rfl, hb3⟩; clear HD; obtain ⟨hc3, hf3⟩ := cbcell hb3; have hz3 : w.heap.size < w3.heap.size := by (have := hb3.size; omega)))
  (refine bodyPost_ret (v := .tuple #[.agg #[.int .i64 4, .string ⟨#[37]⟩], .int .i64 1]) (by simp [results, Tryz.results36, go_sem , hc1, hz1, hc2, hz2]) rfl ⟨rfl, ?_⟩; repeat' (first | with_reducible exact Below.refl _ _ | with_reducible refine Below.setCell ?_ ?_ _ | with_reducible refine Below.alloc ?_ ?_ _ | with_reducible refine below_drewN ?_ _ | with_reducible refine Below.drew ?_ | with_reducible refine Below.trans ?_ (Below.mono (by assumption) ?_) | with_reducible exact Nat.le_refl _ | with_reducible refine Nat.le_trans ?_ (Below.size (by assumption)) | with_reducible refine Nat.le_trans ?_ (size_alloc _ _) | with_reducible refine Nat.le_trans ?_ (size_set _ _ _) | with_reducible refine Nat.le_trans ?_ (size_drewN _ _) | with_reducible refine Nat.le_trans ?_ (size_drew _) | (simp; done) | (simp; omega) | omega))
set_option maxRecDepth 100000 in
set_option maxHeartbeats 4000000 in
theorem rp_self (S : List UInt8) (a : Nat) (c : UInt8) (w : World) (ha : a < S.length) (hs : S.length ≤ 1000) (hc : S[a] = c) (hcs : c = 32 ∨ c = 36 ∨ c = 40 ∨ c = 41 ∨ c = 43 ∨ c = 45 ∨ c = 47 ∨ c = 58 ∨ c = 33 ∨ c = 61) :
    Calls Tryz.prog 36 #[.string ⟨S.toArray⟩, .int .i64 (a : Int)] w fun e w' => e = .returned (.tuple #[(rFirst (S.drop a)).1, .int .i64 (rFirst (S.drop a)).2]) ∧ Below w.heap.size w w' := by
  have sz := mk_size S
  have hL : S.drop a = c :: S.drop (a + 1) := by rw [← hc]; exact List.drop_eq_getElem_cons ha
  have hx : ∀ h, (⟨S.toArray⟩ : ByteArray)[a]'h = c := fun h => hc
  have g1 : (a : Int) < (S.length : Int) := by omega
  have g0 : (0 : Int) ≤ (a : Int) := by omega
  have hti : (S.length : Int) ≤ 1000 := by omega
  have wr1 : IntKind.i64.wrap ((a : Int) + 1) = (a : Int) + 1 := by rw [IntKind.wrap_i64]; omega
  have g2 : (a : Int) + 1 ≤ (S.length : Int) := by omega
  have t1 : ((a : Int) + 1).toNat = a + 1 := by omega
  have e34 : ¬ (c.toNat : Int) = 34 := by rcases hcs with q | q | q | q | q | q | q | q | q | q <;> subst q <;> decide
  have b34 : ((c.toNat : Int) == 34) = false := by rw [beq_eq_false_iff_ne]; exact e34
  have n34 : ((c.toNat : Int) != 34) = true := by rw [bne, b34]; rfl
  have e92 : ¬ (c.toNat : Int) = 92 := by rcases hcs with q | q | q | q | q | q | q | q | q | q <;> subst q <;> decide
  have b92 : ((c.toNat : Int) == 92) = false := by rw [beq_eq_false_iff_ne]; exact e92
  have n92 : ((c.toNat : Int) != 92) = true := by rw [bne, b92]; rfl
  have e37 : ¬ (c.toNat : Int) = 37 := by rcases hcs with q | q | q | q | q | q | q | q | q | q <;> subst q <;> decide
  have b37 : ((c.toNat : Int) == 37) = false := by rw [beq_eq_false_iff_ne]; exact e37
  have n37 : ((c.toNat : Int) != 37) = true := by rw [bne, b37]; rfl
  have e64 : ¬ (c.toNat : Int) = 64 := by rcases hcs with q | q | q | q | q | q | q | q | q | q <;> subst q <;> decide
  have b64 : ((c.toNat : Int) == 64) = false := by rw [beq_eq_false_iff_ne]; exact e64
  have n64 : ((c.toNat : Int) != 64) = true := by rw [bne, b64]; rfl
  have e121 : ¬ (c.toNat : Int) = 121 := by rcases hcs with q | q | q | q | q | q | q | q | q | q <;> subst q <;> decide
  have b121 : ((c.toNat : Int) == 121) = false := by rw [beq_eq_false_iff_ne]; exact e121
  have n121 : ((c.toNat : Int) != 121) = true := by rw [bne, b121]; rfl
  have HS : Hid (∀ W : World, Calls Tryz.prog 64 #[.int .u8 (c.toNat : Int), .string ⟨#[32, 36, 40, 41, 43, 45, 47, 58, 33, 61]⟩] W fun e w' => e = .returned (.bool true) ∧ Below W.heap.size W w') := fun W => by have q := rin_any c selvesL W (by decide); rw [show selvesL.contains c = true by rcases hcs with q | q | q | q | q | q | q | q | q | q <;> subst q <;> decide] at q; exact q
  have HM : Hid (∀ W : World, Calls Tryz.prog 64 #[.int .u8 (c.toNat : Int), .string ⟨#[48, 35, 44, 46]⟩] W fun e w' => e = .returned (.bool false) ∧ Below W.heap.size W w') := fun W => by have q := rin_any c marksL W (by decide); rw [show marksL.contains c = false by rcases hcs with q | q | q | q | q | q | q | q | q | q <;> subst q <;> decide] at q; exact q
  have HD : Hid (∀ W : World, Calls Tryz.prog 64 #[.int .u8 (c.toNat : Int), .string ⟨#[121, 109, 100]⟩] W fun e w' => e = .returned (.bool false) ∧ Below W.heap.size W w') := fun W => by have q := rin_any c daysL W (by decide); rw [show daysL.contains c = false by rcases hcs with q | q | q | q | q | q | q | q | q | q <;> subst q <;> decide] at q; exact q
  rw [hL, rfirst_self (by rcases hcs with q | q | q | q | q | q | q | q | q | q <;> subst q <;> decide)]
  have hcut : (⟨S.toArray⟩ : ByteArray).extract a (a + 1) = ⟨[c].toArray⟩ := by rw [cut_mid, hL, Nat.add_sub_cancel_left]; rfl
  clear hL hc hcs
  go_enter Tryz.func36, Tryz.ntmps36
  go_wp2_with (first | (go_at_call 64; refine (HS.out _).mono ?_; rintro e w1 ⟨rfl, hb1⟩; clear HS; obtain ⟨hc1, hf1⟩ := cbcell hb1; have hz1 : w.heap.size < w1.heap.size := by (have := hb1.size; simp at this; omega)) | (go_at_call 64; refine (HM.out _).mono ?_; rintro e w2 ⟨rfl, hb2⟩; clear HM; obtain ⟨hc2, hf2⟩ := cbcell hb2; have hz2 : w.heap.size < w2.heap.size := by (have := hb2.size; omega)) | (go_at_call 64; refine (HD.out _).mono ?_; rintro e w3 ⟨rfl, hb3⟩; clear HD; obtain ⟨hc3, hf3⟩ := cbcell hb3; have hz3 : w.heap.size < w3.heap.size := by (have := hb3.size; omega)))
  (refine bodyPost_ret (v := .tuple #[.agg #[.int .i64 0, .string ⟨[c].toArray⟩], .int .i64 1]) (by simp [results, Tryz.results36, go_sem , hc1, hz1]) rfl ⟨rfl, ?_⟩; repeat' (first | with_reducible exact Below.refl _ _ | with_reducible refine Below.setCell ?_ ?_ _ | with_reducible refine Below.alloc ?_ ?_ _ | with_reducible refine below_drewN ?_ _ | with_reducible refine Below.drew ?_ | with_reducible refine Below.trans ?_ (Below.mono (by assumption) ?_) | with_reducible exact Nat.le_refl _ | with_reducible refine Nat.le_trans ?_ (Below.size (by assumption)) | with_reducible refine Nat.le_trans ?_ (size_alloc _ _) | with_reducible refine Nat.le_trans ?_ (size_set _ _ _) | with_reducible refine Nat.le_trans ?_ (size_drewN _ _) | with_reducible refine Nat.le_trans ?_ (size_drew _) | (simp; done) | (simp; omega) | omega))
set_option maxRecDepth 100000 in
set_option maxHeartbeats 4000000 in
theorem rp_else (S : List UInt8) (a : Nat) (c : UInt8) (w : World) (ha : a < S.length) (hs : S.length ≤ 1000) (hc : S[a] = c) (h1 : c ≠ 34) (h2 : c ≠ 92) (h3 : c ≠ 37) (h4 : c ≠ 64) (h5 : c ≠ 59) (h6 : daysL.contains c = false) (h7 : marksL.contains c = false) (h8 : selvesL.contains c = false) :
    Calls Tryz.prog 36 #[.string ⟨S.toArray⟩, .int .i64 (a : Int)] w fun e w' => e = .returned (.tuple #[(rFirst (S.drop a)).1, .int .i64 (rFirst (S.drop a)).2]) ∧ Below w.heap.size w w' := by
  have sz := mk_size S
  have hL : S.drop a = c :: S.drop (a + 1) := by rw [← hc]; exact List.drop_eq_getElem_cons ha
  have hx : ∀ h, (⟨S.toArray⟩ : ByteArray)[a]'h = c := fun h => hc
  have g1 : (a : Int) < (S.length : Int) := by omega
  have g0 : (0 : Int) ≤ (a : Int) := by omega
  have hti : (S.length : Int) ≤ 1000 := by omega
  have wr1 : IntKind.i64.wrap ((a : Int) + 1) = (a : Int) + 1 := by rw [IntKind.wrap_i64]; omega
  have g2 : (a : Int) + 1 ≤ (S.length : Int) := by omega
  have t1 : ((a : Int) + 1).toNat = a + 1 := by omega
  have e34 : ¬ (c.toNat : Int) = 34 := by exact fun q => h1 (UInt8.toNat_inj.1 (by show c.toNat = 34; omega))
  have b34 : ((c.toNat : Int) == 34) = false := by rw [beq_eq_false_iff_ne]; exact e34
  have n34 : ((c.toNat : Int) != 34) = true := by rw [bne, b34]; rfl
  have e92 : ¬ (c.toNat : Int) = 92 := by exact fun q => h2 (UInt8.toNat_inj.1 (by show c.toNat = 92; omega))
  have b92 : ((c.toNat : Int) == 92) = false := by rw [beq_eq_false_iff_ne]; exact e92
  have n92 : ((c.toNat : Int) != 92) = true := by rw [bne, b92]; rfl
  have e37 : ¬ (c.toNat : Int) = 37 := by exact fun q => h3 (UInt8.toNat_inj.1 (by show c.toNat = 37; omega))
  have b37 : ((c.toNat : Int) == 37) = false := by rw [beq_eq_false_iff_ne]; exact e37
  have n37 : ((c.toNat : Int) != 37) = true := by rw [bne, b37]; rfl
  have e64 : ¬ (c.toNat : Int) = 64 := by exact fun q => h4 (UInt8.toNat_inj.1 (by show c.toNat = 64; omega))
  have b64 : ((c.toNat : Int) == 64) = false := by rw [beq_eq_false_iff_ne]; exact e64
  have n64 : ((c.toNat : Int) != 64) = true := by rw [bne, b64]; rfl
  have HS : Hid (∀ W : World, Calls Tryz.prog 64 #[.int .u8 (c.toNat : Int), .string ⟨#[32, 36, 40, 41, 43, 45, 47, 58, 33, 61]⟩] W fun e w' => e = .returned (.bool false) ∧ Below W.heap.size W w') := fun W => by have q := rin_any c selvesL W (by decide); rw [h8] at q; exact q
  have HM : Hid (∀ W : World, Calls Tryz.prog 64 #[.int .u8 (c.toNat : Int), .string ⟨#[48, 35, 44, 46]⟩] W fun e w' => e = .returned (.bool false) ∧ Below W.heap.size W w') := fun W => by have q := rin_any c marksL W (by decide); rw [h7] at q; exact q
  have HD : Hid (∀ W : World, Calls Tryz.prog 64 #[.int .u8 (c.toNat : Int), .string ⟨#[121, 109, 100]⟩] W fun e w' => e = .returned (.bool false) ∧ Below W.heap.size W w') := fun W => by have q := rin_any c daysL W (by decide); rw [h6] at q; exact q
  rw [hL, rfirst_else h1 h2 h3 h4 h5 h6 h7 h8]
  clear hL hc h1 h2 h3 h4 h5 h6 h7 h8
  go_enter Tryz.func36, Tryz.ntmps36
  go_wp2_with (first | (go_at_call 64; refine (HS.out _).mono ?_; rintro e w1 ⟨rfl, hb1⟩; clear HS; obtain ⟨hc1, hf1⟩ := cbcell hb1; have hz1 : w.heap.size < w1.heap.size := by (have := hb1.size; simp at this; omega)) | (go_at_call 64; refine (HM.out _).mono ?_; rintro e w2 ⟨rfl, hb2⟩; clear HM; obtain ⟨hc2, hf2⟩ := cbcell hb2; have hz2 : w.heap.size < w2.heap.size := by (have := hb2.size; omega)) | (go_at_call 64; refine (HD.out _).mono ?_; rintro e w3 ⟨rfl, hb3⟩; clear HD; obtain ⟨hc3, hf3⟩ := cbcell hb3; have hz3 : w.heap.size < w3.heap.size := by (have := hb3.size; omega)))
  (refine bodyPost_ret (v := .tuple #[.agg #[.int .i64 0, .string ⟨#[]⟩], .int .i64 0]) (by simp [results, Tryz.results36, go_sem , hc1, hz1, hc2, hz2, hc3, hz3]) rfl ⟨rfl, ?_⟩; repeat' (first | with_reducible exact Below.refl _ _ | with_reducible refine Below.setCell ?_ ?_ _ | with_reducible refine Below.alloc ?_ ?_ _ | with_reducible refine below_drewN ?_ _ | with_reducible refine Below.drew ?_ | with_reducible refine Below.trans ?_ (Below.mono (by assumption) ?_) | with_reducible exact Nat.le_refl _ | with_reducible refine Nat.le_trans ?_ (Below.size (by assumption)) | with_reducible refine Nat.le_trans ?_ (size_alloc _ _) | with_reducible refine Nat.le_trans ?_ (size_set _ _ _) | with_reducible refine Nat.le_trans ?_ (size_drewN _ _) | with_reducible refine Nat.le_trans ?_ (size_drew _) | (simp; done) | (simp; omega) | omega))
set_option maxRecDepth 100000 in
set_option maxHeartbeats 4000000 in
theorem rp_bare (S : List UInt8) (a : Nat) (c : UInt8) (w : World) (ha : a < S.length) (hs : S.length ≤ 1000) (hc : S[a] = c) (h0 : c = 92) (hl : S.length = a + 1) :
    Calls Tryz.prog 36 #[.string ⟨S.toArray⟩, .int .i64 (a : Int)] w fun e w' => e = .returned (.tuple #[(rFirst (S.drop a)).1, .int .i64 (rFirst (S.drop a)).2]) ∧ Below w.heap.size w w' := by
  have sz := mk_size S
  have hL : S.drop a = c :: S.drop (a + 1) := by rw [← hc]; exact List.drop_eq_getElem_cons ha
  have hx : ∀ h, (⟨S.toArray⟩ : ByteArray)[a]'h = c := fun h => hc
  have g1 : (a : Int) < (S.length : Int) := by omega
  have g0 : (0 : Int) ≤ (a : Int) := by omega
  have hti : (S.length : Int) ≤ 1000 := by omega
  have wr1 : IntKind.i64.wrap ((a : Int) + 1) = (a : Int) + 1 := by rw [IntKind.wrap_i64]; omega
  have g2 : (a : Int) + 1 ≤ (S.length : Int) := by omega
  have t1 : ((a : Int) + 1).toNat = a + 1 := by omega
  have e34 : ¬ (c.toNat : Int) = 34 := by subst h0; decide
  have b34 : ((c.toNat : Int) == 34) = false := by rw [beq_eq_false_iff_ne]; exact e34
  have n34 : ((c.toNat : Int) != 34) = true := by rw [bne, b34]; rfl
  have e92 : (c.toNat : Int) = 92 := by subst h0; decide
  have b92 : ((c.toNat : Int) == 92) = true := by rw [e92]; rfl
  have n92 : ((c.toNat : Int) != 92) = false := by rw [bne, b92]; rfl
  have e37 : ¬ (c.toNat : Int) = 37 := by subst h0; decide
  have b37 : ((c.toNat : Int) == 37) = false := by rw [beq_eq_false_iff_ne]; exact e37
  have n37 : ((c.toNat : Int) != 37) = true := by rw [bne, b37]; rfl
  have e64 : ¬ (c.toNat : Int) = 64 := by subst h0; decide
  have b64 : ((c.toNat : Int) == 64) = false := by rw [beq_eq_false_iff_ne]; exact e64
  have n64 : ((c.toNat : Int) != 64) = true := by rw [bne, b64]; rfl
  have e121 : ¬ (c.toNat : Int) = 121 := by subst h0; decide
  have b121 : ((c.toNat : Int) == 121) = false := by rw [beq_eq_false_iff_ne]; exact e121
  have n121 : ((c.toNat : Int) != 121) = true := by rw [bne, b121]; rfl
  have HS : Hid (∀ W : World, Calls Tryz.prog 64 #[.int .u8 (c.toNat : Int), .string ⟨#[32, 36, 40, 41, 43, 45, 47, 58, 33, 61]⟩] W fun e w' => e = .returned (.bool false) ∧ Below W.heap.size W w') := fun W => by have q := rin_any c selvesL W (by decide); rw [show selvesL.contains c = false by subst h0; decide] at q; exact q
  have HM : Hid (∀ W : World, Calls Tryz.prog 64 #[.int .u8 (c.toNat : Int), .string ⟨#[48, 35, 44, 46]⟩] W fun e w' => e = .returned (.bool false) ∧ Below W.heap.size W w') := fun W => by have q := rin_any c marksL W (by decide); rw [show marksL.contains c = false by subst h0; decide] at q; exact q
  have HD : Hid (∀ W : World, Calls Tryz.prog 64 #[.int .u8 (c.toNat : Int), .string ⟨#[121, 109, 100]⟩] W fun e w' => e = .returned (.bool false) ∧ Below W.heap.size W w') := fun W => by have q := rin_any c daysL W (by decide); rw [show daysL.contains c = false by subst h0; decide] at q; exact q
  rw [hL, show S.drop (a + 1) = [] from List.drop_eq_nil_of_le (by omega), show c = 92 from h0, rfirst_bare]
  have g3 : ¬ (a : Int) + 1 < (S.length : Int) := by omega
  clear hL hc h0
  go_enter Tryz.func36, Tryz.ntmps36
  go_wp2_with (first | (go_at_call 64; refine (HS.out _).mono ?_; rintro e w1 ⟨rfl, hb1⟩; clear HS; obtain ⟨hc1, hf1⟩ := cbcell hb1; have hz1 : w.heap.size < w1.heap.size := by (have := hb1.size; simp at this; omega)) | (go_at_call 64; refine (HM.out _).mono ?_; rintro e w2 ⟨rfl, hb2⟩; clear HM; obtain ⟨hc2, hf2⟩ := cbcell hb2; have hz2 : w.heap.size < w2.heap.size := by (have := hb2.size; omega)) | (go_at_call 64; refine (HD.out _).mono ?_; rintro e w3 ⟨rfl, hb3⟩; clear HD; obtain ⟨hc3, hf3⟩ := cbcell hb3; have hz3 : w.heap.size < w3.heap.size := by (have := hb3.size; omega)))
  (refine bodyPost_ret (v := .tuple #[.agg #[.int .i64 0, .string ⟨#[]⟩], .int .i64 0]) (by simp [results, Tryz.results36, go_sem ]) rfl ⟨rfl, ?_⟩; repeat' (first | with_reducible exact Below.refl _ _ | with_reducible refine Below.setCell ?_ ?_ _ | with_reducible refine Below.alloc ?_ ?_ _ | with_reducible refine below_drewN ?_ _ | with_reducible refine Below.drew ?_ | with_reducible refine Below.trans ?_ (Below.mono (by assumption) ?_) | with_reducible exact Nat.le_refl _ | with_reducible refine Nat.le_trans ?_ (Below.size (by assumption)) | with_reducible refine Nat.le_trans ?_ (size_alloc _ _) | with_reducible refine Nat.le_trans ?_ (size_set _ _ _) | with_reducible refine Nat.le_trans ?_ (size_drewN _ _) | with_reducible refine Nat.le_trans ?_ (size_drew _) | (simp; done) | (simp; omega) | omega))
set_option maxRecDepth 100000 in
set_option maxHeartbeats 4000000 in
theorem rp_esc (S : List UInt8) (a : Nat) (c : UInt8) (w : World) (ha : a < S.length) (hs : S.length ≤ 1000) (hc : S[a] = c) (h0 : c = 92) (hl : a + 1 < S.length) :
    Calls Tryz.prog 36 #[.string ⟨S.toArray⟩, .int .i64 (a : Int)] w fun e w' => e = .returned (.tuple #[(rFirst (S.drop a)).1, .int .i64 (rFirst (S.drop a)).2]) ∧ Below w.heap.size w w' := by
  have sz := mk_size S
  have hL : S.drop a = c :: S.drop (a + 1) := by rw [← hc]; exact List.drop_eq_getElem_cons ha
  have hx : ∀ h, (⟨S.toArray⟩ : ByteArray)[a]'h = c := fun h => hc
  have g1 : (a : Int) < (S.length : Int) := by omega
  have g0 : (0 : Int) ≤ (a : Int) := by omega
  have hti : (S.length : Int) ≤ 1000 := by omega
  have wr1 : IntKind.i64.wrap ((a : Int) + 1) = (a : Int) + 1 := by rw [IntKind.wrap_i64]; omega
  have g2 : (a : Int) + 1 ≤ (S.length : Int) := by omega
  have t1 : ((a : Int) + 1).toNat = a + 1 := by omega
  have e34 : ¬ (c.toNat : Int) = 34 := by subst h0; decide
  have b34 : ((c.toNat : Int) == 34) = false := by rw [beq_eq_false_iff_ne]; exact e34
  have n34 : ((c.toNat : Int) != 34) = true := by rw [bne, b34]; rfl
  have e92 : (c.toNat : Int) = 92 := by subst h0; decide
  have b92 : ((c.toNat : Int) == 92) = true := by rw [e92]; rfl
  have n92 : ((c.toNat : Int) != 92) = false := by rw [bne, b92]; rfl
  have e37 : ¬ (c.toNat : Int) = 37 := by subst h0; decide
  have b37 : ((c.toNat : Int) == 37) = false := by rw [beq_eq_false_iff_ne]; exact e37
  have n37 : ((c.toNat : Int) != 37) = true := by rw [bne, b37]; rfl
  have e64 : ¬ (c.toNat : Int) = 64 := by subst h0; decide
  have b64 : ((c.toNat : Int) == 64) = false := by rw [beq_eq_false_iff_ne]; exact e64
  have n64 : ((c.toNat : Int) != 64) = true := by rw [bne, b64]; rfl
  have e121 : ¬ (c.toNat : Int) = 121 := by subst h0; decide
  have b121 : ((c.toNat : Int) == 121) = false := by rw [beq_eq_false_iff_ne]; exact e121
  have n121 : ((c.toNat : Int) != 121) = true := by rw [bne, b121]; rfl
  have HS : Hid (∀ W : World, Calls Tryz.prog 64 #[.int .u8 (c.toNat : Int), .string ⟨#[32, 36, 40, 41, 43, 45, 47, 58, 33, 61]⟩] W fun e w' => e = .returned (.bool false) ∧ Below W.heap.size W w') := fun W => by have q := rin_any c selvesL W (by decide); rw [show selvesL.contains c = false by subst h0; decide] at q; exact q
  have HM : Hid (∀ W : World, Calls Tryz.prog 64 #[.int .u8 (c.toNat : Int), .string ⟨#[48, 35, 44, 46]⟩] W fun e w' => e = .returned (.bool false) ∧ Below W.heap.size W w') := fun W => by have q := rin_any c marksL W (by decide); rw [show marksL.contains c = false by subst h0; decide] at q; exact q
  have HD : Hid (∀ W : World, Calls Tryz.prog 64 #[.int .u8 (c.toNat : Int), .string ⟨#[121, 109, 100]⟩] W fun e w' => e = .returned (.bool false) ∧ Below W.heap.size W w') := fun W => by have q := rin_any c daysL W (by decide); rw [show daysL.contains c = false by subst h0; decide] at q; exact q
  have hd := List.drop_eq_getElem_cons hl
  rw [hL, hd, show c = 92 from h0, rfirst_esc]
  have g3 : (a : Int) + 1 < (S.length : Int) := by omega
  have w2 : IntKind.i64.wrap ((a : Int) + 2) = (a : Int) + 2 := by rw [IntKind.wrap_i64]; omega
  have g4 : (a : Int) + 2 ≤ (S.length : Int) := by omega
  have t2 : ((a : Int) + 2).toNat = a + 2 := by omega
  have hcut : (⟨S.toArray⟩ : ByteArray).extract (a + 1) (a + 2) = ⟨[S[a + 1]].toArray⟩ := by rw [cut_mid, hd, show a + 2 - (a + 1) = 1 by omega]; rfl
  clear hL hc h0 hd
  go_enter Tryz.func36, Tryz.ntmps36
  go_wp2_with (first | (go_at_call 64; refine (HS.out _).mono ?_; rintro e w1 ⟨rfl, hb1⟩; clear HS; obtain ⟨hc1, hf1⟩ := cbcell hb1; have hz1 : w.heap.size < w1.heap.size := by (have := hb1.size; simp at this; omega)) | (go_at_call 64; refine (HM.out _).mono ?_; rintro e w2 ⟨rfl, hb2⟩; clear HM; obtain ⟨hc2, hf2⟩ := cbcell hb2; have hz2 : w.heap.size < w2.heap.size := by (have := hb2.size; omega)) | (go_at_call 64; refine (HD.out _).mono ?_; rintro e w3 ⟨rfl, hb3⟩; clear HD; obtain ⟨hc3, hf3⟩ := cbcell hb3; have hz3 : w.heap.size < w3.heap.size := by (have := hb3.size; omega)))
  (refine bodyPost_ret (v := .tuple #[.agg #[.int .i64 0, .string ⟨[S[a + 1]].toArray⟩], .int .i64 2]) (by simp [results, Tryz.results36, go_sem ]) rfl ⟨rfl, ?_⟩; repeat' (first | with_reducible exact Below.refl _ _ | with_reducible refine Below.setCell ?_ ?_ _ | with_reducible refine Below.alloc ?_ ?_ _ | with_reducible refine below_drewN ?_ _ | with_reducible refine Below.drew ?_ | with_reducible refine Below.trans ?_ (Below.mono (by assumption) ?_) | with_reducible exact Nat.le_refl _ | with_reducible refine Nat.le_trans ?_ (Below.size (by assumption)) | with_reducible refine Nat.le_trans ?_ (size_alloc _ _) | with_reducible refine Nat.le_trans ?_ (size_set _ _ _) | with_reducible refine Nat.le_trans ?_ (size_drewN _ _) | with_reducible refine Nat.le_trans ?_ (size_drew _) | (simp; done) | (simp; omega) | omega))
set_option maxRecDepth 100000 in
set_option maxHeartbeats 4000000 in
theorem rp_markY (S : List UInt8) (a : Nat) (c : UInt8) (w : World) (ha : a < S.length) (hs : S.length ≤ 1000) (hc : S[a] = c) (hcs : c = 48 ∨ c = 35 ∨ c = 44 ∨ c = 46) (hp : placeB ((S.drop a).take (rowLen (S.drop a) marksL)) = true) :
    Calls Tryz.prog 36 #[.string ⟨S.toArray⟩, .int .i64 (a : Int)] w fun e w' => e = .returned (.tuple #[(rFirst (S.drop a)).1, .int .i64 (rFirst (S.drop a)).2]) ∧ Below w.heap.size w w' := by
  have sz := mk_size S
  have hL : S.drop a = c :: S.drop (a + 1) := by rw [← hc]; exact List.drop_eq_getElem_cons ha
  have hx : ∀ h, (⟨S.toArray⟩ : ByteArray)[a]'h = c := fun h => hc
  have g1 : (a : Int) < (S.length : Int) := by omega
  have g0 : (0 : Int) ≤ (a : Int) := by omega
  have hti : (S.length : Int) ≤ 1000 := by omega
  have wr1 : IntKind.i64.wrap ((a : Int) + 1) = (a : Int) + 1 := by rw [IntKind.wrap_i64]; omega
  have g2 : (a : Int) + 1 ≤ (S.length : Int) := by omega
  have t1 : ((a : Int) + 1).toNat = a + 1 := by omega
  have e34 : ¬ (c.toNat : Int) = 34 := by rcases hcs with q | q | q | q <;> subst q <;> decide
  have b34 : ((c.toNat : Int) == 34) = false := by rw [beq_eq_false_iff_ne]; exact e34
  have n34 : ((c.toNat : Int) != 34) = true := by rw [bne, b34]; rfl
  have e92 : ¬ (c.toNat : Int) = 92 := by rcases hcs with q | q | q | q <;> subst q <;> decide
  have b92 : ((c.toNat : Int) == 92) = false := by rw [beq_eq_false_iff_ne]; exact e92
  have n92 : ((c.toNat : Int) != 92) = true := by rw [bne, b92]; rfl
  have e37 : ¬ (c.toNat : Int) = 37 := by rcases hcs with q | q | q | q <;> subst q <;> decide
  have b37 : ((c.toNat : Int) == 37) = false := by rw [beq_eq_false_iff_ne]; exact e37
  have n37 : ((c.toNat : Int) != 37) = true := by rw [bne, b37]; rfl
  have e64 : ¬ (c.toNat : Int) = 64 := by rcases hcs with q | q | q | q <;> subst q <;> decide
  have b64 : ((c.toNat : Int) == 64) = false := by rw [beq_eq_false_iff_ne]; exact e64
  have n64 : ((c.toNat : Int) != 64) = true := by rw [bne, b64]; rfl
  have e121 : ¬ (c.toNat : Int) = 121 := by rcases hcs with q | q | q | q <;> subst q <;> decide
  have b121 : ((c.toNat : Int) == 121) = false := by rw [beq_eq_false_iff_ne]; exact e121
  have n121 : ((c.toNat : Int) != 121) = true := by rw [bne, b121]; rfl
  have HS : Hid (∀ W : World, Calls Tryz.prog 64 #[.int .u8 (c.toNat : Int), .string ⟨#[32, 36, 40, 41, 43, 45, 47, 58, 33, 61]⟩] W fun e w' => e = .returned (.bool false) ∧ Below W.heap.size W w') := fun W => by have q := rin_any c selvesL W (by decide); rw [show selvesL.contains c = false by rcases hcs with q | q | q | q <;> subst q <;> decide] at q; exact q
  have HM : Hid (∀ W : World, Calls Tryz.prog 64 #[.int .u8 (c.toNat : Int), .string ⟨#[48, 35, 44, 46]⟩] W fun e w' => e = .returned (.bool true) ∧ Below W.heap.size W w') := fun W => by have q := rin_any c marksL W (by decide); rw [show marksL.contains c = true by rcases hcs with q | q | q | q <;> subst q <;> decide] at q; exact q
  have HR : Hid (∀ W : World, Calls Tryz.prog 65 #[.string ⟨S.toArray⟩, .int .i64 (a : Int), .string ⟨#[48, 35, 44, 46]⟩] W fun e w' => e = .returned (.int .i64 (rowLen (S.drop a) marksL)) ∧ Below W.heap.size W w') := fun W => rrow_any S marksL a W (by omega) (by omega) (by decide)
  have hm := rowLen_all (S.drop a) marksL
  have hle := rowLen_le (S.drop a) marksL
  rw [List.length_drop] at hle
  have HP : Hid (∀ W : World, Calls Tryz.prog 66 #[.string ⟨((S.drop a).take (rowLen (S.drop a) marksL)).toArray⟩] W fun e w' => e = .returned (.bool true) ∧ Below W.heap.size W w') := fun W => by have q := rPlace_any ((S.drop a).take (rowLen (S.drop a) marksL)) W (fun d hd => by simpa [marksL] using hm d hd) (by rw [List.length_take, List.length_drop]; omega); rw [hp] at q; exact q
  have hv : rFirst (S.drop a) = (rpc ⟨1, (S.drop a).take (rowLen (S.drop a) marksL)⟩, rowLen (S.drop a) marksL) := by rw [hL] at hp ⊢; rw [rfirst_marks (by rcases hcs with q | q | q | q <;> subst q <;> decide), hp]; rfl
  rw [hv]
  clear hv hm hp hL hc hcs
  have hcut := cut_mid S a (a + rowLen (S.drop a) marksL)
  rw [Nat.add_sub_cancel_left] at hcut
  obtain ⟨N, hN⟩ : ∃ N, rowLen (S.drop a) marksL = N := ⟨_, rfl⟩
  rw [hN] at hle hcut HR HP
  try rw [hN]
  obtain ⟨T, hT⟩ : ∃ T, (S.drop a).take N = T := ⟨_, rfl⟩
  rw [hT] at hcut HP
  try rw [hT]
  clear hN hT
  have wrN : IntKind.i64.wrap ((a : Int) + (N : Int)) = (a : Int) + (N : Int) := by rw [IntKind.wrap_i64]; omega
  have tN : ((a : Int) + (N : Int)).toNat = a + N := by omega
  have gN : (a : Int) + (N : Int) ≤ (S.length : Int) := by omega
  have gN1 : (a : Int) ≤ (a : Int) + (N : Int) := by omega
  have gN0 : (0 : Int) ≤ (a : Int) + (N : Int) := by omega
  go_enter Tryz.func36, Tryz.ntmps36
  go_wp2_with (first | (go_at_call 64; refine (HS.out _).mono ?_; rintro e w1 ⟨rfl, hb1⟩; clear HS; obtain ⟨hc1, hf1⟩ := cbcell hb1; have hz1 : w.heap.size < w1.heap.size := by (have := hb1.size; simp at this; omega)) | (go_at_call 64; refine (HM.out _).mono ?_; rintro e w2 ⟨rfl, hb2⟩; clear HM; obtain ⟨hc2, hf2⟩ := cbcell hb2; have hz2 : w.heap.size < w2.heap.size := by (have := hb2.size; omega)) | (go_at_call 64; refine (HD.out _).mono ?_; rintro e w3 ⟨rfl, hb3⟩; clear HD; obtain ⟨hc3, hf3⟩ := cbcell hb3; have hz3 : w.heap.size < w3.heap.size := by (have := hb3.size; omega)) | (go_at_call 65; refine (HR.out _).mono ?_; rintro e w3 ⟨rfl, hb3⟩; clear HR; obtain ⟨hc3, hf3⟩ := cbcell hb3; have hz3 : w.heap.size < w3.heap.size := by (have := hb3.size; omega)) | (go_at_call 66; refine (HP.out _).mono ?_; rintro e w4 ⟨rfl, hb4⟩; clear HP; obtain ⟨hc4, hf4⟩ := cbcell hb4; have hz4 : w.heap.size < w4.heap.size := by (have := hb4.size; omega)))
  (refine bodyPost_ret (v := .tuple #[.agg #[.int .i64 1, .string ⟨T.toArray⟩], .int .i64 (N : Int)]) (by simp [results, Tryz.results36, go_sem , hc1, hz1, hc2, hz2, hc3, hz3, hc4, hz4]) rfl ⟨rfl, ?_⟩; repeat' (first | with_reducible exact Below.refl _ _ | with_reducible refine Below.setCell ?_ ?_ _ | with_reducible refine Below.alloc ?_ ?_ _ | with_reducible refine below_drewN ?_ _ | with_reducible refine Below.drew ?_ | with_reducible refine Below.trans ?_ (Below.mono (by assumption) ?_) | with_reducible exact Nat.le_refl _ | with_reducible refine Nat.le_trans ?_ (Below.size (by assumption)) | with_reducible refine Nat.le_trans ?_ (size_alloc _ _) | with_reducible refine Nat.le_trans ?_ (size_set _ _ _) | with_reducible refine Nat.le_trans ?_ (size_drewN _ _) | with_reducible refine Nat.le_trans ?_ (size_drew _) | (simp; done) | (simp; omega) | omega))
set_option maxRecDepth 100000 in
set_option maxHeartbeats 4000000 in
theorem rp_markN (S : List UInt8) (a : Nat) (c : UInt8) (w : World) (ha : a < S.length) (hs : S.length ≤ 1000) (hc : S[a] = c) (hcs : c = 48 ∨ c = 35 ∨ c = 44 ∨ c = 46) (hp : placeB ((S.drop a).take (rowLen (S.drop a) marksL)) = false) :
    Calls Tryz.prog 36 #[.string ⟨S.toArray⟩, .int .i64 (a : Int)] w fun e w' => e = .returned (.tuple #[(rFirst (S.drop a)).1, .int .i64 (rFirst (S.drop a)).2]) ∧ Below w.heap.size w w' := by
  have sz := mk_size S
  have hL : S.drop a = c :: S.drop (a + 1) := by rw [← hc]; exact List.drop_eq_getElem_cons ha
  have hx : ∀ h, (⟨S.toArray⟩ : ByteArray)[a]'h = c := fun h => hc
  have g1 : (a : Int) < (S.length : Int) := by omega
  have g0 : (0 : Int) ≤ (a : Int) := by omega
  have hti : (S.length : Int) ≤ 1000 := by omega
  have wr1 : IntKind.i64.wrap ((a : Int) + 1) = (a : Int) + 1 := by rw [IntKind.wrap_i64]; omega
  have g2 : (a : Int) + 1 ≤ (S.length : Int) := by omega
  have t1 : ((a : Int) + 1).toNat = a + 1 := by omega
  have e34 : ¬ (c.toNat : Int) = 34 := by rcases hcs with q | q | q | q <;> subst q <;> decide
  have b34 : ((c.toNat : Int) == 34) = false := by rw [beq_eq_false_iff_ne]; exact e34
  have n34 : ((c.toNat : Int) != 34) = true := by rw [bne, b34]; rfl
  have e92 : ¬ (c.toNat : Int) = 92 := by rcases hcs with q | q | q | q <;> subst q <;> decide
  have b92 : ((c.toNat : Int) == 92) = false := by rw [beq_eq_false_iff_ne]; exact e92
  have n92 : ((c.toNat : Int) != 92) = true := by rw [bne, b92]; rfl
  have e37 : ¬ (c.toNat : Int) = 37 := by rcases hcs with q | q | q | q <;> subst q <;> decide
  have b37 : ((c.toNat : Int) == 37) = false := by rw [beq_eq_false_iff_ne]; exact e37
  have n37 : ((c.toNat : Int) != 37) = true := by rw [bne, b37]; rfl
  have e64 : ¬ (c.toNat : Int) = 64 := by rcases hcs with q | q | q | q <;> subst q <;> decide
  have b64 : ((c.toNat : Int) == 64) = false := by rw [beq_eq_false_iff_ne]; exact e64
  have n64 : ((c.toNat : Int) != 64) = true := by rw [bne, b64]; rfl
  have e121 : ¬ (c.toNat : Int) = 121 := by rcases hcs with q | q | q | q <;> subst q <;> decide
  have b121 : ((c.toNat : Int) == 121) = false := by rw [beq_eq_false_iff_ne]; exact e121
  have n121 : ((c.toNat : Int) != 121) = true := by rw [bne, b121]; rfl
  have HS : Hid (∀ W : World, Calls Tryz.prog 64 #[.int .u8 (c.toNat : Int), .string ⟨#[32, 36, 40, 41, 43, 45, 47, 58, 33, 61]⟩] W fun e w' => e = .returned (.bool false) ∧ Below W.heap.size W w') := fun W => by have q := rin_any c selvesL W (by decide); rw [show selvesL.contains c = false by rcases hcs with q | q | q | q <;> subst q <;> decide] at q; exact q
  have HM : Hid (∀ W : World, Calls Tryz.prog 64 #[.int .u8 (c.toNat : Int), .string ⟨#[48, 35, 44, 46]⟩] W fun e w' => e = .returned (.bool true) ∧ Below W.heap.size W w') := fun W => by have q := rin_any c marksL W (by decide); rw [show marksL.contains c = true by rcases hcs with q | q | q | q <;> subst q <;> decide] at q; exact q
  have HR : Hid (∀ W : World, Calls Tryz.prog 65 #[.string ⟨S.toArray⟩, .int .i64 (a : Int), .string ⟨#[48, 35, 44, 46]⟩] W fun e w' => e = .returned (.int .i64 (rowLen (S.drop a) marksL)) ∧ Below W.heap.size W w') := fun W => rrow_any S marksL a W (by omega) (by omega) (by decide)
  have hm := rowLen_all (S.drop a) marksL
  have hle := rowLen_le (S.drop a) marksL
  rw [List.length_drop] at hle
  have HP : Hid (∀ W : World, Calls Tryz.prog 66 #[.string ⟨((S.drop a).take (rowLen (S.drop a) marksL)).toArray⟩] W fun e w' => e = .returned (.bool false) ∧ Below W.heap.size W w') := fun W => by have q := rPlace_any ((S.drop a).take (rowLen (S.drop a) marksL)) W (fun d hd => by simpa [marksL] using hm d hd) (by rw [List.length_take, List.length_drop]; omega); rw [hp] at q; exact q
  have hv : rFirst (S.drop a) = (noPc, 0) := by rw [hL] at hp ⊢; rw [rfirst_marks (by rcases hcs with q | q | q | q <;> subst q <;> decide), hp]; rfl
  rw [hv]
  clear hv hm hp hL hc hcs
  have hcut := cut_mid S a (a + rowLen (S.drop a) marksL)
  rw [Nat.add_sub_cancel_left] at hcut
  obtain ⟨N, hN⟩ : ∃ N, rowLen (S.drop a) marksL = N := ⟨_, rfl⟩
  rw [hN] at hle hcut HR HP
  try rw [hN]
  obtain ⟨T, hT⟩ : ∃ T, (S.drop a).take N = T := ⟨_, rfl⟩
  rw [hT] at hcut HP
  try rw [hT]
  clear hN hT
  have wrN : IntKind.i64.wrap ((a : Int) + (N : Int)) = (a : Int) + (N : Int) := by rw [IntKind.wrap_i64]; omega
  have tN : ((a : Int) + (N : Int)).toNat = a + N := by omega
  have gN : (a : Int) + (N : Int) ≤ (S.length : Int) := by omega
  have gN1 : (a : Int) ≤ (a : Int) + (N : Int) := by omega
  have gN0 : (0 : Int) ≤ (a : Int) + (N : Int) := by omega
  go_enter Tryz.func36, Tryz.ntmps36
  go_wp2_with (first | (go_at_call 64; refine (HS.out _).mono ?_; rintro e w1 ⟨rfl, hb1⟩; clear HS; obtain ⟨hc1, hf1⟩ := cbcell hb1; have hz1 : w.heap.size < w1.heap.size := by (have := hb1.size; simp at this; omega)) | (go_at_call 64; refine (HM.out _).mono ?_; rintro e w2 ⟨rfl, hb2⟩; clear HM; obtain ⟨hc2, hf2⟩ := cbcell hb2; have hz2 : w.heap.size < w2.heap.size := by (have := hb2.size; omega)) | (go_at_call 64; refine (HD.out _).mono ?_; rintro e w3 ⟨rfl, hb3⟩; clear HD; obtain ⟨hc3, hf3⟩ := cbcell hb3; have hz3 : w.heap.size < w3.heap.size := by (have := hb3.size; omega)) | (go_at_call 65; refine (HR.out _).mono ?_; rintro e w3 ⟨rfl, hb3⟩; clear HR; obtain ⟨hc3, hf3⟩ := cbcell hb3; have hz3 : w.heap.size < w3.heap.size := by (have := hb3.size; omega)) | (go_at_call 66; refine (HP.out _).mono ?_; rintro e w4 ⟨rfl, hb4⟩; clear HP; obtain ⟨hc4, hf4⟩ := cbcell hb4; have hz4 : w.heap.size < w4.heap.size := by (have := hb4.size; omega)))
  (refine bodyPost_ret (v := .tuple #[.agg #[.int .i64 0, .string ⟨#[]⟩], .int .i64 0]) (by simp [results, Tryz.results36, go_sem , hc1, hz1, hc2, hz2, hc3, hz3, hc4, hz4]) rfl ⟨rfl, ?_⟩; repeat' (first | with_reducible exact Below.refl _ _ | with_reducible refine Below.setCell ?_ ?_ _ | with_reducible refine Below.alloc ?_ ?_ _ | with_reducible refine below_drewN ?_ _ | with_reducible refine Below.drew ?_ | with_reducible refine Below.trans ?_ (Below.mono (by assumption) ?_) | with_reducible exact Nat.le_refl _ | with_reducible refine Nat.le_trans ?_ (Below.size (by assumption)) | with_reducible refine Nat.le_trans ?_ (size_alloc _ _) | with_reducible refine Nat.le_trans ?_ (size_set _ _ _) | with_reducible refine Nat.le_trans ?_ (size_drewN _ _) | with_reducible refine Nat.le_trans ?_ (size_drew _) | (simp; done) | (simp; omega) | omega))
set_option maxRecDepth 100000 in
set_option maxHeartbeats 4000000 in
theorem rp_dayY (S : List UInt8) (a : Nat) (c : UInt8) (w : World) (ha : a < S.length) (hs : S.length ≤ 1000) (hc : S[a] = c) (hcs : c = 109 ∨ c = 100) (hp : rowLen (S.drop a) [c] ≤ 2) :
    Calls Tryz.prog 36 #[.string ⟨S.toArray⟩, .int .i64 (a : Int)] w fun e w' => e = .returned (.tuple #[(rFirst (S.drop a)).1, .int .i64 (rFirst (S.drop a)).2]) ∧ Below w.heap.size w w' := by
  have sz := mk_size S
  have hL : S.drop a = c :: S.drop (a + 1) := by rw [← hc]; exact List.drop_eq_getElem_cons ha
  have hx : ∀ h, (⟨S.toArray⟩ : ByteArray)[a]'h = c := fun h => hc
  have g1 : (a : Int) < (S.length : Int) := by omega
  have g0 : (0 : Int) ≤ (a : Int) := by omega
  have hti : (S.length : Int) ≤ 1000 := by omega
  have wr1 : IntKind.i64.wrap ((a : Int) + 1) = (a : Int) + 1 := by rw [IntKind.wrap_i64]; omega
  have g2 : (a : Int) + 1 ≤ (S.length : Int) := by omega
  have t1 : ((a : Int) + 1).toNat = a + 1 := by omega
  have e34 : ¬ (c.toNat : Int) = 34 := by rcases hcs with q | q <;> subst q <;> decide
  have b34 : ((c.toNat : Int) == 34) = false := by rw [beq_eq_false_iff_ne]; exact e34
  have n34 : ((c.toNat : Int) != 34) = true := by rw [bne, b34]; rfl
  have e92 : ¬ (c.toNat : Int) = 92 := by rcases hcs with q | q <;> subst q <;> decide
  have b92 : ((c.toNat : Int) == 92) = false := by rw [beq_eq_false_iff_ne]; exact e92
  have n92 : ((c.toNat : Int) != 92) = true := by rw [bne, b92]; rfl
  have e37 : ¬ (c.toNat : Int) = 37 := by rcases hcs with q | q <;> subst q <;> decide
  have b37 : ((c.toNat : Int) == 37) = false := by rw [beq_eq_false_iff_ne]; exact e37
  have n37 : ((c.toNat : Int) != 37) = true := by rw [bne, b37]; rfl
  have e64 : ¬ (c.toNat : Int) = 64 := by rcases hcs with q | q <;> subst q <;> decide
  have b64 : ((c.toNat : Int) == 64) = false := by rw [beq_eq_false_iff_ne]; exact e64
  have n64 : ((c.toNat : Int) != 64) = true := by rw [bne, b64]; rfl
  have e121 : ¬ (c.toNat : Int) = 121 := by rcases hcs with q | q <;> subst q <;> decide
  have b121 : ((c.toNat : Int) == 121) = false := by rw [beq_eq_false_iff_ne]; exact e121
  have n121 : ((c.toNat : Int) != 121) = true := by rw [bne, b121]; rfl
  have HS : Hid (∀ W : World, Calls Tryz.prog 64 #[.int .u8 (c.toNat : Int), .string ⟨#[32, 36, 40, 41, 43, 45, 47, 58, 33, 61]⟩] W fun e w' => e = .returned (.bool false) ∧ Below W.heap.size W w') := fun W => by have q := rin_any c selvesL W (by decide); rw [show selvesL.contains c = false by rcases hcs with q | q <;> subst q <;> decide] at q; exact q
  have HM : Hid (∀ W : World, Calls Tryz.prog 64 #[.int .u8 (c.toNat : Int), .string ⟨#[48, 35, 44, 46]⟩] W fun e w' => e = .returned (.bool false) ∧ Below W.heap.size W w') := fun W => by have q := rin_any c marksL W (by decide); rw [show marksL.contains c = false by rcases hcs with q | q <;> subst q <;> decide] at q; exact q
  have HD : Hid (∀ W : World, Calls Tryz.prog 64 #[.int .u8 (c.toNat : Int), .string ⟨#[121, 109, 100]⟩] W fun e w' => e = .returned (.bool true) ∧ Below W.heap.size W w') := fun W => by have q := rin_any c daysL W (by decide); rw [show daysL.contains c = true by rcases hcs with q | q <;> subst q <;> decide] at q; exact q
  have HR : Hid (∀ W : World, Calls Tryz.prog 65 #[.string ⟨S.toArray⟩, .int .i64 (a : Int), .string ⟨#[c]⟩] W fun e w' => e = .returned (.int .i64 (rowLen (S.drop a) [c])) ∧ Below W.heap.size W w') := fun W => rrow_any S [c] a W (by omega) (by omega) (by simp)
  have hle := rowLen_le (S.drop a) [c]
  have hlo : 0 < rowLen (S.drop a) [c] := by rw [hL]; exact rowLen_head (by simp)
  rw [List.length_drop] at hle
  have hcut1 : (⟨S.toArray⟩ : ByteArray).extract a (a + 1) = ⟨#[c]⟩ := by rw [cut_mid, hL, Nat.add_sub_cancel_left]; rfl
  have hdb : dayB c (rowLen (S.drop a) [c]) = true := by
    simp [dayB, hp]; rcases hcs with q | q <;> subst q <;> simp_all
  have hv : rFirst (S.drop a) = (rpc ⟨3, (S.drop a).take (rowLen (S.drop a) [c])⟩, rowLen (S.drop a) [c]) := by rw [hL] at hdb ⊢; rw [rfirst_day (by rcases hcs with q | q <;> subst q <;> decide), hdb]; rfl
  rw [hv]
  clear hv hdb hL hc
  have hcut := cut_mid S a (a + rowLen (S.drop a) [c])
  rw [Nat.add_sub_cancel_left] at hcut
  obtain ⟨N, hN⟩ : ∃ N, rowLen (S.drop a) [c] = N := ⟨_, rfl⟩
  rw [hN] at hle hlo hcut HR hp
  try rw [hN]
  obtain ⟨T, hT⟩ : ∃ T, (S.drop a).take N = T := ⟨_, rfl⟩
  rw [hT] at hcut
  try rw [hT]
  clear hN hT hcs
  have l2 : (N : Int) ≤ 2 := by omega
  clear hp
  have wrN : IntKind.i64.wrap ((a : Int) + (N : Int)) = (a : Int) + (N : Int) := by rw [IntKind.wrap_i64]; omega
  have tN : ((a : Int) + (N : Int)).toNat = a + N := by omega
  have gN : (a : Int) + (N : Int) ≤ (S.length : Int) := by omega
  have gN1 : (a : Int) ≤ (a : Int) + (N : Int) := by omega
  have gN0 : (0 : Int) ≤ (a : Int) + (N : Int) := by omega
  go_enter Tryz.func36, Tryz.ntmps36
  go_wp2_with (first | (go_at_call 64; refine (HS.out _).mono ?_; rintro e w1 ⟨rfl, hb1⟩; clear HS; obtain ⟨hc1, hf1⟩ := cbcell hb1; have hz1 : w.heap.size < w1.heap.size := by (have := hb1.size; simp at this; omega)) | (go_at_call 64; refine (HM.out _).mono ?_; rintro e w2 ⟨rfl, hb2⟩; clear HM; obtain ⟨hc2, hf2⟩ := cbcell hb2; have hz2 : w.heap.size < w2.heap.size := by (have := hb2.size; omega)) | (go_at_call 64; refine (HD.out _).mono ?_; rintro e w3 ⟨rfl, hb3⟩; clear HD; obtain ⟨hc3, hf3⟩ := cbcell hb3; have hz3 : w.heap.size < w3.heap.size := by (have := hb3.size; omega)) | (go_at_call 65; refine (HR.out _).mono ?_; rintro e w4 ⟨rfl, hb4⟩; clear HR; obtain ⟨hc4, hf4⟩ := cbcell hb4; have hz4 : w.heap.size < w4.heap.size := by (have := hb4.size; omega)))
  (refine bodyPost_ret (v := .tuple #[.agg #[.int .i64 2, .string ⟨T.toArray⟩], .int .i64 (N : Int)]) (by simp [results, Tryz.results36, go_sem , hc1, hz1, hc2, hz2, hc3, hz3, hc4, hz4]) rfl ⟨rfl, ?_⟩; repeat' (first | with_reducible exact Below.refl _ _ | with_reducible refine Below.setCell ?_ ?_ _ | with_reducible refine Below.alloc ?_ ?_ _ | with_reducible refine below_drewN ?_ _ | with_reducible refine Below.drew ?_ | with_reducible refine Below.trans ?_ (Below.mono (by assumption) ?_) | with_reducible exact Nat.le_refl _ | with_reducible refine Nat.le_trans ?_ (Below.size (by assumption)) | with_reducible refine Nat.le_trans ?_ (size_alloc _ _) | with_reducible refine Nat.le_trans ?_ (size_set _ _ _) | with_reducible refine Nat.le_trans ?_ (size_drewN _ _) | with_reducible refine Nat.le_trans ?_ (size_drew _) | (simp; done) | (simp; omega) | omega))
set_option maxRecDepth 100000 in
set_option maxHeartbeats 4000000 in
theorem rp_dayN (S : List UInt8) (a : Nat) (c : UInt8) (w : World) (ha : a < S.length) (hs : S.length ≤ 1000) (hc : S[a] = c) (hcs : c = 109 ∨ c = 100) (hp : 2 < rowLen (S.drop a) [c]) :
    Calls Tryz.prog 36 #[.string ⟨S.toArray⟩, .int .i64 (a : Int)] w fun e w' => e = .returned (.tuple #[(rFirst (S.drop a)).1, .int .i64 (rFirst (S.drop a)).2]) ∧ Below w.heap.size w w' := by
  have sz := mk_size S
  have hL : S.drop a = c :: S.drop (a + 1) := by rw [← hc]; exact List.drop_eq_getElem_cons ha
  have hx : ∀ h, (⟨S.toArray⟩ : ByteArray)[a]'h = c := fun h => hc
  have g1 : (a : Int) < (S.length : Int) := by omega
  have g0 : (0 : Int) ≤ (a : Int) := by omega
  have hti : (S.length : Int) ≤ 1000 := by omega
  have wr1 : IntKind.i64.wrap ((a : Int) + 1) = (a : Int) + 1 := by rw [IntKind.wrap_i64]; omega
  have g2 : (a : Int) + 1 ≤ (S.length : Int) := by omega
  have t1 : ((a : Int) + 1).toNat = a + 1 := by omega
  have e34 : ¬ (c.toNat : Int) = 34 := by rcases hcs with q | q <;> subst q <;> decide
  have b34 : ((c.toNat : Int) == 34) = false := by rw [beq_eq_false_iff_ne]; exact e34
  have n34 : ((c.toNat : Int) != 34) = true := by rw [bne, b34]; rfl
  have e92 : ¬ (c.toNat : Int) = 92 := by rcases hcs with q | q <;> subst q <;> decide
  have b92 : ((c.toNat : Int) == 92) = false := by rw [beq_eq_false_iff_ne]; exact e92
  have n92 : ((c.toNat : Int) != 92) = true := by rw [bne, b92]; rfl
  have e37 : ¬ (c.toNat : Int) = 37 := by rcases hcs with q | q <;> subst q <;> decide
  have b37 : ((c.toNat : Int) == 37) = false := by rw [beq_eq_false_iff_ne]; exact e37
  have n37 : ((c.toNat : Int) != 37) = true := by rw [bne, b37]; rfl
  have e64 : ¬ (c.toNat : Int) = 64 := by rcases hcs with q | q <;> subst q <;> decide
  have b64 : ((c.toNat : Int) == 64) = false := by rw [beq_eq_false_iff_ne]; exact e64
  have n64 : ((c.toNat : Int) != 64) = true := by rw [bne, b64]; rfl
  have e121 : ¬ (c.toNat : Int) = 121 := by rcases hcs with q | q <;> subst q <;> decide
  have b121 : ((c.toNat : Int) == 121) = false := by rw [beq_eq_false_iff_ne]; exact e121
  have n121 : ((c.toNat : Int) != 121) = true := by rw [bne, b121]; rfl
  have HS : Hid (∀ W : World, Calls Tryz.prog 64 #[.int .u8 (c.toNat : Int), .string ⟨#[32, 36, 40, 41, 43, 45, 47, 58, 33, 61]⟩] W fun e w' => e = .returned (.bool false) ∧ Below W.heap.size W w') := fun W => by have q := rin_any c selvesL W (by decide); rw [show selvesL.contains c = false by rcases hcs with q | q <;> subst q <;> decide] at q; exact q
  have HM : Hid (∀ W : World, Calls Tryz.prog 64 #[.int .u8 (c.toNat : Int), .string ⟨#[48, 35, 44, 46]⟩] W fun e w' => e = .returned (.bool false) ∧ Below W.heap.size W w') := fun W => by have q := rin_any c marksL W (by decide); rw [show marksL.contains c = false by rcases hcs with q | q <;> subst q <;> decide] at q; exact q
  have HD : Hid (∀ W : World, Calls Tryz.prog 64 #[.int .u8 (c.toNat : Int), .string ⟨#[121, 109, 100]⟩] W fun e w' => e = .returned (.bool true) ∧ Below W.heap.size W w') := fun W => by have q := rin_any c daysL W (by decide); rw [show daysL.contains c = true by rcases hcs with q | q <;> subst q <;> decide] at q; exact q
  have HR : Hid (∀ W : World, Calls Tryz.prog 65 #[.string ⟨S.toArray⟩, .int .i64 (a : Int), .string ⟨#[c]⟩] W fun e w' => e = .returned (.int .i64 (rowLen (S.drop a) [c])) ∧ Below W.heap.size W w') := fun W => rrow_any S [c] a W (by omega) (by omega) (by simp)
  have hle := rowLen_le (S.drop a) [c]
  have hlo : 0 < rowLen (S.drop a) [c] := by rw [hL]; exact rowLen_head (by simp)
  rw [List.length_drop] at hle
  have hcut1 : (⟨S.toArray⟩ : ByteArray).extract a (a + 1) = ⟨#[c]⟩ := by rw [cut_mid, hL, Nat.add_sub_cancel_left]; rfl
  have hdb : dayB c (rowLen (S.drop a) [c]) = false := by
    have : ¬ rowLen (S.drop a) [c] ≤ 2 := by omega
    rcases hcs with q | q <;> subst q <;> simp [dayB, this]
  have hv : rFirst (S.drop a) = (noPc, 0) := by rw [hL] at hdb ⊢; rw [rfirst_day (by rcases hcs with q | q <;> subst q <;> decide), hdb]; rfl
  rw [hv]
  clear hv hdb hL hc
  have hcut := cut_mid S a (a + rowLen (S.drop a) [c])
  rw [Nat.add_sub_cancel_left] at hcut
  obtain ⟨N, hN⟩ : ∃ N, rowLen (S.drop a) [c] = N := ⟨_, rfl⟩
  rw [hN] at hle hlo hcut HR hp
  try rw [hN]
  obtain ⟨T, hT⟩ : ∃ T, (S.drop a).take N = T := ⟨_, rfl⟩
  rw [hT] at hcut
  try rw [hT]
  clear hN hT hcs
  have l2 : ¬ (N : Int) ≤ 2 := by omega
  clear hp
  have wrN : IntKind.i64.wrap ((a : Int) + (N : Int)) = (a : Int) + (N : Int) := by rw [IntKind.wrap_i64]; omega
  have tN : ((a : Int) + (N : Int)).toNat = a + N := by omega
  have gN : (a : Int) + (N : Int) ≤ (S.length : Int) := by omega
  have gN1 : (a : Int) ≤ (a : Int) + (N : Int) := by omega
  have gN0 : (0 : Int) ≤ (a : Int) + (N : Int) := by omega
  go_enter Tryz.func36, Tryz.ntmps36
  go_wp2_with (first | (go_at_call 64; refine (HS.out _).mono ?_; rintro e w1 ⟨rfl, hb1⟩; clear HS; obtain ⟨hc1, hf1⟩ := cbcell hb1; have hz1 : w.heap.size < w1.heap.size := by (have := hb1.size; simp at this; omega)) | (go_at_call 64; refine (HM.out _).mono ?_; rintro e w2 ⟨rfl, hb2⟩; clear HM; obtain ⟨hc2, hf2⟩ := cbcell hb2; have hz2 : w.heap.size < w2.heap.size := by (have := hb2.size; omega)) | (go_at_call 64; refine (HD.out _).mono ?_; rintro e w3 ⟨rfl, hb3⟩; clear HD; obtain ⟨hc3, hf3⟩ := cbcell hb3; have hz3 : w.heap.size < w3.heap.size := by (have := hb3.size; omega)) | (go_at_call 65; refine (HR.out _).mono ?_; rintro e w4 ⟨rfl, hb4⟩; clear HR; obtain ⟨hc4, hf4⟩ := cbcell hb4; have hz4 : w.heap.size < w4.heap.size := by (have := hb4.size; omega)))
  (refine bodyPost_ret (v := .tuple #[.agg #[.int .i64 0, .string ⟨#[]⟩], .int .i64 0]) (by simp [results, Tryz.results36, go_sem , hc1, hz1, hc2, hz2, hc3, hz3, hc4, hz4]) rfl ⟨rfl, ?_⟩; repeat' (first | with_reducible exact Below.refl _ _ | with_reducible refine Below.setCell ?_ ?_ _ | with_reducible refine Below.alloc ?_ ?_ _ | with_reducible refine below_drewN ?_ _ | with_reducible refine Below.drew ?_ | with_reducible refine Below.trans ?_ (Below.mono (by assumption) ?_) | with_reducible exact Nat.le_refl _ | with_reducible refine Nat.le_trans ?_ (Below.size (by assumption)) | with_reducible refine Nat.le_trans ?_ (size_alloc _ _) | with_reducible refine Nat.le_trans ?_ (size_set _ _ _) | with_reducible refine Nat.le_trans ?_ (size_drewN _ _) | with_reducible refine Nat.le_trans ?_ (size_drew _) | (simp; done) | (simp; omega) | omega))
set_option maxRecDepth 100000 in
set_option maxHeartbeats 4000000 in
theorem rp_year2 (S : List UInt8) (a : Nat) (c : UInt8) (w : World) (ha : a < S.length) (hs : S.length ≤ 1000) (hc : S[a] = c) (hcs : c = 121) (hp : rowLen (S.drop a) [c] = 2) :
    Calls Tryz.prog 36 #[.string ⟨S.toArray⟩, .int .i64 (a : Int)] w fun e w' => e = .returned (.tuple #[(rFirst (S.drop a)).1, .int .i64 (rFirst (S.drop a)).2]) ∧ Below w.heap.size w w' := by
  have sz := mk_size S
  have hL : S.drop a = c :: S.drop (a + 1) := by rw [← hc]; exact List.drop_eq_getElem_cons ha
  have hx : ∀ h, (⟨S.toArray⟩ : ByteArray)[a]'h = c := fun h => hc
  have g1 : (a : Int) < (S.length : Int) := by omega
  have g0 : (0 : Int) ≤ (a : Int) := by omega
  have hti : (S.length : Int) ≤ 1000 := by omega
  have wr1 : IntKind.i64.wrap ((a : Int) + 1) = (a : Int) + 1 := by rw [IntKind.wrap_i64]; omega
  have g2 : (a : Int) + 1 ≤ (S.length : Int) := by omega
  have t1 : ((a : Int) + 1).toNat = a + 1 := by omega
  have e34 : ¬ (c.toNat : Int) = 34 := by subst hcs; decide
  have b34 : ((c.toNat : Int) == 34) = false := by rw [beq_eq_false_iff_ne]; exact e34
  have n34 : ((c.toNat : Int) != 34) = true := by rw [bne, b34]; rfl
  have e92 : ¬ (c.toNat : Int) = 92 := by subst hcs; decide
  have b92 : ((c.toNat : Int) == 92) = false := by rw [beq_eq_false_iff_ne]; exact e92
  have n92 : ((c.toNat : Int) != 92) = true := by rw [bne, b92]; rfl
  have e37 : ¬ (c.toNat : Int) = 37 := by subst hcs; decide
  have b37 : ((c.toNat : Int) == 37) = false := by rw [beq_eq_false_iff_ne]; exact e37
  have n37 : ((c.toNat : Int) != 37) = true := by rw [bne, b37]; rfl
  have e64 : ¬ (c.toNat : Int) = 64 := by subst hcs; decide
  have b64 : ((c.toNat : Int) == 64) = false := by rw [beq_eq_false_iff_ne]; exact e64
  have n64 : ((c.toNat : Int) != 64) = true := by rw [bne, b64]; rfl
  have e121 : (c.toNat : Int) = 121 := by subst hcs; decide
  have b121 : ((c.toNat : Int) == 121) = true := by rw [e121]; rfl
  have n121 : ((c.toNat : Int) != 121) = false := by rw [bne, b121]; rfl
  have HS : Hid (∀ W : World, Calls Tryz.prog 64 #[.int .u8 121, .string ⟨#[32, 36, 40, 41, 43, 45, 47, 58, 33, 61]⟩] W fun e w' => e = .returned (.bool false) ∧ Below W.heap.size W w') := fun W => by have q := rin_any c selvesL W (by decide); rw [show selvesL.contains c = false by subst hcs; decide] at q; rw [e121] at q; exact q
  have HM : Hid (∀ W : World, Calls Tryz.prog 64 #[.int .u8 121, .string ⟨#[48, 35, 44, 46]⟩] W fun e w' => e = .returned (.bool false) ∧ Below W.heap.size W w') := fun W => by have q := rin_any c marksL W (by decide); rw [show marksL.contains c = false by subst hcs; decide] at q; rw [e121] at q; exact q
  have HD : Hid (∀ W : World, Calls Tryz.prog 64 #[.int .u8 121, .string ⟨#[121, 109, 100]⟩] W fun e w' => e = .returned (.bool true) ∧ Below W.heap.size W w') := fun W => by have q := rin_any c daysL W (by decide); rw [show daysL.contains c = true by subst hcs; decide] at q; rw [e121] at q; exact q
  have HR : Hid (∀ W : World, Calls Tryz.prog 65 #[.string ⟨S.toArray⟩, .int .i64 (a : Int), .string ⟨#[c]⟩] W fun e w' => e = .returned (.int .i64 (rowLen (S.drop a) [c])) ∧ Below W.heap.size W w') := fun W => rrow_any S [c] a W (by omega) (by omega) (by simp)
  have hle := rowLen_le (S.drop a) [c]
  have hlo : 0 < rowLen (S.drop a) [c] := by rw [hL]; exact rowLen_head (by simp)
  rw [List.length_drop] at hle
  have hcut1 : (⟨S.toArray⟩ : ByteArray).extract a (a + 1) = ⟨#[c]⟩ := by rw [cut_mid, hL, Nat.add_sub_cancel_left]; rfl
  have hdb : dayB c (rowLen (S.drop a) [c]) = true := by
    rw [hp]; subst hcs; decide
  have hv : rFirst (S.drop a) = (rpc ⟨3, (S.drop a).take (rowLen (S.drop a) [c])⟩, rowLen (S.drop a) [c]) := by rw [hL] at hdb ⊢; rw [rfirst_day (by subst hcs; decide), hdb]; rfl
  rw [hv]
  clear hv hdb hL hc
  have hcut := cut_mid S a (a + rowLen (S.drop a) [c])
  rw [Nat.add_sub_cancel_left] at hcut
  obtain ⟨N, hN⟩ : ∃ N, rowLen (S.drop a) [c] = N := ⟨_, rfl⟩
  rw [hN] at hle hlo hcut HR hp
  try rw [hN]
  obtain ⟨T, hT⟩ : ∃ T, (S.drop a).take N = T := ⟨_, rfl⟩
  rw [hT] at hcut
  try rw [hT]
  clear hN hT hcs
  subst hp
  have wrN : IntKind.i64.wrap ((a : Int) + 2) = (a : Int) + 2 := by rw [IntKind.wrap_i64]; omega
  have tN : ((a : Int) + 2).toNat = a + 2 := by omega
  have gN : (a : Int) + 2 ≤ (S.length : Int) := by omega
  have gN1 : (a : Int) ≤ (a : Int) + 2 := by omega
  have gN0 : (0 : Int) ≤ (a : Int) + 2 := by omega
  go_enter Tryz.func36, Tryz.ntmps36
  go_wp2_with (first | (go_at_call 64; refine (HS.out _).mono ?_; rintro e w1 ⟨rfl, hb1⟩; clear HS; obtain ⟨hc1, hf1⟩ := cbcell hb1; have hz1 : w.heap.size < w1.heap.size := by (have := hb1.size; simp at this; omega)) | (go_at_call 64; refine (HM.out _).mono ?_; rintro e w2 ⟨rfl, hb2⟩; clear HM; obtain ⟨hc2, hf2⟩ := cbcell hb2; have hz2 : w.heap.size < w2.heap.size := by (have := hb2.size; omega)) | (go_at_call 64; refine (HD.out _).mono ?_; rintro e w3 ⟨rfl, hb3⟩; clear HD; obtain ⟨hc3, hf3⟩ := cbcell hb3; have hz3 : w.heap.size < w3.heap.size := by (have := hb3.size; omega)) | (go_at_call 65; refine (HR.out _).mono ?_; rintro e w4 ⟨rfl, hb4⟩; clear HR; obtain ⟨hc4, hf4⟩ := cbcell hb4; have hz4 : w.heap.size < w4.heap.size := by (have := hb4.size; omega)))
  (refine bodyPost_ret (v := .tuple #[.agg #[.int .i64 2, .string ⟨T.toArray⟩], .int .i64 2]) (by simp [results, Tryz.results36, go_sem , hc1, hz1, hc2, hz2, hc3, hz3, hc4, hz4]) rfl ⟨rfl, ?_⟩; repeat' (first | with_reducible exact Below.refl _ _ | with_reducible refine Below.setCell ?_ ?_ _ | with_reducible refine Below.alloc ?_ ?_ _ | with_reducible refine below_drewN ?_ _ | with_reducible refine Below.drew ?_ | with_reducible refine Below.trans ?_ (Below.mono (by assumption) ?_) | with_reducible exact Nat.le_refl _ | with_reducible refine Nat.le_trans ?_ (Below.size (by assumption)) | with_reducible refine Nat.le_trans ?_ (size_alloc _ _) | with_reducible refine Nat.le_trans ?_ (size_set _ _ _) | with_reducible refine Nat.le_trans ?_ (size_drewN _ _) | with_reducible refine Nat.le_trans ?_ (size_drew _) | (simp; done) | (simp; omega) | omega))
set_option maxRecDepth 100000 in
set_option maxHeartbeats 4000000 in
theorem rp_year4 (S : List UInt8) (a : Nat) (c : UInt8) (w : World) (ha : a < S.length) (hs : S.length ≤ 1000) (hc : S[a] = c) (hcs : c = 121) (hp : rowLen (S.drop a) [c] = 4) :
    Calls Tryz.prog 36 #[.string ⟨S.toArray⟩, .int .i64 (a : Int)] w fun e w' => e = .returned (.tuple #[(rFirst (S.drop a)).1, .int .i64 (rFirst (S.drop a)).2]) ∧ Below w.heap.size w w' := by
  have sz := mk_size S
  have hL : S.drop a = c :: S.drop (a + 1) := by rw [← hc]; exact List.drop_eq_getElem_cons ha
  have hx : ∀ h, (⟨S.toArray⟩ : ByteArray)[a]'h = c := fun h => hc
  have g1 : (a : Int) < (S.length : Int) := by omega
  have g0 : (0 : Int) ≤ (a : Int) := by omega
  have hti : (S.length : Int) ≤ 1000 := by omega
  have wr1 : IntKind.i64.wrap ((a : Int) + 1) = (a : Int) + 1 := by rw [IntKind.wrap_i64]; omega
  have g2 : (a : Int) + 1 ≤ (S.length : Int) := by omega
  have t1 : ((a : Int) + 1).toNat = a + 1 := by omega
  have e34 : ¬ (c.toNat : Int) = 34 := by subst hcs; decide
  have b34 : ((c.toNat : Int) == 34) = false := by rw [beq_eq_false_iff_ne]; exact e34
  have n34 : ((c.toNat : Int) != 34) = true := by rw [bne, b34]; rfl
  have e92 : ¬ (c.toNat : Int) = 92 := by subst hcs; decide
  have b92 : ((c.toNat : Int) == 92) = false := by rw [beq_eq_false_iff_ne]; exact e92
  have n92 : ((c.toNat : Int) != 92) = true := by rw [bne, b92]; rfl
  have e37 : ¬ (c.toNat : Int) = 37 := by subst hcs; decide
  have b37 : ((c.toNat : Int) == 37) = false := by rw [beq_eq_false_iff_ne]; exact e37
  have n37 : ((c.toNat : Int) != 37) = true := by rw [bne, b37]; rfl
  have e64 : ¬ (c.toNat : Int) = 64 := by subst hcs; decide
  have b64 : ((c.toNat : Int) == 64) = false := by rw [beq_eq_false_iff_ne]; exact e64
  have n64 : ((c.toNat : Int) != 64) = true := by rw [bne, b64]; rfl
  have e121 : (c.toNat : Int) = 121 := by subst hcs; decide
  have b121 : ((c.toNat : Int) == 121) = true := by rw [e121]; rfl
  have n121 : ((c.toNat : Int) != 121) = false := by rw [bne, b121]; rfl
  have HS : Hid (∀ W : World, Calls Tryz.prog 64 #[.int .u8 121, .string ⟨#[32, 36, 40, 41, 43, 45, 47, 58, 33, 61]⟩] W fun e w' => e = .returned (.bool false) ∧ Below W.heap.size W w') := fun W => by have q := rin_any c selvesL W (by decide); rw [show selvesL.contains c = false by subst hcs; decide] at q; rw [e121] at q; exact q
  have HM : Hid (∀ W : World, Calls Tryz.prog 64 #[.int .u8 121, .string ⟨#[48, 35, 44, 46]⟩] W fun e w' => e = .returned (.bool false) ∧ Below W.heap.size W w') := fun W => by have q := rin_any c marksL W (by decide); rw [show marksL.contains c = false by subst hcs; decide] at q; rw [e121] at q; exact q
  have HD : Hid (∀ W : World, Calls Tryz.prog 64 #[.int .u8 121, .string ⟨#[121, 109, 100]⟩] W fun e w' => e = .returned (.bool true) ∧ Below W.heap.size W w') := fun W => by have q := rin_any c daysL W (by decide); rw [show daysL.contains c = true by subst hcs; decide] at q; rw [e121] at q; exact q
  have HR : Hid (∀ W : World, Calls Tryz.prog 65 #[.string ⟨S.toArray⟩, .int .i64 (a : Int), .string ⟨#[c]⟩] W fun e w' => e = .returned (.int .i64 (rowLen (S.drop a) [c])) ∧ Below W.heap.size W w') := fun W => rrow_any S [c] a W (by omega) (by omega) (by simp)
  have hle := rowLen_le (S.drop a) [c]
  have hlo : 0 < rowLen (S.drop a) [c] := by rw [hL]; exact rowLen_head (by simp)
  rw [List.length_drop] at hle
  have hcut1 : (⟨S.toArray⟩ : ByteArray).extract a (a + 1) = ⟨#[c]⟩ := by rw [cut_mid, hL, Nat.add_sub_cancel_left]; rfl
  have hdb : dayB c (rowLen (S.drop a) [c]) = true := by
    rw [hp]; subst hcs; decide
  have hv : rFirst (S.drop a) = (rpc ⟨3, (S.drop a).take (rowLen (S.drop a) [c])⟩, rowLen (S.drop a) [c]) := by rw [hL] at hdb ⊢; rw [rfirst_day (by subst hcs; decide), hdb]; rfl
  rw [hv]
  clear hv hdb hL hc
  have hcut := cut_mid S a (a + rowLen (S.drop a) [c])
  rw [Nat.add_sub_cancel_left] at hcut
  obtain ⟨N, hN⟩ : ∃ N, rowLen (S.drop a) [c] = N := ⟨_, rfl⟩
  rw [hN] at hle hlo hcut HR hp
  try rw [hN]
  obtain ⟨T, hT⟩ : ∃ T, (S.drop a).take N = T := ⟨_, rfl⟩
  rw [hT] at hcut
  try rw [hT]
  clear hN hT hcs
  subst hp
  have wrN : IntKind.i64.wrap ((a : Int) + 4) = (a : Int) + 4 := by rw [IntKind.wrap_i64]; omega
  have tN : ((a : Int) + 4).toNat = a + 4 := by omega
  have gN : (a : Int) + 4 ≤ (S.length : Int) := by omega
  have gN1 : (a : Int) ≤ (a : Int) + 4 := by omega
  have gN0 : (0 : Int) ≤ (a : Int) + 4 := by omega
  go_enter Tryz.func36, Tryz.ntmps36
  go_wp2_with (first | (go_at_call 64; refine (HS.out _).mono ?_; rintro e w1 ⟨rfl, hb1⟩; clear HS; obtain ⟨hc1, hf1⟩ := cbcell hb1; have hz1 : w.heap.size < w1.heap.size := by (have := hb1.size; simp at this; omega)) | (go_at_call 64; refine (HM.out _).mono ?_; rintro e w2 ⟨rfl, hb2⟩; clear HM; obtain ⟨hc2, hf2⟩ := cbcell hb2; have hz2 : w.heap.size < w2.heap.size := by (have := hb2.size; omega)) | (go_at_call 64; refine (HD.out _).mono ?_; rintro e w3 ⟨rfl, hb3⟩; clear HD; obtain ⟨hc3, hf3⟩ := cbcell hb3; have hz3 : w.heap.size < w3.heap.size := by (have := hb3.size; omega)) | (go_at_call 65; refine (HR.out _).mono ?_; rintro e w4 ⟨rfl, hb4⟩; clear HR; obtain ⟨hc4, hf4⟩ := cbcell hb4; have hz4 : w.heap.size < w4.heap.size := by (have := hb4.size; omega)))
  (refine bodyPost_ret (v := .tuple #[.agg #[.int .i64 2, .string ⟨T.toArray⟩], .int .i64 4]) (by simp [results, Tryz.results36, go_sem , hc1, hz1, hc2, hz2, hc3, hz3, hc4, hz4]) rfl ⟨rfl, ?_⟩; repeat' (first | with_reducible exact Below.refl _ _ | with_reducible refine Below.setCell ?_ ?_ _ | with_reducible refine Below.alloc ?_ ?_ _ | with_reducible refine below_drewN ?_ _ | with_reducible refine Below.drew ?_ | with_reducible refine Below.trans ?_ (Below.mono (by assumption) ?_) | with_reducible exact Nat.le_refl _ | with_reducible refine Nat.le_trans ?_ (Below.size (by assumption)) | with_reducible refine Nat.le_trans ?_ (size_alloc _ _) | with_reducible refine Nat.le_trans ?_ (size_set _ _ _) | with_reducible refine Nat.le_trans ?_ (size_drewN _ _) | with_reducible refine Nat.le_trans ?_ (size_drew _) | (simp; done) | (simp; omega) | omega))
set_option maxRecDepth 100000 in
set_option maxHeartbeats 4000000 in
theorem rp_yearN (S : List UInt8) (a : Nat) (c : UInt8) (w : World) (ha : a < S.length) (hs : S.length ≤ 1000) (hc : S[a] = c) (hcs : c = 121) (hp : rowLen (S.drop a) [c] ≠ 2 ∧ rowLen (S.drop a) [c] ≠ 4) :
    Calls Tryz.prog 36 #[.string ⟨S.toArray⟩, .int .i64 (a : Int)] w fun e w' => e = .returned (.tuple #[(rFirst (S.drop a)).1, .int .i64 (rFirst (S.drop a)).2]) ∧ Below w.heap.size w w' := by
  have sz := mk_size S
  have hL : S.drop a = c :: S.drop (a + 1) := by rw [← hc]; exact List.drop_eq_getElem_cons ha
  have hx : ∀ h, (⟨S.toArray⟩ : ByteArray)[a]'h = c := fun h => hc
  have g1 : (a : Int) < (S.length : Int) := by omega
  have g0 : (0 : Int) ≤ (a : Int) := by omega
  have hti : (S.length : Int) ≤ 1000 := by omega
  have wr1 : IntKind.i64.wrap ((a : Int) + 1) = (a : Int) + 1 := by rw [IntKind.wrap_i64]; omega
  have g2 : (a : Int) + 1 ≤ (S.length : Int) := by omega
  have t1 : ((a : Int) + 1).toNat = a + 1 := by omega
  have e34 : ¬ (c.toNat : Int) = 34 := by subst hcs; decide
  have b34 : ((c.toNat : Int) == 34) = false := by rw [beq_eq_false_iff_ne]; exact e34
  have n34 : ((c.toNat : Int) != 34) = true := by rw [bne, b34]; rfl
  have e92 : ¬ (c.toNat : Int) = 92 := by subst hcs; decide
  have b92 : ((c.toNat : Int) == 92) = false := by rw [beq_eq_false_iff_ne]; exact e92
  have n92 : ((c.toNat : Int) != 92) = true := by rw [bne, b92]; rfl
  have e37 : ¬ (c.toNat : Int) = 37 := by subst hcs; decide
  have b37 : ((c.toNat : Int) == 37) = false := by rw [beq_eq_false_iff_ne]; exact e37
  have n37 : ((c.toNat : Int) != 37) = true := by rw [bne, b37]; rfl
  have e64 : ¬ (c.toNat : Int) = 64 := by subst hcs; decide
  have b64 : ((c.toNat : Int) == 64) = false := by rw [beq_eq_false_iff_ne]; exact e64
  have n64 : ((c.toNat : Int) != 64) = true := by rw [bne, b64]; rfl
  have e121 : (c.toNat : Int) = 121 := by subst hcs; decide
  have b121 : ((c.toNat : Int) == 121) = true := by rw [e121]; rfl
  have n121 : ((c.toNat : Int) != 121) = false := by rw [bne, b121]; rfl
  have HS : Hid (∀ W : World, Calls Tryz.prog 64 #[.int .u8 121, .string ⟨#[32, 36, 40, 41, 43, 45, 47, 58, 33, 61]⟩] W fun e w' => e = .returned (.bool false) ∧ Below W.heap.size W w') := fun W => by have q := rin_any c selvesL W (by decide); rw [show selvesL.contains c = false by subst hcs; decide] at q; rw [e121] at q; exact q
  have HM : Hid (∀ W : World, Calls Tryz.prog 64 #[.int .u8 121, .string ⟨#[48, 35, 44, 46]⟩] W fun e w' => e = .returned (.bool false) ∧ Below W.heap.size W w') := fun W => by have q := rin_any c marksL W (by decide); rw [show marksL.contains c = false by subst hcs; decide] at q; rw [e121] at q; exact q
  have HD : Hid (∀ W : World, Calls Tryz.prog 64 #[.int .u8 121, .string ⟨#[121, 109, 100]⟩] W fun e w' => e = .returned (.bool true) ∧ Below W.heap.size W w') := fun W => by have q := rin_any c daysL W (by decide); rw [show daysL.contains c = true by subst hcs; decide] at q; rw [e121] at q; exact q
  have HR : Hid (∀ W : World, Calls Tryz.prog 65 #[.string ⟨S.toArray⟩, .int .i64 (a : Int), .string ⟨#[c]⟩] W fun e w' => e = .returned (.int .i64 (rowLen (S.drop a) [c])) ∧ Below W.heap.size W w') := fun W => rrow_any S [c] a W (by omega) (by omega) (by simp)
  have hle := rowLen_le (S.drop a) [c]
  have hlo : 0 < rowLen (S.drop a) [c] := by rw [hL]; exact rowLen_head (by simp)
  rw [List.length_drop] at hle
  have hcut1 : (⟨S.toArray⟩ : ByteArray).extract a (a + 1) = ⟨#[c]⟩ := by rw [cut_mid, hL, Nat.add_sub_cancel_left]; rfl
  have hdb : dayB c (rowLen (S.drop a) [c]) = false := by
    subst hcs; simp [dayB, hp.1, hp.2]
  have hv : rFirst (S.drop a) = (noPc, 0) := by rw [hL] at hdb ⊢; rw [rfirst_day (by subst hcs; decide), hdb]; rfl
  rw [hv]
  clear hv hdb hL hc
  have hcut := cut_mid S a (a + rowLen (S.drop a) [c])
  rw [Nat.add_sub_cancel_left] at hcut
  obtain ⟨N, hN⟩ : ∃ N, rowLen (S.drop a) [c] = N := ⟨_, rfl⟩
  rw [hN] at hle hlo hcut HR hp
  try rw [hN]
  obtain ⟨T, hT⟩ : ∃ T, (S.drop a).take N = T := ⟨_, rfl⟩
  rw [hT] at hcut
  try rw [hT]
  clear hN hT hcs
  have p2e : ¬ (N : Int) = 2 := by omega
  have p2b : ((N : Int) == 2) = false := by rw [beq_eq_false_iff_ne]; exact p2e
  have p4e : ¬ (N : Int) = 4 := by omega
  have p4b : ((N : Int) == 4) = false := by rw [beq_eq_false_iff_ne]; exact p4e
  clear hp
  have wrN : IntKind.i64.wrap ((a : Int) + (N : Int)) = (a : Int) + (N : Int) := by rw [IntKind.wrap_i64]; omega
  have tN : ((a : Int) + (N : Int)).toNat = a + N := by omega
  have gN : (a : Int) + (N : Int) ≤ (S.length : Int) := by omega
  have gN1 : (a : Int) ≤ (a : Int) + (N : Int) := by omega
  have gN0 : (0 : Int) ≤ (a : Int) + (N : Int) := by omega
  by_cases l2 : (N : Int) ≤ 2
  · go_enter Tryz.func36, Tryz.ntmps36
    go_wp2_with (first | (go_at_call 64; refine (HS.out _).mono ?_; rintro e w1 ⟨rfl, hb1⟩; clear HS; obtain ⟨hc1, hf1⟩ := cbcell hb1; have hz1 : w.heap.size < w1.heap.size := by (have := hb1.size; simp at this; omega)) | (go_at_call 64; refine (HM.out _).mono ?_; rintro e w2 ⟨rfl, hb2⟩; clear HM; obtain ⟨hc2, hf2⟩ := cbcell hb2; have hz2 : w.heap.size < w2.heap.size := by (have := hb2.size; omega)) | (go_at_call 64; refine (HD.out _).mono ?_; rintro e w3 ⟨rfl, hb3⟩; clear HD; obtain ⟨hc3, hf3⟩ := cbcell hb3; have hz3 : w.heap.size < w3.heap.size := by (have := hb3.size; omega)) | (go_at_call 65; refine (HR.out _).mono ?_; rintro e w4 ⟨rfl, hb4⟩; clear HR; obtain ⟨hc4, hf4⟩ := cbcell hb4; have hz4 : w.heap.size < w4.heap.size := by (have := hb4.size; omega)))
    (refine bodyPost_ret (v := .tuple #[.agg #[.int .i64 0, .string ⟨#[]⟩], .int .i64 0]) (by simp [results, Tryz.results36, go_sem , hc1, hz1, hc2, hz2, hc3, hz3, hc4, hz4]) rfl ⟨rfl, ?_⟩; repeat' (first | with_reducible exact Below.refl _ _ | with_reducible refine Below.setCell ?_ ?_ _ | with_reducible refine Below.alloc ?_ ?_ _ | with_reducible refine below_drewN ?_ _ | with_reducible refine Below.drew ?_ | with_reducible refine Below.trans ?_ (Below.mono (by assumption) ?_) | with_reducible exact Nat.le_refl _ | with_reducible refine Nat.le_trans ?_ (Below.size (by assumption)) | with_reducible refine Nat.le_trans ?_ (size_alloc _ _) | with_reducible refine Nat.le_trans ?_ (size_set _ _ _) | with_reducible refine Nat.le_trans ?_ (size_drewN _ _) | with_reducible refine Nat.le_trans ?_ (size_drew _) | (simp; done) | (simp; omega) | omega))
  · go_enter Tryz.func36, Tryz.ntmps36
    go_wp2_with (first | (go_at_call 64; refine (HS.out _).mono ?_; rintro e w1 ⟨rfl, hb1⟩; clear HS; obtain ⟨hc1, hf1⟩ := cbcell hb1; have hz1 : w.heap.size < w1.heap.size := by (have := hb1.size; simp at this; omega)) | (go_at_call 64; refine (HM.out _).mono ?_; rintro e w2 ⟨rfl, hb2⟩; clear HM; obtain ⟨hc2, hf2⟩ := cbcell hb2; have hz2 : w.heap.size < w2.heap.size := by (have := hb2.size; omega)) | (go_at_call 64; refine (HD.out _).mono ?_; rintro e w3 ⟨rfl, hb3⟩; clear HD; obtain ⟨hc3, hf3⟩ := cbcell hb3; have hz3 : w.heap.size < w3.heap.size := by (have := hb3.size; omega)) | (go_at_call 65; refine (HR.out _).mono ?_; rintro e w4 ⟨rfl, hb4⟩; clear HR; obtain ⟨hc4, hf4⟩ := cbcell hb4; have hz4 : w.heap.size < w4.heap.size := by (have := hb4.size; omega)))
    (refine bodyPost_ret (v := .tuple #[.agg #[.int .i64 0, .string ⟨#[]⟩], .int .i64 0]) (by simp [results, Tryz.results36, go_sem , hc1, hz1, hc2, hz2, hc3, hz3, hc4, hz4]) rfl ⟨rfl, ?_⟩; repeat' (first | with_reducible exact Below.refl _ _ | with_reducible refine Below.setCell ?_ ?_ _ | with_reducible refine Below.alloc ?_ ?_ _ | with_reducible refine below_drewN ?_ _ | with_reducible refine Below.drew ?_ | with_reducible refine Below.trans ?_ (Below.mono (by assumption) ?_) | with_reducible exact Nat.le_refl _ | with_reducible refine Nat.le_trans ?_ (Below.size (by assumption)) | with_reducible refine Nat.le_trans ?_ (size_alloc _ _) | with_reducible refine Nat.le_trans ?_ (size_set _ _ _) | with_reducible refine Nat.le_trans ?_ (size_drewN _ _) | with_reducible refine Nat.le_trans ?_ (size_drew _) | (simp; done) | (simp; omega) | omega))
  
set_option maxRecDepth 100000 in
set_option maxHeartbeats 4000000 in
theorem rp_quote (S : List UInt8) (a : Nat) (c : UInt8) (w : World) (ha : a < S.length) (hs : S.length ≤ 1000) (hc : S[a] = c) (h0 : c = 34) :
    Calls Tryz.prog 36 #[.string ⟨S.toArray⟩, .int .i64 (a : Int)] w fun e w' => e = .returned (.tuple #[(rFirst (S.drop a)).1, .int .i64 (rFirst (S.drop a)).2]) ∧ Below w.heap.size w w' := by
  have sz := mk_size S
  have hL : S.drop a = c :: S.drop (a + 1) := by rw [← hc]; exact List.drop_eq_getElem_cons ha
  have hx : ∀ h, (⟨S.toArray⟩ : ByteArray)[a]'h = c := fun h => hc
  have g1 : (a : Int) < (S.length : Int) := by omega
  have g0 : (0 : Int) ≤ (a : Int) := by omega
  have hti : (S.length : Int) ≤ 1000 := by omega
  have wr1 : IntKind.i64.wrap ((a : Int) + 1) = (a : Int) + 1 := by rw [IntKind.wrap_i64]; omega
  have g2 : (a : Int) + 1 ≤ (S.length : Int) := by omega
  have t1 : ((a : Int) + 1).toNat = a + 1 := by omega
  have e34 : (c.toNat : Int) = 34 := by subst h0; decide
  have b34 : ((c.toNat : Int) == 34) = true := by rw [e34]; rfl
  have n34 : ((c.toNat : Int) != 34) = false := by rw [bne, b34]; rfl
  have e92 : ¬ (c.toNat : Int) = 92 := by subst h0; decide
  have b92 : ((c.toNat : Int) == 92) = false := by rw [beq_eq_false_iff_ne]; exact e92
  have n92 : ((c.toNat : Int) != 92) = true := by rw [bne, b92]; rfl
  have e37 : ¬ (c.toNat : Int) = 37 := by subst h0; decide
  have b37 : ((c.toNat : Int) == 37) = false := by rw [beq_eq_false_iff_ne]; exact e37
  have n37 : ((c.toNat : Int) != 37) = true := by rw [bne, b37]; rfl
  have e64 : ¬ (c.toNat : Int) = 64 := by subst h0; decide
  have b64 : ((c.toNat : Int) == 64) = false := by rw [beq_eq_false_iff_ne]; exact e64
  have n64 : ((c.toNat : Int) != 64) = true := by rw [bne, b64]; rfl
  have e121 : ¬ (c.toNat : Int) = 121 := by subst h0; decide
  have b121 : ((c.toNat : Int) == 121) = false := by rw [beq_eq_false_iff_ne]; exact e121
  have n121 : ((c.toNat : Int) != 121) = true := by rw [bne, b121]; rfl
  obtain ⟨RV, hRV⟩ : ∃ RV, (rFirst (S.drop a)).1 = RV := ⟨_, rfl⟩
  obtain ⟨RN, hRN⟩ : ∃ RN, (rFirst (S.drop a)).2 = RN := ⟨_, rfl⟩
  rw [hRV, hRN]
  have HY : Hid (∀ i, a + 1 ≤ i → ∀ (hi : i < S.length), S[i] = 34 → (∀ d ∈ (S.drop (a + 1)).take (i - (a + 1)), d ≠ 34) → RV = .agg #[.int .i64 0, .string ⟨((S.drop (a + 1)).take (i - (a + 1))).toArray⟩] ∧ (RN : Int) = (i : Int) + 1 - (a : Int)) := by
    intro i h1 h2 h3 h4
    have e : S.drop (a + 1) = (S.drop (a + 1)).take (i - (a + 1)) ++ 34 :: S.drop (i + 1) := by
      have e1 := (List.take_append_drop (i - (a + 1)) (S.drop (a + 1))).symm
      rw [List.drop_drop, show a + 1 + (i - (a + 1)) = i by omega, List.drop_eq_getElem_cons h2, h3] at e1
      exact e1
    have v : rFirst (S.drop a) = (rpc ⟨0, (S.drop (a + 1)).take (i - (a + 1))⟩, ((S.drop (a + 1)).take (i - (a + 1))).length + 2) := by
      rw [hL, h0]
      conv => lhs; rw [e]
      exact rfirst_hit h4
    rw [← hRV, ← hRN, v]
    refine ⟨rfl, ?_⟩
    rw [List.length_take, List.length_drop]
    omega
  have HX : Hid ((∀ d ∈ S.drop (a + 1), d ≠ 34) → RV = .agg #[.int .i64 0, .string ⟨#[]⟩] ∧ RN = 0) := by
    intro h
    have v : rFirst (S.drop a) = (noPc, 0) := by rw [hL, h0]; exact rfirst_miss h
    rw [← hRV, ← hRN, v]
    exact ⟨rfl, rfl⟩
  clear hRV hRN hL hc h0
  go_enter Tryz.func36, Tryz.ntmps36
  go_wp2
  go_loopw [7] (fun iv wr => ∃ i : Nat, a + 1 ≤ i ∧ i ≤ S.length ∧ iv = .int .i64 i ∧ Hid (∀ d ∈ (S.drop (a + 1)).take (i - (a + 1)), d ≠ 34) ∧ wr = w.alloc (Obj.cells #[Value.int IntKind.i64 0, Value.string ⟨#[]⟩] 79)) (fun iv _ => S.length - (intOf iv).toNat)
  case atStart => exact ⟨a + 1, Nat.le_refl _, ha, by go_num, by intro d hd; simp at hd, rfl⟩
  case round =>
    obtain ⟨i, hi1, hi2, rfl, HQ, rfl⟩ := hrel
    have wri : IntKind.i64.wrap ((i : Int) + 1) = (i : Int) + 1 := by rw [IntKind.wrap_i64]; omega
    have wri2 : IntKind.i64.wrap ((i : Int) + 1 - (a : Int)) = (i : Int) + 1 - (a : Int) := by rw [IntKind.wrap_i64]; omega
    have gi1 : (a : Int) + 1 ≤ (i : Int) := by omega
    have gi2 : (i : Int) ≤ (S.length : Int) := by omega
    have gi0 : (0 : Int) ≤ (i : Int) := by omega
    have gia : (0 : Int) ≤ (a : Int) + 1 := by omega
    by_cases hlt : i < S.length
    · have gi : (i : Int) < (S.length : Int) := by omega
      have hxi : ∀ h, (⟨S.toArray⟩ : ByteArray)[i]'h = S[i] := fun h => rfl
      by_cases c1 : S[i] = 34
      · have d1 : (S[i].toNat : Int) = 34 := by rw [c1]; rfl
        have d2 : ((S[i].toNat : Int) == 34) = true := by rw [d1]; rfl
        have HF := hide (HY.out i hi1 hlt c1 HQ.out)
        have hcut := cut_mid S (a + 1) i
        obtain ⟨T, hT⟩ : ∃ T, (S.drop (a + 1)).take (i - (a + 1)) = T := ⟨_, rfl⟩
        rw [hT] at hcut HF
        clear HQ HX HY c1 hT
        go_wp2
        refine bodyPost_ret (v := .tuple #[.agg #[.int .i64 0, .string ⟨T.toArray⟩], .int .i64 ((i : Int) + 1 - (a : Int))]) (by simp [results, Tryz.results36, go_sem]) rfl ⟨by rw [HF.out.1, HF.out.2], ?_⟩
        repeat' (first | with_reducible exact Below.refl _ _ | with_reducible refine Below.setCell ?_ ?_ _ | with_reducible refine Below.alloc ?_ ?_ _ | with_reducible refine below_drewN ?_ _ | with_reducible refine Below.drew ?_ | with_reducible refine Below.trans ?_ (Below.mono (by assumption) ?_) | with_reducible exact Nat.le_refl _ | with_reducible refine Nat.le_trans ?_ (Below.size (by assumption)) | with_reducible refine Nat.le_trans ?_ (size_alloc _ _) | with_reducible refine Nat.le_trans ?_ (size_set _ _ _) | with_reducible refine Nat.le_trans ?_ (size_drewN _ _) | with_reducible refine Nat.le_trans ?_ (size_drew _) | (simp; done) | (simp; omega) | omega)
      · have d1 : ¬ (S[i].toNat : Int) = 34 := fun q => c1 (UInt8.toNat_inj.1 (by show S[i].toNat = 34; omega))
        have d2 : ((S[i].toNat : Int) == 34) = false := by rw [beq_eq_false_iff_ne]; exact d1
        have HQ2 : Hid (∀ d ∈ (S.drop (a + 1)).take (i + 1 - (a + 1)), d ≠ 34) := by
          intro d hd
          rw [show i + 1 - (a + 1) = i - (a + 1) + 1 by omega, List.take_succ_eq_append_getElem (by rw [List.length_drop]; omega)] at hd
          rcases List.mem_append.1 hd with hd | hd
          · exact HQ.out d hd
          · rw [List.mem_singleton] at hd
            rw [hd, List.getElem_drop]
            simpa only [show a + 1 + (i - (a + 1)) = i by omega] using c1
        clear HQ HX HY c1
        go_wp2
        go_roundw
        case rel => exact ⟨i + 1, by omega, hlt, by go_num, HQ2, trivial⟩
        case measure => simp [intOf] <;> omega
    · have gi : ¬ (i : Int) < (S.length : Int) := by omega
      have hall := HQ.out
      rw [List.take_of_length_le (by rw [List.length_drop]; omega)] at hall
      have HF := hide (HX.out hall)
      clear HQ HX HY hall
      go_wp2
      refine bodyPost_ret (v := .tuple #[.agg #[.int .i64 0, .string ⟨#[]⟩], .int .i64 0]) (by simp [results, Tryz.results36, go_sem]) rfl ⟨by rw [HF.out.1, HF.out.2]; rfl, ?_⟩
      repeat' (first | with_reducible exact Below.refl _ _ | with_reducible refine Below.setCell ?_ ?_ _ | with_reducible refine Below.alloc ?_ ?_ _ | with_reducible refine below_drewN ?_ _ | with_reducible refine Below.drew ?_ | with_reducible refine Below.trans ?_ (Below.mono (by assumption) ?_) | with_reducible exact Nat.le_refl _ | with_reducible refine Nat.le_trans ?_ (Below.size (by assumption)) | with_reducible refine Nat.le_trans ?_ (size_alloc _ _) | with_reducible refine Nat.le_trans ?_ (size_set _ _ _) | with_reducible refine Nat.le_trans ?_ (size_drewN _ _) | with_reducible refine Nat.le_trans ?_ (size_drew _) | (simp; done) | (simp; omega) | omega)
/-- The answer's piece at a place where no section ends. -/
theorem rpiece_any (S : List UInt8) (a : Nat) (w : World) (ha : a < S.length) (hs : S.length ≤ 1000) (h59 : S[a] ≠ 59) :
    Calls Tryz.prog 36 #[.string ⟨S.toArray⟩, .int .i64 (a : Int)] w fun e w' => e = .returned (.tuple #[(rFirst (S.drop a)).1, .int .i64 (rFirst (S.drop a)).2]) ∧ Below w.heap.size w w' := by
  obtain ⟨c, hc⟩ : ∃ c, S[a] = c := ⟨_, rfl⟩
  rw [hc] at h59
  by_cases h1 : c = 34
  · exact rp_quote S a c w ha hs hc h1
  by_cases h2 : c = 92
  · by_cases hl : a + 1 < S.length
    · exact rp_esc S a c w ha hs hc h2 hl
    · exact rp_bare S a c w ha hs hc h2 (by omega)
  by_cases h3 : c = 37
  · exact rp_hundred S a c w ha hs hc h3
  by_cases h4 : c = 64
  · exact rp_at S a c w ha hs hc h4
  by_cases h6 : daysL.contains c = true
  · have q : c = 121 ∨ c = 109 ∨ c = 100 := by simpa [daysL] using h6
    by_cases y : c = 121
    · by_cases n2 : rowLen (S.drop a) [c] = 2
      · exact rp_year2 S a c w ha hs hc y n2
      by_cases n4 : rowLen (S.drop a) [c] = 4
      · exact rp_year4 S a c w ha hs hc y n4
      exact rp_yearN S a c w ha hs hc y ⟨n2, n4⟩
    · have q2 : c = 109 ∨ c = 100 := q.resolve_left y
      by_cases n2 : rowLen (S.drop a) [c] ≤ 2
      · exact rp_dayY S a c w ha hs hc q2 n2
      · exact rp_dayN S a c w ha hs hc q2 (by omega)
  by_cases h7 : marksL.contains c = true
  · have q : c = 48 ∨ c = 35 ∨ c = 44 ∨ c = 46 := by simpa [marksL] using h7
    cases hp : placeB ((S.drop a).take (rowLen (S.drop a) marksL))
    · exact rp_markN S a c w ha hs hc q hp
    · exact rp_markY S a c w ha hs hc q hp
  by_cases h8 : selvesL.contains c = true
  · exact rp_self S a c w ha hs hc (by simpa [selvesL] using h8)
  exact rp_else S a c w ha hs hc h1 h2 h3 h4 h59 (by simpa using h6) (by simpa using h7) (by simpa using h8)
end Go.Proofs.YtnhaapcpklfkpaaGreatDoor
