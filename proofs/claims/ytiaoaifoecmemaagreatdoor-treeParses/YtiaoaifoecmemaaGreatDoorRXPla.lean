/-
  Out of Pl0, Pl1, Pl2, Pt0, Pt1, Pt3, Pt4, what is asked for (laid by pack.py).
-/
import Derived.Test.YtiaoaifoecmemaaGreatDoorR0
import Derived.Deep.RegionHeld3
import Derived.Laws.IdiomStrings
import Derived.Lib.AtoiErrMem
import Derived.Lib.MinMax
import Derived.Lib.OthersKept
import Derived.LoopTactic
import Derived.WalkLawsBesides
import Derived.WalkSpells
set_option maxRecDepth 100000
set_option maxHeartbeats 4000000
namespace Go.Proofs.YtiaoaifoecmemaaGreatDoor.Pla
section
open Go.RowKit
theorem hide {p : Prop} (h : p) : Hid p := h
def colB (c : Int) : Bool := decide (1 ≤ c) && decide (c ≤ 16384)
def rowB (r : Int) : Bool := decide (1 ≤ r) && decide (r ≤ 1048576)
def placeB (r c : Int) : Bool := rowB r && colB c
theorem colB_iff {c : Int} : colB c = true ↔ 1 ≤ c ∧ c ≤ 16384 := by unfold colB; simp
theorem rowB_iff {c : Int} : rowB c = true ↔ 1 ≤ c ∧ c ≤ 1048576 := by unfold rowB; simp
theorem colB_no {c : Int} : colB c = false ↔ c < 1 ∨ 16384 < c := by unfold colB; simp; omega
theorem rowB_no {c : Int} : rowB c = false ↔ c < 1 ∨ 1048576 < c := by unfold rowB; simp; omega
theorem placeB_iff {r c : Int} : placeB r c = true ↔ 1 ≤ r ∧ r ≤ 1048576 ∧ 1 ≤ c ∧ c ≤ 16384 := by unfold placeB; rw [Bool.and_eq_true, rowB_iff, colB_iff]; omega
theorem placeB_no {r c : Int} : placeB r c = false ↔ r < 1 ∨ 1048576 < r ∨ c < 1 ∨ 16384 < c := by unfold placeB; rw [Bool.and_eq_false_iff, rowB_no, colB_no]; omega
def ofR (a b c d : Int) : Int × Int × Int × Int × Int := if placeB a b && placeB c d then (min a c, min b d, max a c, max b d, 0) else (0, 0, 0, 0, 2)
end
section
open Go.RowKit
theorem isColumn_any (c : Int) (w : World) :
    Calls Tryz.prog 152 #[.int .i64 c] w fun e w' => e = .returned (.bool (colB c)) ∧ w' = w := by
  cases h : colB c
  · rw [colB_no] at h
    by_cases h1 : 1 ≤ c
    · have h2 : ¬ c ≤ 16384 := by omega
      go_enter Tryz.func152, Tryz.ntmps152
      go_wp2
      go_ret
      exact ⟨rfl, rfl⟩
    · go_enter Tryz.func152, Tryz.ntmps152
      go_wp2
      go_ret
      exact ⟨rfl, rfl⟩
  · obtain ⟨h1, h2⟩ := colB_iff.1 h
    go_enter Tryz.func152, Tryz.ntmps152
    go_wp2
    go_ret
    exact ⟨rfl, rfl⟩
theorem isRow_any (c : Int) (w : World) :
    Calls Tryz.prog 151 #[.int .i64 c] w fun e w' => e = .returned (.bool (rowB c)) ∧ w' = w := by
  cases h : rowB c
  · rw [rowB_no] at h
    by_cases h1 : 1 ≤ c
    · have h2 : ¬ c ≤ 1048576 := by omega
      go_enter Tryz.func151, Tryz.ntmps151
      go_wp2
      go_ret
      exact ⟨rfl, rfl⟩
    · go_enter Tryz.func151, Tryz.ntmps151
      go_wp2
      go_ret
      exact ⟨rfl, rfl⟩
  · obtain ⟨h1, h2⟩ := rowB_iff.1 h
    go_enter Tryz.func151, Tryz.ntmps151
    go_wp2
    go_ret
    exact ⟨rfl, rfl⟩
theorem isPlace_any (r c : Int) (w : World) :
    Calls Tryz.prog 119 #[.agg #[.int .i64 r, .int .i64 c]] w fun e w' => e = .returned (.bool (placeB r c)) ∧ w' = w.alloc (.cells #[.int .i64 r, .int .i64 c] 29) := by
  unfold placeB
  cases h1 : rowB r
  · go_enter Tryz.func119, Tryz.ntmps119
    go_wp2_with (first | (go_at_call 151; refine (isRow_any _ _).mono ?_; rintro e w' ⟨rfl, rfl⟩) | (go_at_call 152; refine (isColumn_any _ _).mono ?_; rintro e w' ⟨rfl, rfl⟩))
    go_ret
    exact ⟨rfl, rfl⟩
  · go_enter Tryz.func119, Tryz.ntmps119
    go_wp2_with (first | (go_at_call 151; refine (isRow_any _ _).mono ?_; rintro e w' ⟨rfl, rfl⟩) | (go_at_call 152; refine (isColumn_any _ _).mono ?_; rintro e w' ⟨rfl, rfl⟩))
    go_ret
    exact ⟨rfl, rfl⟩
def At4 (w : World) (b : Nat) (x y u v : Int) : Prop := b < w.heap.size ∧ w.cell? ⟨b, 0, none⟩ = some (.int .i64 x) ∧ w.cell? ⟨b, 1, none⟩ = some (.int .i64 y) ∧ w.cell? ⟨b, 2, none⟩ = some (.int .i64 u) ∧ w.cell? ⟨b, 3, none⟩ = some (.int .i64 v)
theorem At4.new (w : World) (x y u v : Int) (t : TypeId) : At4 (w.alloc (.cells #[.int .i64 x, .int .i64 y, .int .i64 u, .int .i64 v] t)) w.heap.size x y u v := ⟨by simp, by simp [go_sem], by simp [go_sem], by simp [go_sem], by simp [go_sem]⟩
theorem At4.below {w w' : World} {b : Nat} {x y u v : Int} (h : At4 w b x y u v) (k : Below w.heap.size w w') : At4 w' b x y u v :=
 ⟨Nat.lt_of_lt_of_le h.1 k.size, by rw [k.cell (p := ⟨b, 0, none⟩) h.1]; exact h.2.1, by rw [k.cell (p := ⟨b, 1, none⟩) h.1]; exact h.2.2.1, by rw [k.cell (p := ⟨b, 2, none⟩) h.1]; exact h.2.2.2.1, by rw [k.cell (p := ⟨b, 3, none⟩) h.1]; exact h.2.2.2.2⟩
theorem At4.alloc {w : World} {b : Nat} {x y u v : Int} (h : At4 w b x y u v) (o : Obj) : At4 (w.alloc o) b x y u v := h.below ((Below.refl _ _).alloc (Nat.le_refl _) o)
def Has4 (w : World) (b : Nat) (x y u v : Int) : Prop := At4 w b x y u v ∧ w.frozen? ⟨b, 0, none⟩ = false ∧ w.frozen? ⟨b, 1, none⟩ = false ∧ w.frozen? ⟨b, 2, none⟩ = false ∧ w.frozen? ⟨b, 3, none⟩ = false
theorem Has4.new (w : World) (x y u v : Int) (t : TypeId) : Has4 (w.alloc (.cells #[.int .i64 x, .int .i64 y, .int .i64 u, .int .i64 v] t)) w.heap.size x y u v := ⟨At4.new w x y u v t, by simp, by simp, by simp, by simp⟩
theorem Has4.below {w w' : World} {b : Nat} {x y u v : Int} (h : Has4 w b x y u v) (k : Below w.heap.size w w') : Has4 w' b x y u v :=
 ⟨h.1.below k, by rw [k.frozen (p := ⟨b, 0, none⟩) h.1.1]; exact h.2.1, by rw [k.frozen (p := ⟨b, 1, none⟩) h.1.1]; exact h.2.2.1, by rw [k.frozen (p := ⟨b, 2, none⟩) h.1.1]; exact h.2.2.2.1, by rw [k.frozen (p := ⟨b, 3, none⟩) h.1.1]; exact h.2.2.2.2⟩
theorem Has4.alloc {w : World} {b : Nat} {x y u v : Int} (h : Has4 w b x y u v) (o : Obj) : Has4 (w.alloc o) b x y u v := h.below ((Below.refl _ _).alloc (Nat.le_refl _) o)
def At2 (w : World) (b : Nat) (x y : Int) : Prop := b < w.heap.size ∧ w.cell? ⟨b, 0, none⟩ = some (.int .i64 x) ∧ w.cell? ⟨b, 1, none⟩ = some (.int .i64 y)
theorem At2.new (w : World) (x y : Int) (t : TypeId) : At2 (w.alloc (.cells #[.int .i64 x, .int .i64 y] t)) w.heap.size x y := ⟨by simp, by simp [go_sem], by simp [go_sem]⟩
theorem At2.below {w w' : World} {b : Nat} {x y : Int} (h : At2 w b x y) (k : Below w.heap.size w w') : At2 w' b x y :=
 ⟨Nat.lt_of_lt_of_le h.1 k.size, by rw [k.cell (p := ⟨b, 0, none⟩) h.1]; exact h.2.1, by rw [k.cell (p := ⟨b, 1, none⟩) h.1]; exact h.2.2⟩
theorem At2.alloc {w : World} {b : Nat} {x y : Int} (h : At2 w b x y) (o : Obj) : At2 (w.alloc o) b x y := h.below ((Below.refl _ _).alloc (Nat.le_refl _) o)
theorem of_any (a b c d : Int) (w : World) :
    Calls Tryz.prog 108 #[.agg #[.int .i64 a, .int .i64 b], .agg #[.int .i64 c, .int .i64 d]] w fun e w' => e = .returned (.tuple #[.agg #[.int .i64 (ofR a b c d).1, .int .i64 (ofR a b c d).2.1, .int .i64 (ofR a b c d).2.2.1, .int .i64 (ofR a b c d).2.2.2.1], .int .i64 (ofR a b c d).2.2.2.2]) ∧ Below w.heap.size w w' := by
  unfold ofR
  cases h1 : placeB a b
  · go_enter Tryz.func108, Tryz.ntmps108
    go_wp2_with (go_at_call 119; refine (isPlace_any _ _ _).mono ?_; rintro e w' ⟨rfl, rfl⟩)
    refine bodyPost_ret (v := .tuple #[.agg #[.int .i64 0, .int .i64 0, .int .i64 0, .int .i64 0], .int .i64 2]) (by simp [results, Tryz.results108, go_sem]) rfl ⟨rfl, ?_⟩
    repeat' (first | with_reducible (first | exact Below.refl _ _ | refine Below.setCell ?_ ?_ _ | refine Below.alloc ?_ ?_ _ | refine below_drewN ?_ _ | refine Below.drew ?_ | refine Below.trans ?_ (Below.mono (by assumption) ?_) | exact Nat.le_refl _ | refine Nat.le_trans ?_ (Below.size (by assumption)) | refine zzA ?_ | refine zzB ?_ | refine zzC ?_ | refine zzD ?_) | (simp; done) | (simp; omega) | omega)
  · cases h2 : placeB c d
    · go_enter Tryz.func108, Tryz.ntmps108
      go_wp2_with (go_at_call 119; refine (isPlace_any _ _ _).mono ?_; rintro e w' ⟨rfl, rfl⟩)
      refine bodyPost_ret (v := .tuple #[.agg #[.int .i64 0, .int .i64 0, .int .i64 0, .int .i64 0], .int .i64 2]) (by simp [results, Tryz.results108, go_sem]) rfl ⟨rfl, ?_⟩
      repeat' (first | with_reducible (first | exact Below.refl _ _ | refine Below.setCell ?_ ?_ _ | refine Below.alloc ?_ ?_ _ | refine below_drewN ?_ _ | refine Below.drew ?_ | refine Below.trans ?_ (Below.mono (by assumption) ?_) | exact Nat.le_refl _ | refine Nat.le_trans ?_ (Below.size (by assumption)) | refine zzA ?_ | refine zzB ?_ | refine zzC ?_ | refine zzD ?_) | (simp; done) | (simp; omega) | omega)
    · go_enter Tryz.func108, Tryz.ntmps108
      go_wp2_with (go_at_call 119; refine (isPlace_any _ _ _).mono ?_; rintro e w' ⟨rfl, rfl⟩)
      refine bodyPost_ret (v := .tuple #[.agg #[.int .i64 (min a c), .int .i64 (min b d), .int .i64 (max a c), .int .i64 (max b d)], .int .i64 0]) (by simp [results, Tryz.results108, go_sem]) rfl ⟨rfl, ?_⟩
      repeat' (first | with_reducible (first | exact Below.refl _ _ | refine Below.setCell ?_ ?_ _ | refine Below.alloc ?_ ?_ _ | refine below_drewN ?_ _ | refine Below.drew ?_ | refine Below.trans ?_ (Below.mono (by assumption) ?_) | exact Nat.le_refl _ | refine Nat.le_trans ?_ (Below.size (by assumption)) | refine zzA ?_ | refine zzB ?_ | refine zzC ?_ | refine zzD ?_) | (simp; done) | (simp; omega) | omega)
end
section
open Go.RowKit
theorem three {w w' : World} {p q s : Nat} {t l b r t' l' b' r' x y u v : Int} (h : At4 w p t l b r ∧ At4 w q t' l' b' r' ∧ Has4 w s x y u v) (k : Below w.heap.size w w') : At4 w' p t l b r ∧ At4 w' q t' l' b' r' ∧ Has4 w' s x y u v :=
 ⟨h.1.below k, h.2.1.below k, h.2.2.below k⟩
end
section
open Go.RowKit
def lettersN (n : Nat) : List UInt8 := if n = 0 then [] else lettersN ((n - 1) / 26) ++ [UInt8.ofNat (65 + (n - 1) % 26)]
termination_by n
decreasing_by omega
theorem letters_zero : lettersN 0 = [] := by rw [lettersN]; rfl
theorem letters_succ {n : Nat} (h : 0 < n) : lettersN n = lettersN ((n - 1) / 26) ++ [UInt8.ofNat (65 + (n - 1) % 26)] := by
 conv => lhs; rw [lettersN]
 rw [if_neg (by omega)]
theorem letters_one {n : Nat} (h : 0 < n) (h' : n ≤ 26) : lettersN n = [UInt8.ofNat (64 + n)] := by
 rw [letters_succ h, show (n - 1) / 26 = 0 by omega, letters_zero, show 65 + (n - 1) % 26 = 64 + n by omega]; rfl
theorem letters_two {n : Nat} (h : 26 < n) (h' : n ≤ 702) : lettersN n = [UInt8.ofNat (64 + (n - 1) / 26), UInt8.ofNat (65 + (n - 1) % 26)] := by
 rw [letters_succ (by omega), letters_one (by omega) (by omega)]; rfl
theorem letters_three {n : Nat} (h : 702 < n) (h' : n ≤ 16384) : lettersN n = [UInt8.ofNat (64 + ((n - 1) / 26 - 1) / 26), UInt8.ofNat (65 + ((n - 1) / 26 - 1) % 26), UInt8.ofNat (65 + (n - 1) % 26)] := by
 rw [letters_succ (by omega), letters_two (by omega) (by omega)]; rfl
theorem letters_cases {n : Nat} (h : 0 < n) (h' : n ≤ 16384) : n ≤ 26 ∨ (26 < n ∧ n ≤ 702) ∨ 702 < n := by omega
theorem letters_len {n : Nat} (h : 0 < n) (h' : n ≤ 16384) : 1 ≤ (lettersN n).length ∧ (lettersN n).length ≤ 3 := by
  rcases letters_cases h h' with a | ⟨a, b⟩ | a
  · rw [letters_one h a]; simp
  · rw [letters_two a b]; simp
  · rw [letters_three a h']; simp
def letB (c : UInt8) : Bool := decide (65 ≤ c.toNat ∧ c.toNat ≤ 90) || decide (97 ≤ c.toNat ∧ c.toNat ≤ 122)
theorem letB_iff {c : UInt8} : letB c = true ↔ (65 ≤ c.toNat ∧ c.toNat ≤ 90) ∨ (97 ≤ c.toNat ∧ c.toNat ≤ 122) := by unfold letB; simp
theorem letB_no {c : UInt8} : letB c = false ↔ ¬ ((65 ≤ c.toNat ∧ c.toNat ≤ 90) ∨ (97 ≤ c.toNat ∧ c.toNat ≤ 122)) := by rw [← Bool.not_eq_true, letB_iff]
def letV (c : UInt8) : Nat := if 97 ≤ c.toNat then c.toNat - 96 else c.toNat - 64
def colV (l : List UInt8) : Nat := l.foldl (fun n c => n * 26 + letV c) 0
theorem letV_bd {c : UInt8} (h : letB c = true) : 1 ≤ letV c ∧ letV c ≤ 26 := by
 rw [letB_iff] at h; unfold letV; split <;> omega
theorem colV_snoc (l : List UInt8) (c : UInt8) : colV (l ++ [c]) = colV l * 26 + letV c := by simp [colV]
theorem ofNat_nat {n : Nat} (h : n < 256) : (UInt8.ofNat n).toNat = n := by simp; omega
theorem letter_up {k : Nat} (h : k < 26) : letB (UInt8.ofNat (65 + k)) = true ∧ letV (UInt8.ofNat (65 + k)) = k + 1 := by
 have e := ofNat_nat (n := 65 + k) (by omega)
 refine ⟨letB_iff.2 (by omega), ?_⟩
 unfold letV; rw [e]; split <;> omega
theorem letters_all (n : Nat) : (lettersN n).all letB = true := by
  induction n using Nat.strongRecOn with
  | _ n ih =>
    by_cases h : n = 0
    · rw [h, letters_zero]; rfl
    · rw [letters_succ (by omega), List.all_append, ih _ (by omega)]
      simp only [List.all_cons, List.all_nil, Bool.and_true, Bool.true_and]
      exact (letter_up (Nat.mod_lt _ (by decide))).1
theorem letters_col (n : Nat) : colV (lettersN n) = n := by
  induction n using Nat.strongRecOn with
  | _ n ih =>
    by_cases h : n = 0
    · rw [h, letters_zero]; rfl
    · rw [letters_succ (by omega), colV_snoc, ih _ (by omega), (letter_up (Nat.mod_lt _ (by decide))).2]
      omega
theorem col_pos {l : List UInt8} (h : l ≠ []) (ha : l.all letB = true) : 1 ≤ colV l := by
  rcases List.eq_nil_or_concat l with e | ⟨m, c, e⟩
  · exact absurd e h
  · rw [List.concat_eq_append] at e
    subst e
    rw [List.all_append] at ha
    simp at ha
    rw [colV_snoc]
    have := (letV_bd ha.2).1
    omega
theorem col_bd (l : List UInt8) (ha : l.all letB = true) : l.length ≤ 3 → colV l ≤ 18278 := by
  intro h
  rcases l with _ | ⟨a, _ | ⟨b, _ | ⟨c, _ | ⟨d, l⟩⟩⟩⟩
  · decide
  · simp [List.all_cons] at ha; have := letV_bd ha; simp [colV]; omega
  · simp [List.all_cons] at ha; have := letV_bd ha.1; have := letV_bd ha.2; simp [colV]; omega
  · simp [List.all_cons] at ha; have := letV_bd ha.1; have := letV_bd ha.2.1; have := letV_bd ha.2.2; simp [colV]; omega
  · simp at h
end
section
open Go.RowKit
theorem enc_ascii {r : Int} (h0 : 0 ≤ r) (h1 : r < 128) : Utf8.encode r = ⟨#[UInt8.ofNat r.toNat]⟩ := by
 have hv : Utf8.valid r = true := by unfold Utf8.valid; simp; omega
 unfold Utf8.encode
 rw [hv]
 simp only [if_true]
 rw [if_pos (by omega)]
theorem str_cons (c : UInt8) (t : List UInt8) : (⟨#[c]⟩ : ByteArray) ++ ⟨t.toArray⟩ = ⟨(c :: t).toArray⟩ := by
 apply ByteArray.ext; simp [ByteArray.data_append]
theorem lettersOf_any (n : Nat) (w : World) (h0 : 0 < n) (hn : n ≤ 16384) :
    Calls Tryz.prog 121 #[.int .i64 n] w fun e w' => e = .returned (.string ⟨(lettersN n).toArray⟩) ∧ w' = w := by
  have HN := hide (letters_len h0 hn).2
  go_enter Tryz.func121, Tryz.ntmps121
  go_wp2
  go_loop [3, 4] (fun s r => ∃ (k : Nat) (t : List UInt8), k ≤ n ∧ r = .int .i64 k ∧ s = .string ⟨t.toArray⟩ ∧ lettersN k ++ t = lettersN n) (fun _ r => (intOf r).toNat)
  case atStart => exact ⟨n, [], Nat.le_refl _, rfl, rfl, by simp⟩
  case round =>
    obtain ⟨k, t, hk, rfl, rfl, ht⟩ := hrel
    have hl : t.length ≤ 3 := by
      have := congrArg List.length ht
      have := HN.out
      simp at *; omega
    have HT := hide ht
    clear ht
    by_cases h0 : 0 < k
    · have h0' : (0 : Int) < (k : Int) := by omega
      have henc : Utf8.encode (65 + ((k : Int) - 1) % 26) = ⟨#[UInt8.ofNat (65 + (k - 1) % 26)]⟩ := by
        rw [enc_ascii (by omega) (by omega), show (65 + ((k : Int) - 1) % 26).toNat = 65 + (k - 1) % 26 by omega]
      obtain ⟨d, hd⟩ : ∃ d, d = UInt8.ofNat (65 + (k - 1) % 26) := ⟨_, rfl⟩
      rw [← hd] at henc
      have HD := hide hd
      clear hd
      go_wp2
      go_round
      case rel =>
        refine ⟨(k - 1) / 26, d :: t, by omega, ?_, ?_, ?_⟩
        · rw [show ((k : Int) - 1) / 26 = (((k - 1) / 26 : Nat) : Int) by omega]
        · rw [str_cons]
        · have := HT.out; rw [letters_succ h0, ← HD.out] at this; simpa using this
      case measure => simp [intOf]; omega
    · have h0' : ¬ (0 : Int) < (k : Int) := by omega
      obtain rfl : k = 0 := by omega
      have ht : t = lettersN n := by have := HT.out; rw [letters_zero] at this; simpa using this
      subst ht
      go_wp2
      go_ret
      exact ⟨rfl, rfl⟩
end
section
open Go.RowKit
def RowB (w : World) (p : Nat) (l : List UInt8) : Prop :=
 p < w.heap.size ∧ ∀ j (hj : j < l.length), w.cell? ⟨p, j, none⟩ = some (.int .u8 (l[j].toNat : Int)) ∧ w.frozen? ⟨p, j, none⟩ = false
theorem RowB.block {w w' : World} {p : Nat} {l : List UInt8} (h : RowB w p l) (hs : w.heap.size ≤ w'.heap.size) (hb : w'.heap[p]? = w.heap[p]?) : RowB w' p l :=
 ⟨Nat.lt_of_lt_of_le h.1 hs, fun j hj => ⟨by rw [World.cell?_of_block (w := w) (a := ⟨p, j, none⟩) hb]; exact (h.2 j hj).1, by rw [World.frozen?_of_block (w := w) (a := ⟨p, j, none⟩) hb]; exact (h.2 j hj).2⟩⟩
theorem RowB.below {w w' : World} {p : Nat} {l : List UInt8} (h : RowB w p l) (q : Below w.heap.size w w') : RowB w' p l := h.block q.size (q.block p h.1)
theorem RowB.alloc {w : World} {p : Nat} {l : List UInt8} (h : RowB w p l) (o : Obj) : RowB (w.alloc o) p l := h.block (by simp) (Below.heap_alloc w o p h.1)
theorem bytes_conv (s : ByteArray) (w : World) : ∃ (cap : Nat) (w1 : World), (convert 9 74 (.string s)).run Tryz.prog w = .ok (.slice (some ⟨w.heap.size, 0, none⟩) s.size cap) w1 ∧ Below w.heap.size w w1 ∧ RowB w1 w.heap.size s.data.toList ∧ w1.heap.size = w.heap.size + 1 := by
  refine ⟨_, _, run_bytes_of_string w 9 74 5 s Tryz.underlying9 Tryz.underlying74 Tryz.underlying5, ?_, ⟨by simp, fun j hj => ?_⟩, by simp⟩
  · exact ((Below.refl _ _).drew).alloc (Nat.le_refl _) _
  · have hj' : j < s.data.size := by simpa using hj
    refine ⟨?_, ?_⟩
    · have := World.cell?_alloc_mark w.drew (bytesRow s (grownCap w s.size 0 5)) 5 ((bytesRow s (grownCap w s.size 0 5)).size, (bytesRow s (grownCap w s.size 0 5)).size + 1) j
      rw [bytesRow_at s _ j hj'] at this
      exact this
    · have := World.frozen?_alloc_mark w.drew (bytesRow s (grownCap w s.size 0 5)) 5 (bytesRow s (grownCap w s.size 0 5)).size ((bytesRow s (grownCap w s.size 0 5)).size + 1) j
      have hl : j < (bytesRow s (grownCap w s.size 0 5)).size := by
        have hg := grownCap_ge w s.size 0 5
        have hq : s.data.size = s.size := rfl
        unfold bytesRow
        rw [Array.size_append, Array.size_map]
        omega
      rw [decide_eq_false (by omega)] at this
      exact this
def digB (c : UInt8) : Bool := decide (48 ≤ c.toNat) && decide (c.toNat ≤ 57)
theorem digB_iff {c : UInt8} : digB c = true ↔ 48 ≤ c.toNat ∧ c.toNat ≤ 57 := by unfold digB; simp
theorem digB_no {c : UInt8} : digB c = false ↔ ¬ (48 ≤ c.toNat ∧ c.toNat ≤ 57) := by rw [← Bool.not_eq_true, digB_iff]
def fixB (c : UInt8) : Bool := decide (c.toNat = 36)
theorem fixB_iff {c : UInt8} : fixB c = true ↔ c.toNat = 36 := by unfold fixB; simp
def decV (l : List UInt8) : Nat := l.foldl (fun n c => n * 10 + (c.toNat - 48)) 0
def rowV (l : List UInt8) : Nat := if l.head? = none ∨ l.head? = some 48 then 0 else decV l
theorem dec_from : ∀ (l : List UInt8) (acc : Nat), l.all digB = true → Lib.decFrom acc l = some (l.foldl (fun n c => n * 10 + (c.toNat - 48)) acc)
 | [], acc, _ => rfl
 | c :: l, acc, h => by
  simp only [List.all_cons, Bool.and_eq_true] at h
  have h1 := digB_iff.1 h.1
  have : Lib.digitVal c = some (c.toNat - 48) := by unfold Lib.digitVal; rw [if_pos h1]
  rw [Lib.decFrom, this]
  exact dec_from l _ h.2
theorem atoi_dec {l : List UInt8} (h0 : l ≠ []) (h : l.all digB = true) : Lib.atoi l = some (decV l : Int) := by
  rcases l with _ | ⟨c, l⟩
  · exact absurd rfl h0
  · have h' := h
    simp only [List.all_cons, Bool.and_eq_true] at h'
    have h1 := digB_iff.1 h'.1
    have e1 : (c == 45) = false := by
      rw [beq_eq_false_iff_ne]; intro e; rw [e] at h1; exact absurd h1.1 (by decide)
    have e2 : (c == 43) = false := by
      rw [beq_eq_false_iff_ne]; intro e; rw [e] at h1; exact absurd h1.1 (by decide)
    have e3 : Lib.decNat (c :: l) = some (decV (c :: l)) := by
      unfold Lib.decNat; exact dec_from _ _ h
    simp only [Lib.atoi, e1, e2, e3]
    rfl
theorem upper_nat {c : UInt8} (h : letB c = true) : (Lib.upperB c).toNat = 64 + letV c := by
  have h' := letB_iff.1 h
  unfold Lib.upperB Lib.isLowerB letV
  by_cases a : 97 ≤ c.toNat
  · have e : (decide (97 ≤ c) && decide (c ≤ 122)) = true := by
      simp only [Bool.and_eq_true, decide_eq_true_eq, UInt8.le_iff_toNat_le]
      exact ⟨a, by show c.toNat ≤ 122; omega⟩
    rw [if_pos e, if_pos a, UInt8.toNat_sub_of_le _ _ (by rw [UInt8.le_iff_toNat_le]; show 32 ≤ _; omega)]
    show c.toNat - 32 = _
    omega
  · have e : ¬ (decide (97 ≤ c) && decide (c ≤ 122)) = true := by
      simp only [Bool.and_eq_true, decide_eq_true_eq, UInt8.le_iff_toNat_le]
      intro x; exact a x.1
    rw [if_neg e, if_neg a]
    omega
theorem upper_at {l : List UInt8} {k : Nat} (hk : k < l.length) (hk' : k < (Lib.toUpperA l).length) (ha : l.all letB = true) : ((Lib.toUpperA l)[k].toNat : Int) = 64 + (letV l[k] : Int) ∧ 1 ≤ letV l[k] ∧ letV l[k] ≤ 26 := by
 have hl : letB l[k] = true := List.all_eq_true.1 ha _ (List.getElem_mem _)
 have e : (Lib.toUpperA l)[k] = Lib.upperB l[k] := by simp [Lib.toUpperA]
 rw [e, upper_nat hl]
 exact ⟨by omega, letV_bd hl⟩
theorem col_take {l : List UInt8} {k : Nat} (hk : k < l.length) : colV (l.take (k + 1)) = colV (l.take k) * 26 + letV l[k] := by
 rw [List.take_succ_eq_append_getElem hk, colV_snoc]
theorem all_take {l : List UInt8} {p : UInt8 → Bool} (k : Nat) (h : l.all p = true) : (l.take k).all p = true := by
 rw [List.all_eq_true] at *; intro x hx; exact h x (List.mem_of_mem_take hx)
theorem ascii_of {s : ByteArray} (ha : s.data.toList.all letB = true) (j : Nat) (b : UInt8) (h : s.data.toList[j]? = some b) : b.toNat < 128 := by
 have := letB_iff.1 (List.all_eq_true.1 ha b (List.mem_of_getElem? h)); omega
theorem columnOf_any (s : ByteArray) (w : World) (ha : s.data.toList.all letB = true) (hs : s.size ≤ 3) :
    Calls Tryz.prog 194 #[.string s] w fun e w' => e = .returned (.int .i64 (colV s.data.toList)) ∧ Below w.heap.size w w' := by
  have HU : Hid (∀ W : World, Calls Tryz.prog 214 #[.string s] W fun e w' => e = .returned (.string ⟨(Lib.toUpperA s.data.toList).toArray⟩) ∧ Below W.heap.size W w') := fun W => Tryz.strings_ToUpper_ascii s W (by omega) (ascii_of ha)
  have hl : s.data.toList.length = s.size := by simp
  generalize hL : s.data.toList = l at *
  clear hL
  have hul : (Lib.toUpperA l).length = l.length := by simp [Lib.toUpperA]
  have hn : l.length ≤ 3 := by omega
  have HA := hide ha
  clear ha hs hl
  have hsz : (⟨(Lib.toUpperA l).toArray⟩ : ByteArray).size = l.length := by
    show (Lib.toUpperA l).toArray.size = _
    rw [List.size_toArray, hul]
  go_enter Tryz.func194, Tryz.ntmps194
  go_wp2_with (go_at_call 214; refine (HU.out _).mono ?_; rintro e w1 ⟨rfl, hb1⟩; obtain ⟨cap, w2, hconv, hb2, hr2, hz2⟩ := bytes_conv ⟨(Lib.toUpperA l).toArray⟩ w1; have HB1 := hide hb1; have HB2 := hide hb2; have HR2 := hide hr2; clear hb1 hb2 hr2)
  have HB := hide (HB1.out.trans (HB2.out.mono HB1.out.size))
  clear hconv HB1 HB2 hz2
  go_loop [3, 10] (fun cv iv => ∃ k : Nat, k ≤ l.length ∧ iv = .int .i64 k ∧ cv = .int .i64 (colV (l.take k))) (fun _ iv => l.length - (intOf iv).toNat)
  case atStart => exact ⟨0, Nat.zero_le _, rfl, rfl⟩
  case round =>
    obtain ⟨k, hk, rfl, rfl⟩ := hrel
    by_cases hlt : k < l.length
    · have hlt' : (k : Int) < (l.length : Int) := by omega
      have hku : k < (Lib.toUpperA l).length := by omega
      have hcell := (HR2.out.2 k hku).1
      obtain ⟨eu, e1, e2⟩ := upper_at hlt hku HA.out
      rw [eu] at hcell
      clear eu
      have HT := hide (col_take hlt)
      have hc1 := col_bd (l.take k) (all_take k HA.out) (by rw [List.length_take]; omega)
      generalize letV l[k] = v at *
      generalize colV (l.take k) = C at *
      clear hku hul hsz
      go_wp2
      go_round
      case rel =>
        refine ⟨k + 1, by omega, by go_num, ?_⟩
        rw [HT.out]
        first | go_num | (congr 1; omega)
      case measure => simp [intOf]; omega
    · have hlt' : ¬ (k : Int) < (l.length : Int) := by omega
      obtain rfl : k = l.length := by omega
      clear hul hsz hlt
      go_wp2
      go_ret
      exact ⟨rfl, HB.out⟩
theorem isLetter_any (c : UInt8) (w : World) : Calls Tryz.prog 192 #[.int .u8 (c.toNat : Int)] w fun e w' => e = .returned (.bool (letB c)) ∧ w' = w := by
  have hu : c.toNat < 256 := UInt8.toNat_lt _
  by_cases a1 : (65 : Int) ≤ c.toNat
  · by_cases a2 : (c.toNat : Int) ≤ 90
    · rw [letB_iff.2 (by omega)]
      go_enter Tryz.func192, Tryz.ntmps192
      go_wp2
      go_ret
      exact ⟨rfl, rfl⟩
    · by_cases a3 : (97 : Int) ≤ c.toNat
      · by_cases a4 : (c.toNat : Int) ≤ 122
        · rw [letB_iff.2 (by omega)]
          go_enter Tryz.func192, Tryz.ntmps192
          go_wp2
          go_ret
          exact ⟨rfl, rfl⟩
        · rw [letB_no.2 (by omega)]
          go_enter Tryz.func192, Tryz.ntmps192
          go_wp2
          go_ret
          exact ⟨rfl, rfl⟩
      · rw [letB_no.2 (by omega)]
        go_enter Tryz.func192, Tryz.ntmps192
        go_wp2
        go_ret
        exact ⟨rfl, rfl⟩
  · rw [letB_no.2 (by omega)]
    have a3 : ¬ (97 : Int) ≤ c.toNat := by omega
    go_enter Tryz.func192, Tryz.ntmps192
    go_wp2
    go_ret
    exact ⟨rfl, rfl⟩
theorem isDigit_any (c : UInt8) (w : World) : Calls Tryz.prog 196 #[.int .u8 (c.toNat : Int)] w fun e w' => e = .returned (.bool (digB c)) ∧ w' = w := by
  have hu : c.toNat < 256 := UInt8.toNat_lt _
  by_cases a1 : (48 : Int) ≤ c.toNat
  · by_cases a2 : (c.toNat : Int) ≤ 57
    · rw [digB_iff.2 (by omega)]
      go_enter Tryz.func196, Tryz.ntmps196
      go_wp2
      go_ret
      exact ⟨rfl, rfl⟩
    · rw [digB_no.2 (by omega)]
      go_enter Tryz.func196, Tryz.ntmps196
      go_wp2
      go_ret
      exact ⟨rfl, rfl⟩
  · rw [digB_no.2 (by omega)]
    go_enter Tryz.func196, Tryz.ntmps196
    go_wp2
    go_ret
    exact ⟨rfl, rfl⟩
theorem isFixed_any (c : UInt8) (w : World) : Calls Tryz.prog 190 #[.int .u8 (c.toNat : Int)] w fun e w' => e = .returned (.bool (fixB c)) ∧ w' = w := by
  have hu : c.toNat < 256 := UInt8.toNat_lt _
  have h36 : ((⟨#[36]⟩ : ByteArray)[0]'(by decide)).toNat = 36 := rfl
  by_cases a1 : c.toNat = 36
  · rw [fixB_iff.2 a1]
    have e : ((c.toNat : Int) == 36) = true := by simp; omega
    go_enter Tryz.func190, Tryz.ntmps190
    go_wp2
    go_ret
    exact ⟨by first | rfl | (rw [a1]; rfl), rfl⟩
  · have e : ((c.toNat : Int) == 36) = false := by simp; omega
    rw [show fixB c = false by unfold fixB; simp; exact a1]
    go_enter Tryz.func190, Tryz.ntmps190
    go_wp2
    go_ret
    exact ⟨by first | rfl | (simp; omega), rfl⟩
theorem rowV_nil : rowV [] = 0 := rfl
theorem rowV_zero (l : List UInt8) : rowV (48 :: l) = 0 := rfl
theorem rowV_dec {c : UInt8} {l : List UInt8} (h : c ≠ 48) : rowV (c :: l) = decV (c :: l) := by
 unfold rowV; rw [if_neg (by simp [h])]
theorem rowOf_any (s : ByteArray) (w : World) (ha : s.data.toList.all digB = true) (hs : s.size ≤ 7) :
    Calls Tryz.prog 198 #[.string s] w fun e w' => e = .returned (.int .i64 (rowV s.data.toList)) ∧ Below w.heap.size w w' := by
  obtain ⟨⟨l⟩⟩ := s
  have ha' : l.all digB = true := ha
  have hs' : l.length ≤ 7 := hs
  show Calls Tryz.prog 198 #[.string ⟨⟨l⟩⟩] w fun e w' => e = .returned (.int .i64 (rowV l)) ∧ Below w.heap.size w w'
  rcases l with _ | ⟨c, l⟩
  · rw [rowV_nil]
    go_enter Tryz.func198, Tryz.ntmps198
    go_wp2
    go_ret
    exact ⟨rfl, Below.refl _ _⟩
  · have hne : ((c :: l) == ([] : List UInt8)) = false := rfl
    by_cases h0 : c = 48
    · subst h0
      rw [rowV_zero]
      go_enter Tryz.func198, Tryz.ntmps198
      go_wp2
      go_ret
      exact ⟨rfl, Below.refl _ _⟩
    · have HA : Hid (∀ W : World, Calls Tryz.prog 215 #[.string ⟨⟨c :: l⟩⟩] W fun e w' => e = .returned (.tuple #[.int .i64 (decV (c :: l)), .nilIface]) ∧ Below W.heap.size W w') := fun W =>
        (Tryz.strconv_Atoi ⟨⟨c :: l⟩⟩ (decV (c :: l)) (by have : (⟨⟨c :: l⟩⟩ : ByteArray).size = (c :: l).length := rfl; omega) (atoi_dec (by simp) ha') W).mono fun e w' ⟨h1, t, h2⟩ => ⟨h1, by rw [h2]; exact Lib.bytesWorld_below _ _ _⟩
      rw [rowV_dec h0]
      have h1 : ((c.toNat : Int) == 48) = false := by
        simp; intro e; exact h0 (UInt8.toNat_inj.1 (by show c.toNat = 48; omega))
      have hpos : 0 < (⟨⟨c :: l⟩⟩ : ByteArray).size := Nat.succ_pos _
      have hx : (⟨⟨c :: l⟩⟩ : ByteArray)[0]'hpos = c := rfl
      generalize decV (c :: l) = v at *
      clear ha ha' hs hs'
      go_enter Tryz.func198, Tryz.ntmps198
      go_wp2_with (go_at_call 215; refine (HA.out _).mono ?_; rintro e w1 ⟨rfl, hb1⟩)
      go_ret
      exact ⟨rfl, by assumption⟩
end
section
open Go.RowKit
def pre (p : UInt8 → Bool) (m : Nat) (l : List UInt8) : List UInt8 := (l.take m).takeWhile p
def rest (p : UInt8 → Bool) (m : Nat) (l : List UInt8) : List UInt8 := l.drop (pre p m l).length
theorem takeWhile_at (p : UInt8 → Bool) : ∀ (l : List UInt8) (k : Nat), k ≤ l.length → (l.take k).all p = true → (∀ h : k < l.length, p l[k] = false) → l.takeWhile p = l.take k
 | [], k, _, _, _ => by simp
 | c :: l, 0, _, _, h => by
  have := h (by simp)
  simp at this
  simp [this]
 | c :: l, k + 1, hk, ha, h => by
  simp only [List.take_succ_cons, List.all_cons, Bool.and_eq_true] at ha
  rw [List.takeWhile_cons, if_pos ha.1, List.take_succ_cons, takeWhile_at p l k (by simpa using hk) ha.2 (fun h' => by have := h (by simpa using h'); simpa using this)]
theorem pre_at {p : UInt8 → Bool} {m k : Nat} {l : List UInt8} (hk : k ≤ l.length) (hm : k ≤ m) (ha : (l.take k).all p = true) (h : k = m ∨ (∀ h : k < l.length, p l[k] = false)) : pre p m l = l.take k := by
  unfold pre
  rw [takeWhile_at p (l.take m) k (by rw [List.length_take]; omega) (by rw [List.take_take, Nat.min_eq_left hm]; exact ha) (fun hx => ?_), List.take_take, Nat.min_eq_left hm]
  rw [List.length_take] at hx
  rcases h with h | h
  · omega
  · rw [List.getElem_take]; exact h (by omega)
theorem rest_at {p : UInt8 → Bool} {m k : Nat} {l : List UInt8} (hk : k ≤ l.length) (h : pre p m l = l.take k) : rest p m l = l.drop k := by
 unfold rest; rw [h, List.length_take, Nat.min_eq_left hk]
theorem pre_all (p : UInt8 → Bool) (m : Nat) (l : List UInt8) : (pre p m l).all p = true := by
 unfold pre; exact List.all_takeWhile
theorem pre_len (p : UInt8 → Bool) (m : Nat) (l : List UInt8) : (pre p m l).length ≤ m := by
 unfold pre
 have := (List.takeWhile_sublist p (l := l.take m)).length_le
 rw [List.length_take] at this; omega
def One (w : World) (b : Nat) (v : Int) : Prop := b < w.heap.size ∧ w.cell? ⟨b, 0, none⟩ = some (.int .i64 v) ∧ w.frozen? ⟨b, 0, none⟩ = false
theorem One.below {w w' : World} {b : Nat} {v : Int} (h : One w b v) (k : Below w.heap.size w w') : One w' b v :=
 ⟨Nat.lt_of_lt_of_le h.1 k.size, by rw [k.cell (p := ⟨b, 0, none⟩) h.1]; exact h.2.1, by rw [k.frozen (p := ⟨b, 0, none⟩) h.1]; exact h.2.2⟩
theorem str_take (s : ByteArray) (k : Nat) : (s.extract 0 k).data.toList = s.data.toList.take k := by simp
theorem str_drop (s : ByteArray) (k : Nat) : (s.extract k s.size).data.toList = s.data.toList.drop k := by
 simp; rw [List.take_of_length_le (by simp)]
theorem str_rest {p : UInt8 → Bool} {m k : Nat} {s : ByteArray} (hk : k ≤ s.data.toList.length) (h : pre p m s.data.toList = s.data.toList.take k) : (⟨(rest p m s.data.toList).toArray⟩ : ByteArray) = s.extract k s.size := by
 apply ByteArray.ext
 apply Array.toList_inj.1
 rw [str_drop, rest_at hk h]
def columnR (l : List UInt8) : Int × Int := if colV (pre letB 3 l) = 0 ∨ rest letB 3 l ≠ [] then (0, 5) else if colB (colV (pre letB 3 l)) then (colV (pre letB 3 l), 0) else (0, 11)
end
end Go.Proofs.YtiaoaifoecmemaaGreatDoor.Pla
