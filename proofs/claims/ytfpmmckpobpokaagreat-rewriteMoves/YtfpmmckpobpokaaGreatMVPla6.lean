/-
  Out of Pt7, PlSt, PtBack, Pt2, Pl3, Pt9, Pt10, Pt11, what is asked for (laid by pack9.py).
-/
import Derived.Test.YtfpmmckpobpokaaGreatMVPla5
import Derived.Lib.AppendIntMem
import Derived.Lib.SmallJoins
import Derived.LoopN
set_option maxRecDepth 100000
set_option maxHeartbeats 4000000
namespace Go.Proofs.YtfpmmckpobpokaaGreat.Pla
section
open Go.RowKit
def sgn (b : Bool) : List UInt8 := if b then [36] else []
def printR (r c : Int) (x y : Bool) : List UInt8 × Int := if placeB r c then (sgn y ++ lettersN c.toNat ++ sgn x ++ Lib.decDigits r.toNat, 0) else ([], 2)
theorem printR_yes {r c : Int} {x y : Bool} (h : placeB r c = true) : printR r c x y = (sgn y ++ lettersN c.toNat ++ sgn x ++ Lib.decDigits r.toNat, 0) := by simp [printR, h]
theorem printR_no {r c : Int} {x y : Bool} (h : placeB r c = false) : printR r c x y = ([], 2) := by simp [printR, h]
theorem ba_app (a b : List UInt8) : (⟨a.toArray⟩ : ByteArray) ++ ⟨b.toArray⟩ = ⟨(a ++ b).toArray⟩ := ByteArray.ext (by simp)
theorem nd_le : ∀ (k u : Nat), u < 10 ^ (k + 1) → Lib.nDigits u ≤ k + 1
 | 0, u, h => by rw [Lib.nDigits_small (by simpa using h)]; omega
 | k + 1, u, h => by
  by_cases a : u < 10
  ·
   rw [Lib.nDigits_small a]; omega
  ·
   rw [Lib.nDigits_big a]
   have := nd_le k (u / 10) (by rw [Nat.div_lt_iff_lt_mul (by decide)]; rw [Nat.pow_succ] at h; exact h)
   omega
theorem dec_len {n : Nat} (h : n ≤ 1048576) : (Lib.decDigits n).length ≤ 7 := by
 rw [Lib.decDigits_length]; exact nd_le 6 n (by omega)
theorem CelS.below {W w' w2 : World} {p : Nat} {r c : Int} {x y : Bool} (h : w'.cell? ⟨p, 0, none⟩ = some (.int .i64 r) ∧ w'.cell? ⟨p, 1, none⟩ = some (.int .i64 c) ∧ w'.cell? ⟨p, 2, none⟩ = some (.bool x) ∧ w'.cell? ⟨p, 3, none⟩ = some (.bool y) ∧ p < w'.heap.size ∧ Below W.heap.size W w') (k : Below w'.heap.size w' w2) :
  w2.cell? ⟨p, 0, none⟩ = some (.int .i64 r) ∧ w2.cell? ⟨p, 1, none⟩ = some (.int .i64 c) ∧ w2.cell? ⟨p, 2, none⟩ = some (.bool x) ∧ w2.cell? ⟨p, 3, none⟩ = some (.bool y) ∧ p < w2.heap.size ∧ Below W.heap.size W w2 := by
 obtain ⟨h0, h1, h2, h3, h4, h5⟩ := h
 exact ⟨by rw [k.cell (p := ⟨p, 0, none⟩) h4]; exact h0, by rw [k.cell (p := ⟨p, 1, none⟩) h4]; exact h1, by rw [k.cell (p := ⟨p, 2, none⟩) h4]; exact h2, by rw [k.cell (p := ⟨p, 3, none⟩) h4]; exact h3, Nat.lt_of_lt_of_le h4 k.size, h5.trans (k.mono h5.size)⟩
theorem CelS.drew {W w' : World} {p : Nat} {r c : Int} {x y : Bool} (h : w'.cell? ⟨p, 0, none⟩ = some (.int .i64 r) ∧ w'.cell? ⟨p, 1, none⟩ = some (.int .i64 c) ∧ w'.cell? ⟨p, 2, none⟩ = some (.bool x) ∧ w'.cell? ⟨p, 3, none⟩ = some (.bool y) ∧ p < w'.heap.size ∧ Below W.heap.size W w') :
  w'.drew.cell? ⟨p, 0, none⟩ = some (.int .i64 r) ∧ w'.drew.cell? ⟨p, 1, none⟩ = some (.int .i64 c) ∧ w'.drew.cell? ⟨p, 2, none⟩ = some (.bool x) ∧ w'.drew.cell? ⟨p, 3, none⟩ = some (.bool y) ∧ p < w'.drew.heap.size ∧ Below W.heap.size W w'.drew := ⟨h.1, h.2.1, h.2.2.1, h.2.2.2.1, h.2.2.2.2.1, h.2.2.2.2.2.drew⟩
theorem CelS.new (w : World) (r c : Int) (x y : Bool) (t : TypeId) : (fun w' : World => w'.cell? ⟨w.heap.size, 0, none⟩ = some (.int .i64 r) ∧ w'.cell? ⟨w.heap.size, 1, none⟩ = some (.int .i64 c) ∧ w'.cell? ⟨w.heap.size, 2, none⟩ = some (.bool x) ∧ w'.cell? ⟨w.heap.size, 3, none⟩ = some (.bool y) ∧ w.heap.size < w'.heap.size ∧ Below w.heap.size w w') (w.alloc (.cells #[.int .i64 r, .int .i64 c, .bool x, .bool y] t)) :=
 ⟨by simp [go_sem], by simp [go_sem], by simp [go_sem], by simp [go_sem], by simp, (Below.refl _ _).alloc (Nat.le_refl _) _⟩
theorem CelS.out {W w' : World} {p : Nat} {r c : Int} {x y : Bool} (h : w'.cell? ⟨p, 0, none⟩ = some (.int .i64 r) ∧ w'.cell? ⟨p, 1, none⟩ = some (.int .i64 c) ∧ w'.cell? ⟨p, 2, none⟩ = some (.bool x) ∧ w'.cell? ⟨p, 3, none⟩ = some (.bool y) ∧ p < w'.heap.size ∧ Below W.heap.size W w') : Below W.heap.size W w' := h.2.2.2.2.2
end
section
open Go.RowKit
def All4 (w : World) : List (Nat × Int × Int × Int × Int) → Prop
 | [] => True
 | x :: l => At4 w x.1 x.2.1 x.2.2.1 x.2.2.2.1 x.2.2.2.2 ∧ All4 w l
def All2 (w : World) : List (Nat × Int × Int) → Prop
 | [] => True
 | x :: l => At2 w x.1 x.2.1 x.2.2 ∧ All2 w l
def AtC (w : World) (b : Nat) (r c : Int) (x y : Bool) : Prop := b < w.heap.size ∧ w.cell? ⟨b, 0, none⟩ = some (.int .i64 r) ∧ w.cell? ⟨b, 1, none⟩ = some (.int .i64 c) ∧ w.cell? ⟨b, 2, none⟩ = some (.bool x) ∧ w.cell? ⟨b, 3, none⟩ = some (.bool y)
def AllC (w : World) : List (Nat × Int × Int × Bool × Bool) → Prop
 | [] => True
 | x :: l => AtC w x.1 x.2.1 x.2.2.1 x.2.2.2.1 x.2.2.2.2 ∧ AllC w l
theorem AtC.below {w w' : World} {b : Nat} {r c : Int} {x y : Bool} (h : AtC w b r c x y) (k : Below w.heap.size w w') : AtC w' b r c x y :=
 ⟨Nat.lt_of_lt_of_le h.1 k.size, by rw [k.cell (p := ⟨b, 0, none⟩) h.1]; exact h.2.1, by rw [k.cell (p := ⟨b, 1, none⟩) h.1]; exact h.2.2.1, by rw [k.cell (p := ⟨b, 2, none⟩) h.1]; exact h.2.2.2.1, by rw [k.cell (p := ⟨b, 3, none⟩) h.1]; exact h.2.2.2.2⟩
theorem AtC.new (w : World) (r c : Int) (x y : Bool) (t : TypeId) : AtC (w.alloc (.cells #[.int .i64 r, .int .i64 c, .bool x, .bool y] t)) w.heap.size r c x y := (Cel.new w r c x y t).1
theorem All4.below {w w' : World} (k : Below w.heap.size w w') : ∀ {l}, All4 w l → All4 w' l
 | [], _ => trivial
 | _ :: _, h => ⟨h.1.below k, All4.below k h.2⟩
theorem All2.below {w w' : World} (k : Below w.heap.size w w') : ∀ {l}, All2 w l → All2 w' l
 | [], _ => trivial
 | _ :: _, h => ⟨h.1.below k, All2.below k h.2⟩
theorem AllC.below {w w' : World} (k : Below w.heap.size w w') : ∀ {l}, AllC w l → AllC w' l
 | [], _ => trivial
 | _ :: _, h => ⟨h.1.below k, AllC.below k h.2⟩
def St (w : World) (a : List (Nat × Int × Int × Int × Int)) (b : List (Nat × Int × Int)) (c : List (Nat × Int × Int × Bool × Bool)) (w' : World) : Prop := All4 w' a ∧ All2 w' b ∧ AllC w' c ∧ Below w.heap.size w w'
theorem St.nil (w : World) : St w [] [] [] w := ⟨trivial, trivial, trivial, Below.refl _ _⟩
theorem St.below {w w' w2 : World} {a : List (Nat × Int × Int × Int × Int)} {b : List (Nat × Int × Int)} {c : List (Nat × Int × Int × Bool × Bool)} (k : Below w'.heap.size w' w2) (h : St w a b c w') : St w a b c w2 :=
 ⟨h.1.below k, h.2.1.below k, h.2.2.1.below k, h.2.2.2.trans (k.mono h.2.2.2.size)⟩
theorem St.alloc {w w' : World} {a : List (Nat × Int × Int × Int × Int)} {b : List (Nat × Int × Int)} {c : List (Nat × Int × Int × Bool × Bool)} (h : St w a b c w') (o : Obj) : St w a b c (w'.alloc o) := St.below ((Below.refl _ _).alloc (Nat.le_refl _) o) h
theorem St.boxC {w w' : World} {a : List (Nat × Int × Int × Int × Int)} {b : List (Nat × Int × Int)} {c : List (Nat × Int × Int × Bool × Bool)} (h : St w a b c w') (r k : Int) (x y : Bool) (t : TypeId) : St w a b ((w'.heap.size, r, k, x, y) :: c) (w'.alloc (.cells #[.int .i64 r, .int .i64 k, .bool x, .bool y] t)) :=
 have g := h.alloc (.cells #[.int .i64 r, .int .i64 k, .bool x, .bool y] t)
 ⟨g.1, g.2.1, ⟨AtC.new w' r k x y t, g.2.2.1⟩, g.2.2.2⟩
theorem St.out {w w' : World} {a : List (Nat × Int × Int × Int × Int)} {b : List (Nat × Int × Int)} {c : List (Nat × Int × Int × Bool × Bool)} (h : St w a b c w') : Below w.heap.size w w' := h.2.2.2
end
section
open Go.RowKit
theorem pre_app {p : UInt8 → Bool} {m : Nat} (A T : List UInt8) (hA : A.all p = true) (hl : A.length ≤ m) (hT : A.length = m ∨ ∀ c, T.head? = some c → p c = false) : pre p m (A ++ T) = A ∧ rest p m (A ++ T) = T := by
 have e : (A ++ T).take A.length = A := by simp
 have h := pre_at (p := p) (m := m) (k := A.length) (l := A ++ T) (by simp) hl (by rw [e]; exact hA) (by
  rcases hT with h | h
  ·
   exact Or.inl h
  ·
   refine Or.inr fun hx => ?_
   have hx' : 0 < T.length := by simp at hx; omega
   rw [List.getElem_append_right (Nat.le_refl _)]
   simp only [Nat.sub_self]
   refine h _ ?_
   rw [List.head?_eq_getElem?, List.getElem?_eq_getElem hx'])
 refine ⟨h.trans e, ?_⟩
 rw [rest_at (by simp) h]; simp
theorem decD_small {n : Nat} (h : n < 10) : Lib.decDigits n = [UInt8.ofNat (48 + n)] := Lib.decDigits_one h
theorem decD_big {n : Nat} (h : ¬ n < 10) : Lib.decDigits n = Lib.decDigits (n / 10) ++ [UInt8.ofNat (48 + n % 10)] := by rw [Lib.decDigits, dif_neg h]
theorem dig_nat {k : Nat} (h : k < 10) : (UInt8.ofNat (48 + k)).toNat = 48 + k := ofNat_nat (by omega)
theorem decV_snoc (l : List UInt8) (c : UInt8) : decV (l ++ [c]) = decV l * 10 + (c.toNat - 48) := by simp [decV]
end
section
open Go.RowKit
def padL (k : Nat) : Nat → List UInt8
 | 0 => []
 | m + 1 => padL (k / 26) m ++ [UInt8.ofNat (65 + k % 26)]
theorem pad_one {n : Nat} (h : 0 < n) (h' : n ≤ 26) : padL (n - 1) 1 = lettersN n := by
 rw [letters_one h h']; simp only [padL, List.nil_append]; rw [show 65 + (n - 1) % 26 = 64 + n by omega]
theorem pad_two {n : Nat} (h : 26 < n) (h' : n ≤ 702) : padL (n - 27) 2 = lettersN n := by
 rw [letters_two h h']; simp only [padL, List.nil_append]; rw [show 65 + (n - 27) % 26 = 65 + (n - 1) % 26 by omega, show 65 + (n - 27) / 26 % 26 = 64 + (n - 1) / 26 by omega]; rfl
theorem pad_three {n : Nat} (h : 702 < n) (h' : n ≤ 16384) : padL (n - 703) 3 = lettersN n := by
 rw [letters_three h h']; simp only [padL, List.nil_append]
 rw [show 65 + (n - 703) % 26 = 65 + (n - 1) % 26 by omega, show 65 + (n - 703) / 26 % 26 = 65 + ((n - 1) / 26 - 1) % 26 by omega, show 65 + (n - 703) / 26 / 26 % 26 = 64 + ((n - 1) / 26 - 1) / 26 by omega]; rfl
theorem one_letter (w : World) (u : Nat) (c : UInt8) (hc : (c.toNat : Int) = 65 + (u : Int) % 26) : (convert 155 9 (.slice (some ⟨w.heap.size, 0, none⟩) 1 1)).run Tryz.prog (w.alloc (.cells #[.int .u8 (65 + (u : Int) % 26)] 5)) = .ok (.string ⟨([c] : List UInt8).toArray⟩) (w.alloc (.cells #[.int .u8 (65 + (u : Int) % 26)] 5)) := by
 have h := run_convert_bytes_back (P := Tryz.prog) (w.alloc (.cells #[.int .u8 (65 + (u : Int) % 26)] 5)) 155 9 5 ⟨w.heap.size, 0, none⟩ 1 [c] Tryz.underlying155 Tryz.underlying5 Tryz.underlying9 (fun j hj => by
  have : j = 0 := by simpa using hj
  subst this
  show (w.alloc (.cells #[.int .u8 (65 + (u : Int) % 26)] 5)).cell? (Addr.add ⟨w.heap.size, 0, none⟩ 0) = some (.int .u8 (c.toNat : Int))
  rw [hc]
  exact World.cell?_alloc_new _ _ _ 0)
 exact h
theorem let_byte (u : Nat) : ((UInt8.ofNat (65 + u % 26)).toNat : Int) = 65 + (u : Int) % 26 := by
 have := ofNat_nat (n := 65 + u % 26) (by omega)
 omega
theorem rletters_any (c : Int) (w : World) :
  Calls Tryz.prog 129 #[.int .i64 c] w fun e w' => e = .returned (.tuple #[.string ⟨(lettersR c).1.toArray⟩, .int .i64 (lettersR c).2]) ∧ Below w.heap.size w w' := by
 by_cases h1 : c < 1
 ·
  rw [lettersR_no (colB_no.2 (by omega))]
  go_enter Tryz.func129, Tryz.ntmps129
  go_wp2
  go_ret2
  exact ⟨rfl, Below.refl _ _⟩
 ·
  by_cases h2 : c > 16384
  ·
   rw [lettersR_no (colB_no.2 (by omega))]
   go_enter Tryz.func129, Tryz.ntmps129
   go_wp2
   go_ret2
   exact ⟨rfl, Below.refl _ _⟩
  ·
   rw [lettersR_yes (colB_iff.2 (by omega))]
   obtain ⟨n, rfl⟩ : ∃ n : Nat, c = n := ⟨c.toNat, by omega⟩
   rw [Int.toNat_natCast]
   rcases (show n ≤ 26 ∨ (26 < n ∧ n ≤ 702) ∨ 702 < n by omega) with a | ⟨a, b⟩ | a
   ·
    have HP := hide (pad_one (n := n) (by omega) a)
    have a1 : (n : Int) - 1 = ((n - 1 : Nat) : Int) := by omega
    go_enter Tryz.func129, Tryz.ntmps129
    go_wp2
    refine wp_loop_rounds 1 ?_
    rw [rounds_succ]
    go_wp2
    go_loopw [4, 7, 8] (fun kv sv iv wr => ∃ (j q : Nat) (t : List UInt8), j ≤ 1 ∧ iv = .int .i64 j ∧ kv = .int .i64 q ∧ q ≤ 16384 ∧ sv = .string ⟨t.toArray⟩ ∧ t.length = j ∧ padL q (1 - j) ++ t = lettersN n ∧ Below w.heap.size w wr) (fun _ _ iv _ => 1 - (intOf iv).toNat)
    case atStart => exact ⟨0, n - 1, [], by omega, rfl, by first | rfl | (congr 1; omega), by omega, rfl, rfl, by rw [List.append_nil]; exact HP.out, Below.refl _ _⟩
    case round =>
     obtain ⟨j, q, t, hj, rfl, rfl, hq, rfl, hl, ht, hb⟩ := hrel
     have HB := hide hb
     have HT := hide ht
     clear hb ht HP a1
     by_cases hlt : j < 1
     ·
      have hlt' : (j : Int) < 1 := by omega
      have hcv := one_letter wr q _ (let_byte q)
      obtain ⟨d, hd⟩ : ∃ d, d = UInt8.ofNat (65 + q % 26) := ⟨_, rfl⟩
      rw [← hd] at hcv
      have HD := hide hd
      clear hd
      go_wp2
      go_roundw
      case rel =>
       refine ⟨j + 1, q / 26, d :: t, by omega, by go_num, by first | rfl | (congr 1; omega), by omega, by rw [str_cons], by simp [hl], ?_, HB.out.alloc HB.out.size _⟩
       have := HT.out
       rw [show 1 - j = (1 - (j + 1)) + 1 by omega] at this
       simp only [padL, List.append_assoc, List.singleton_append] at this
       rw [HD.out]; exact this
      case measure => simp [intOf]; omega
     ·
      have hlt' : ¬ (j : Int) < 1 := by omega
      go_wp2
      go_ret2
      refine ⟨?_, HB.out⟩
      have := HT.out
      rw [show 1 - j = 0 by omega] at this
      simp only [padL, List.nil_append] at this
      rw [this]; rfl
   ·
    have HP := hide (pad_two (n := n) a b)
    have a1 : (n : Int) - 27 = ((n - 27 : Nat) : Int) := by omega
    go_enter Tryz.func129, Tryz.ntmps129
    go_wp2
    refine wp_loop_rounds 2 ?_
    rw [rounds_succ]
    go_wp2
    rw [rounds_succ]
    go_wp2
    go_loopw [4, 7, 8] (fun kv sv iv wr => ∃ (j q : Nat) (t : List UInt8), j ≤ 2 ∧ iv = .int .i64 j ∧ kv = .int .i64 q ∧ q ≤ 16384 ∧ sv = .string ⟨t.toArray⟩ ∧ t.length = j ∧ padL q (2 - j) ++ t = lettersN n ∧ Below w.heap.size w wr) (fun _ _ iv _ => 2 - (intOf iv).toNat)
    case atStart => exact ⟨0, n - 27, [], by omega, rfl, by first | rfl | (congr 1; omega), by omega, rfl, rfl, by rw [List.append_nil]; exact HP.out, Below.refl _ _⟩
    case round =>
     obtain ⟨j, q, t, hj, rfl, rfl, hq, rfl, hl, ht, hb⟩ := hrel
     have HB := hide hb
     have HT := hide ht
     clear hb ht HP a1
     by_cases hlt : j < 2
     ·
      have hlt' : (j : Int) < 2 := by omega
      have hcv := one_letter wr q _ (let_byte q)
      obtain ⟨d, hd⟩ : ∃ d, d = UInt8.ofNat (65 + q % 26) := ⟨_, rfl⟩
      rw [← hd] at hcv
      have HD := hide hd
      clear hd
      go_wp2
      go_roundw
      case rel =>
       refine ⟨j + 1, q / 26, d :: t, by omega, by go_num, by first | rfl | (congr 1; omega), by omega, by rw [str_cons], by simp [hl], ?_, HB.out.alloc HB.out.size _⟩
       have := HT.out
       rw [show 2 - j = (2 - (j + 1)) + 1 by omega] at this
       simp only [padL, List.append_assoc, List.singleton_append] at this
       rw [HD.out]; exact this
      case measure => simp [intOf]; omega
     ·
      have hlt' : ¬ (j : Int) < 2 := by omega
      go_wp2
      go_ret2
      refine ⟨?_, HB.out⟩
      have := HT.out
      rw [show 2 - j = 0 by omega] at this
      simp only [padL, List.nil_append] at this
      rw [this]; rfl
   ·
    have HP := hide (pad_three (n := n) a (by omega))
    have a1 : (n : Int) - 703 = ((n - 703 : Nat) : Int) := by omega
    go_enter Tryz.func129, Tryz.ntmps129
    go_wp2
    refine wp_loop_rounds 3 ?_
    rw [rounds_succ]
    go_wp2
    rw [rounds_succ]
    go_wp2
    rw [rounds_succ]
    go_wp2
    go_loopw [4, 7, 8] (fun kv sv iv wr => ∃ (j q : Nat) (t : List UInt8), j ≤ 3 ∧ iv = .int .i64 j ∧ kv = .int .i64 q ∧ q ≤ 16384 ∧ sv = .string ⟨t.toArray⟩ ∧ t.length = j ∧ padL q (3 - j) ++ t = lettersN n ∧ Below w.heap.size w wr) (fun _ _ iv _ => 3 - (intOf iv).toNat)
    case atStart => exact ⟨0, n - 703, [], by omega, rfl, by first | rfl | (congr 1; omega), by omega, rfl, rfl, by rw [List.append_nil]; exact HP.out, Below.refl _ _⟩
    case round =>
     obtain ⟨j, q, t, hj, rfl, rfl, hq, rfl, hl, ht, hb⟩ := hrel
     have HB := hide hb
     have HT := hide ht
     clear hb ht HP a1
     by_cases hlt : j < 3
     ·
      have hlt' : (j : Int) < 3 := by omega
      have hcv := one_letter wr q _ (let_byte q)
      obtain ⟨d, hd⟩ : ∃ d, d = UInt8.ofNat (65 + q % 26) := ⟨_, rfl⟩
      rw [← hd] at hcv
      have HD := hide hd
      clear hd
      go_wp2
      go_roundw
      case rel =>
       refine ⟨j + 1, q / 26, d :: t, by omega, by go_num, by first | rfl | (congr 1; omega), by omega, by rw [str_cons], by simp [hl], ?_, HB.out.alloc HB.out.size _⟩
       have := HT.out
       rw [show 3 - j = (3 - (j + 1)) + 1 by omega] at this
       simp only [padL, List.append_assoc, List.singleton_append] at this
       rw [HD.out]; exact this
      case measure => simp [intOf]; omega
     ·
      have hlt' : ¬ (j : Int) < 3 := by omega
      go_wp2
      go_ret2
      refine ⟨?_, HB.out⟩
      have := HT.out
      rw [show 3 - j = 0 by omega] at this
      simp only [padL, List.nil_append] at this
      rw [this]; rfl
end
section
open Go.RowKit
theorem rplace_any (r c : Int) (w : World) :
  Calls Tryz.prog 81 #[.agg #[.int .i64 r, .int .i64 c]] w fun e w' => e = .returned (.bool (placeB r c)) ∧ w' = w.alloc (.cells #[.int .i64 r, .int .i64 c] 28) := by
 by_cases a1 : r ≥ 1
 ·
  by_cases a2 : r ≤ 1048576
  ·
   by_cases a3 : c ≥ 1
   ·
    by_cases a4 : c ≤ 16384
    ·
     rw [placeB_iff.2 (by omega)]
     go_enter Tryz.func81, Tryz.ntmps81
     go_wp2
     go_ret
     exact ⟨rfl, rfl⟩
    ·
     rw [placeB_no.2 (by omega)]
     go_enter Tryz.func81, Tryz.ntmps81
     go_wp2
     go_ret
     exact ⟨rfl, rfl⟩
   ·
    rw [placeB_no.2 (by omega)]
    go_enter Tryz.func81, Tryz.ntmps81
    go_wp2
    go_ret
    exact ⟨rfl, rfl⟩
  ·
   rw [placeB_no.2 (by omega)]
   go_enter Tryz.func81, Tryz.ntmps81
   go_wp2
   go_ret
   exact ⟨rfl, rfl⟩
 ·
  rw [placeB_no.2 (by omega)]
  go_enter Tryz.func81, Tryz.ntmps81
  go_wp2
  go_ret
  exact ⟨rfl, rfl⟩
theorem rright_any (t l b r : Int) (w : World) :
  Calls Tryz.prog 119 #[.agg #[.int .i64 t, .int .i64 l, .int .i64 b, .int .i64 r]] w fun e w' => e = .returned (.bool (rightB t l b r)) ∧ Below w.heap.size w w' := by
 unfold rightB
 cases h1 : placeB t l
 ·
  go_enter Tryz.func119, Tryz.ntmps119
  go_wp2_with (go_at_call 81; refine (rplace_any _ _ _).mono ?_; rintro e w' ⟨rfl, rfl⟩)
  go_ret
  refine ⟨rfl, ?_⟩
  exact bl
 ·
  cases h2 : placeB b r
  ·
   go_enter Tryz.func119, Tryz.ntmps119
   go_wp2_with (go_at_call 81; refine (rplace_any _ _ _).mono ?_; rintro e w' ⟨rfl, rfl⟩)
   go_ret
   refine ⟨rfl, ?_⟩
   exact bl
  ·
   by_cases h3 : t ≤ b
   ·
    have e3 : decide (t ≤ b) = true := by simpa using h3
    rw [e3]
    clear e3
    go_enter Tryz.func119, Tryz.ntmps119
    go_wp2_with (go_at_call 81; refine (rplace_any _ _ _).mono ?_; rintro e w' ⟨rfl, rfl⟩)
    go_ret
    refine ⟨rfl, ?_⟩
    exact bl
   ·
    have e3 : decide (t ≤ b) = false := by simpa using h3
    rw [e3]
    clear e3
    go_enter Tryz.func119, Tryz.ntmps119
    go_wp2_with (go_at_call 81; refine (rplace_any _ _ _).mono ?_; rintro e w' ⟨rfl, rfl⟩)
    go_ret
    refine ⟨rfl, ?_⟩
    exact bl
theorem rof_any (a b c d : Int) (w : World) :
  Calls Tryz.prog 96 #[.agg #[.int .i64 a, .int .i64 b], .agg #[.int .i64 c, .int .i64 d]] w fun e w' => e = .returned (.tuple #[.agg #[.int .i64 (ofR a b c d).1, .int .i64 (ofR a b c d).2.1, .int .i64 (ofR a b c d).2.2.1, .int .i64 (ofR a b c d).2.2.2.1], .int .i64 (ofR a b c d).2.2.2.2]) ∧ Below w.heap.size w w' := by
 unfold ofR
 cases h1 : placeB a b
 ·
  go_enter Tryz.func96, Tryz.ntmps96
  go_wp2_with (go_at_call 81; refine (rplace_any _ _ _).mono ?_; rintro e w' ⟨rfl, rfl⟩)
  refine bodyPost_ret (v := .tuple #[.agg #[.int .i64 0, .int .i64 0, .int .i64 0, .int .i64 0], .int .i64 2]) (by simp [results, Tryz.results96, go_sem]) rfl ⟨rfl, ?_⟩
  exact bl
 ·
  cases h2 : placeB c d
  ·
   go_enter Tryz.func96, Tryz.ntmps96
   go_wp2_with (go_at_call 81; refine (rplace_any _ _ _).mono ?_; rintro e w' ⟨rfl, rfl⟩)
   refine bodyPost_ret (v := .tuple #[.agg #[.int .i64 0, .int .i64 0, .int .i64 0, .int .i64 0], .int .i64 2]) (by simp [results, Tryz.results96, go_sem]) rfl ⟨rfl, ?_⟩
   exact bl
  ·
   go_enter Tryz.func96, Tryz.ntmps96
   go_wp2_with (go_at_call 81; refine (rplace_any _ _ _).mono ?_; rintro e w' ⟨rfl, rfl⟩)
   refine bodyPost_ret (v := .tuple #[.agg #[.int .i64 (min a c), .int .i64 (min b d), .int .i64 (max a c), .int .i64 (max b d)], .int .i64 0]) (by simp [results, Tryz.results96, go_sem]) rfl ⟨rfl, ?_⟩
   exact bl
end
section
open Go.RowKit
def letN (c : UInt8) : Nat := if letB c then letV c else 0
theorem letN_yes {c : UInt8} (h : letB c = true) : letN c = letV c := by simp [letN, h]
theorem letN_no {c : UInt8} (h : letB c = false) : letN c = 0 := by simp [letN, h]
theorem rletter_any (c : UInt8) (w : World) : Calls Tryz.prog 143 #[.int .u8 (c.toNat : Int)] w fun e w' => e = .returned (.int .i64 (letN c)) ∧ w' = w := by
 have hu : c.toNat < 256 := UInt8.toNat_lt _
 by_cases a1 : (c.toNat : Int) ≥ 65
 ·
  by_cases a2 : (c.toNat : Int) ≤ 90
  ·
   rw [letN_yes (letB_iff.2 (by omega)), show (letV c : Int) = c.toNat - 65 + 1 by unfold letV; split <;> omega]
   go_enter Tryz.func143, Tryz.ntmps143
   go_wp2
   go_ret
   exact ⟨rfl, rfl⟩
  ·
   by_cases a3 : (c.toNat : Int) ≥ 97
   ·
    by_cases a4 : (c.toNat : Int) ≤ 122
    ·
     rw [letN_yes (letB_iff.2 (by omega)), show (letV c : Int) = c.toNat - 97 + 1 by unfold letV; split <;> omega]
     go_enter Tryz.func143, Tryz.ntmps143
     go_wp2
     go_ret
     exact ⟨rfl, rfl⟩
    ·
     rw [letN_no (letB_no.2 (by omega))]
     go_enter Tryz.func143, Tryz.ntmps143
     go_wp2
     go_ret
     exact ⟨rfl, rfl⟩
   ·
    rw [letN_no (letB_no.2 (by omega))]
    go_enter Tryz.func143, Tryz.ntmps143
    go_wp2
    go_ret
    exact ⟨rfl, rfl⟩
 ·
  rw [letN_no (letB_no.2 (by omega))]
  have a3 : ¬ (c.toNat : Int) ≥ 97 := by omega
  go_enter Tryz.func143, Tryz.ntmps143
  go_wp2
  go_ret
  exact ⟨rfl, rfl⟩
theorem columnR_len {l : List UInt8} (h : l.length = 0 ∨ 3 < l.length) : columnR l = (0, 5) := by
 unfold columnR
 rcases h with h | h
 ·
  have : l = [] := List.eq_nil_of_length_eq_zero h
  subst this
  decide
 ·
  rw [if_pos (Or.inr ?_)]
  have := pre_len letB 3 l
  unfold rest
  intro e
  have := congrArg List.length e
  simp at this; omega
theorem columnR_bad {l : List UInt8} {k : Nat} (hk : k < l.length) (h : letB l[k] = false) : columnR l = (0, 5) := by
 unfold columnR
 rw [if_pos (Or.inr ?_)]
 intro e
 have e1 : (pre letB 3 l).length = l.length := by
  have := congrArg List.length e
  have h2 : (pre letB 3 l).length ≤ l.length := by
   unfold pre
   have := (List.takeWhile_sublist letB (l := l.take 3)).length_le
   rw [List.length_take] at this; omega
  unfold rest at this
  simp at this; omega
 have e2 : pre letB 3 l = l := by
  unfold pre at *
  exact ((List.takeWhile_sublist letB).trans (List.take_sublist 3 l)).eq_of_length e1
 have := pre_all letB 3 l
 rw [e2, List.all_eq_true] at this
 rw [this _ (List.getElem_mem hk)] at h
 cases h
theorem columnR_good {l : List UInt8} (h0 : l ≠ []) (h3 : l.length ≤ 3) (ha : l.all letB = true) : columnR l = if colV l > 16384 then (0, 11) else ((colV l : Int), 0) := by
 have e2 : pre letB 3 l = l := by
  rw [pre_at (k := l.length) (Nat.le_refl _) h3 (by rw [List.take_length]; exact ha) (Or.inr fun h => by omega), List.take_length]
 have e3 : rest letB 3 l = [] := by unfold rest; rw [e2]; simp
 have e4 := col_pos h0 ha
 unfold columnR
 rw [e2, e3, if_neg (by simp; omega)]
 by_cases h : colV l > 16384
 ·
  rw [if_pos h, colB_no.2 (by omega)]; rfl
 ·
  rw [if_neg h, colB_iff.2 (by omega)]; rfl
theorem rcolumn_any (s : ByteArray) (w : World) (hs : s.size ≤ maxLen) :
  Calls Tryz.prog 144 #[.string s] w fun e w' => e = .returned (.tuple #[.int .i64 (columnR s.data.toList).1, .int .i64 (columnR s.data.toList).2]) ∧ w' = w := by
 unfold maxLen at hs
 have hl : s.data.toList.length = s.size := by simp
 by_cases h0 : s.size = 0
 ·
  rw [columnR_len (l := s.data.toList) (Or.inl (by omega))]
  have e0 : ((s.size : Int) == 0) = true := by rw [h0]; rfl
  go_enter Tryz.func144, Tryz.ntmps144
  go_wp2
  go_ret2
  exact ⟨rfl, rfl⟩
 ·
  have e0 : ((s.size : Int) == 0) = false := by rw [beq_eq_false_iff_ne]; omega
  by_cases h3 : (s.size : Int) > 3
  ·
   rw [columnR_len (l := s.data.toList) (Or.inr (by omega))]
   go_enter Tryz.func144, Tryz.ntmps144
   go_wp2
   go_ret2
   exact ⟨rfl, rfl⟩
  ·
   have HL := hide hl
   clear hl
   go_enter Tryz.func144, Tryz.ntmps144
   go_wp2
   go_loop [4, 5] (fun nv iv => ∃ k : Nat, k ≤ s.size ∧ iv = .int .i64 k ∧ nv = .int .i64 (colV (s.data.toList.take k)) ∧ (s.data.toList.take k).all letB = true) (fun _ iv => s.size - (intOf iv).toNat)
   case atStart => exact ⟨0, Nat.zero_le _, rfl, rfl, by simp⟩
   case round =>
    obtain ⟨k, hk, rfl, rfl, ha⟩ := hrel
    have HA := hide ha
    clear ha
    have hcb := col_bd (s.data.toList.take k) HA.out (by have := HL.out; rw [List.length_take]; omega)
    by_cases hlt : k < s.size
    ·
     have hlt' : (k : Int) < (s.size : Int) := by omega
     have hkl : k < s.data.toList.length := by have := HL.out; omega
     have eb : s[k] = s.data.toList[k]'hkl := by rw [ByteArray.getElem_eq_getElem_data, Array.getElem_toList]
     have HS := hide (col_take hkl)
     have HTk := hide (List.take_succ_eq_append_getElem (l := s.data.toList) (i := k) hkl)
     cases hp : letB s[k]
     ·
      have HN := hide (columnR_bad hkl (by rw [← eb]; exact hp))
      have hz := letN_no hp
      have hzi : ((letN s[k] : Int) == 0) = true := by rw [hz]; rfl
      clear eb
      go_wp2_with (go_at_call 143; refine (rletter_any _ _).mono ?_; rintro e wz ⟨rfl, hwz⟩; subst wz)
      go_ret2
      exact ⟨by rw [HN.out]; rfl, rfl⟩
     ·
      have hv := letV_bd hp
      have hz := letN_yes hp
      rw [← eb] at HS HTk
      have hzi : ((letN s[k] : Int) == 0) = false := by rw [hz]; simp; omega
      have HP := hide hp
      have HZ := hide hz
      clear eb hp hz
      rw [← HZ.out] at hv HS
      generalize hN : letN s[k] = N at *
      have HRL : Hid (∀ W : World, Calls Tryz.prog 143 #[.int .u8 (s[k].toNat : Int)] W fun e w' => e = .returned (.int .i64 N) ∧ w' = W) := fun W => by have := rletter_any s[k] W; rw [hN] at this; exact this
      clear hN
      generalize colV (s.data.toList.take k) = C at *
      go_wp2_with (go_at_call 143; refine (HRL.out _).mono ?_; rintro e wz ⟨rfl, hwz⟩; subst wz)
      go_round
      case rel =>
       refine ⟨k + 1, by omega, by go_num, ?_, ?_⟩
       ·
        rw [HS.out]; first | go_num | (congr 1; omega)
       ·
        rw [HTk.out, List.all_append, HA.out]; simp [HP.out]
      case measure => simp [intOf]; omega
    ·
     have hlt' : ¬ (k : Int) < (s.size : Int) := by omega
     have hkk : s.data.toList.take k = s.data.toList := List.take_of_length_le (by have := HL.out; omega)
     have HG := hide (columnR_good (l := s.data.toList) (by intro e; have := HL.out; rw [e] at this; simp at this; omega) (by have := HL.out; omega) (by rw [← hkk]; exact HA.out))
     rw [hkk] at hcb
     have HK := hide hkk
     clear hkk
     by_cases h4 : (colV s.data.toList : Int) > 16384
     ·
      rw [HK.out]
      go_wp2
      go_ret2
      exact ⟨by rw [HG.out, if_pos (by omega)]; rfl, rfl⟩
     ·
      rw [HK.out]
      go_wp2
      go_ret2
      exact ⟨by rw [HG.out, if_neg (by omega)]; rfl, rfl⟩
end
section
open Go.RowKit
theorem one_digit (w : World) (u : Nat) (c : UInt8) (hc : (c.toNat : Int) = 48 + (u : Int) % 10) : (convert 155 9 (.slice (some ⟨w.heap.size, 0, none⟩) 1 1)).run Tryz.prog (w.alloc (.cells #[.int .u8 (48 + (u : Int) % 10)] 5)) = .ok (.string ⟨([c] : List UInt8).toArray⟩) (w.alloc (.cells #[.int .u8 (48 + (u : Int) % 10)] 5)) := by
 have h := run_convert_bytes_back (P := Tryz.prog) (w.alloc (.cells #[.int .u8 (48 + (u : Int) % 10)] 5)) 155 9 5 ⟨w.heap.size, 0, none⟩ 1 [c] Tryz.underlying155 Tryz.underlying5 Tryz.underlying9 (fun j hj => by
  have : j = 0 := by simpa using hj
  subst this
  show (w.alloc (.cells #[.int .u8 (48 + (u : Int) % 10)] 5)).cell? (Addr.add ⟨w.heap.size, 0, none⟩ 0) = some (.int .u8 (c.toNat : Int))
  rw [hc]
  exact World.cell?_alloc_new _ _ _ 0)
 exact h
theorem dig_byte (u : Nat) : ((UInt8.ofNat (48 + u % 10)).toNat : Int) = 48 + (u : Int) % 10 := by
 have := dig_nat (k := u % 10) (by omega)
 omega
theorem rdigits_ind : ∀ (k : Nat) (u : Nat) (w : World), u ≤ k → u ≤ 1048576 →
  Calls Tryz.prog 130 #[.int .i64 u] w fun e w' => e = .returned (.string ⟨(Lib.decDigits u).toArray⟩) ∧ Below w.heap.size w w' := by
 intro k
 induction k with
 | zero =>
  intro u w hk hu
  have h : u < 10 := by omega
  have hcv := one_digit w u _ (dig_byte u)
  have HE : Hid (Lib.decDigits u = [UInt8.ofNat (48 + u % 10)]) := by
   show Lib.decDigits u = _
   rw [decD_small h, Nat.mod_eq_of_lt h]
  generalize UInt8.ofNat (48 + u % 10) = c at *
  go_enter Tryz.func130, Tryz.ntmps130
  go_wp2
  go_ret
  exact ⟨by rw [HE.out]; rfl, (Below.refl _ _).alloc (Nat.le_refl _) _⟩
 | succ k ih =>
  intro u w hk hu
  have IH := hide ih
  clear ih
  have hcv := one_digit w u _ (dig_byte u)
  by_cases h : u < 10
  ·
   have HE : Hid (Lib.decDigits u = [UInt8.ofNat (48 + u % 10)]) := by
    show Lib.decDigits u = _
    rw [decD_small h, Nat.mod_eq_of_lt h]
   generalize UInt8.ofNat (48 + u % 10) = c at *
   go_enter Tryz.func130, Tryz.ntmps130
   go_wp2
   go_ret
   exact ⟨by rw [HE.out]; rfl, (Below.refl _ _).alloc (Nat.le_refl _) _⟩
  ·
   have HE : Hid (Lib.decDigits u = Lib.decDigits (u / 10) ++ [UInt8.ofNat (48 + u % 10)]) := decD_big h
   have HI : Hid (∀ W : World, Calls Tryz.prog 130 #[.int .i64 ((u : Int) / 10)] W fun e w' => e = .returned (.string ⟨(Lib.decDigits (u / 10)).toArray⟩) ∧ Below W.heap.size W w') := fun W => by
    have := IH.out (u / 10) W (by omega) (by omega)
    rw [show ((u / 10 : Nat) : Int) = (u : Int) / 10 from by omega] at this
    exact this
   have hl := dec_len (n := u / 10) (by omega)
   clear IH
   generalize UInt8.ofNat (48 + u % 10) = c at *
   generalize Lib.decDigits (u / 10) = D at *
   go_enter Tryz.func130, Tryz.ntmps130
   go_wp2_with (go_at_call 130; refine (HI.out _).mono ?_; rintro e w1 ⟨rfl, b1⟩)
   go_ret
   refine ⟨by rw [HE.out, ← ba_app]; rfl, ?_⟩
   exact ((Below.refl _ _).alloc (Nat.le_refl _) _).trans (b1.mono (by simp))
theorem rprint_any (r c : Int) (x y : Bool) (w : World) :
  Calls Tryz.prog 109 #[.agg #[.int .i64 r, .int .i64 c, .bool x, .bool y]] w fun e w' => e = .returned (.tuple #[.string ⟨(printR r c x y).1.toArray⟩, .int .i64 (printR r c x y).2]) ∧ Below w.heap.size w w' := by
 have HP : Hid (∀ W : World, Calls Tryz.prog 81 #[.agg #[.int .i64 r, .int .i64 c]] W fun e w' => e = .returned (.bool (placeB r c)) ∧ w' = W.alloc (.cells #[.int .i64 r, .int .i64 c] 28)) := fun W => rplace_any r c W
 cases h : placeB r c
 ·
  rw [printR_no h]
  rw [h] at HP
  clear h
  go_enter Tryz.func109, Tryz.ntmps109
  go_wp2_with (go_at_call 81; refine (HP.out _).mono ?_; rintro e w' ⟨rfl, rfl⟩)
  go_ret2
  refine ⟨rfl, ?_⟩
  exact bl
 ·
  rw [printR_yes h]
  rw [h] at HP
  obtain ⟨h1, h2, h3, h4⟩ := placeB_iff.1 h
  clear h
  obtain ⟨n, rfl⟩ : ∃ n : Nat, r = n := ⟨r.toNat, by omega⟩
  obtain ⟨m, rfl⟩ : ∃ m : Nat, c = m := ⟨c.toNat, by omega⟩
  rw [Int.toNat_natCast, Int.toNat_natCast]
  have HL : Hid (∀ W : World, Calls Tryz.prog 129 #[.int .i64 m] W fun e w' => e = .returned (.tuple #[.string ⟨(lettersN m).toArray⟩, .int .i64 0]) ∧ Below W.heap.size W w') := fun W => by
   have := rletters_any m W
   rw [lettersR_yes (colB_iff.2 ⟨h3, h4⟩), Int.toNat_natCast] at this
   exact this
  have HI : Hid (∀ W : World, Calls Tryz.prog 130 #[.int .i64 n] W fun e w' => e = .returned (.string ⟨(Lib.decDigits n).toArray⟩) ∧ Below W.heap.size W w') := fun W => rdigits_ind n n W (Nat.le_refl _) (by omega)
  have s3 := (letters_len (n := m) (by omega) (by omega)).2
  have s4 := dec_len (n := n) (by omega)
  generalize lettersN m = L at *
  generalize Lib.decDigits n = D at *
  have H0 : Hid (St w [] [] [(w.heap.size, (n : Int), (m : Int), x, y)] ((w.alloc (.cells #[.int .i64 n, .int .i64 m, .bool x, .bool y] 30)).alloc (.cells #[.int .i64 n, .int .i64 m] 28))) := ((St.nil w).boxC n m x y 30).alloc _
  clear h1 h2 h3 h4
  cases x <;> cases y
  all_goals
   go_enter Tryz.func109, Tryz.ntmps109
   go_wp2_with (first | (go_at_call 81; refine (HP.out _).mono ?_; rintro e w' ⟨rfl, rfl⟩) | (go_at_call 129; refine (HL.out _).mono ?_; rintro e w1 ⟨rfl, hb⟩; have hs := St.below hb H0.out; have ⟨_, _, ⟨⟨z, k0, k1, k2, k3⟩, _⟩, _⟩ := hs) | (go_at_call 130; refine (HI.out _).mono ?_; rintro e w2 ⟨rfl, hb⟩; have hs := St.below hb (by assumption)))
   go_ret2
   refine ⟨?_, St.out (by assumption)⟩
   simp [sgn]
   apply ByteArray.ext
   simp
theorem str_back (s : ByteArray) : (⟨s.data.toList.toArray⟩ : ByteArray) = s := by cases s; simp
theorem fix_yes (t : List UInt8) : pre fixB 1 (36 :: t) = [36] ∧ rest fixB 1 (36 :: t) = t := pre_app [36] t (by decide) (by decide) (Or.inl rfl)
theorem fix_no {l : List UInt8} (h : ∀ c, l.head? = some c → c.toNat ≠ 36) : pre fixB 1 l = [] ∧ rest fixB 1 l = l := pre_app [] l (by decide) (by decide) (Or.inr (fun c hc => by unfold fixB; simp; exact h c hc))
theorem rdollar_any (s : ByteArray) (w : World) (hs : s.size ≤ maxLen) :
  Calls Tryz.prog 142 #[.string s] w fun e w' => e = .returned (.tuple #[.string ⟨(rest fixB 1 s.data.toList).toArray⟩, .bool (nonB (pre fixB 1 s.data.toList))]) ∧ w' = w := by
 unfold maxLen at hs
 have hl : s.data.toList.length = s.size := by simp
 by_cases h0 : (s.size : Int) > 0
 ·
  have hpos : 0 < s.size := by omega
  have e0 : s[0] = s.data.toList[0]'(by omega) := by rw [ByteArray.getElem_eq_getElem_data, Array.getElem_toList]
  have hd : s.data.toList = s[0] :: s.data.toList.drop 1 := by
   rw [e0]
   conv => lhs; rw [← List.drop_zero (l := s.data.toList), List.drop_eq_getElem_cons (by omega)]
  by_cases h1 : s[0].toNat = 36
  ·
   have hc : s[0] = 36 := UInt8.toNat_inj.1 h1
   have HE : Hid (nonB (pre fixB 1 s.data.toList) = true ∧ rest fixB 1 s.data.toList = s.data.toList.drop 1) := by
    have := fix_yes (s.data.toList.drop 1)
    rw [← hc, ← hd] at this
    exact ⟨by rw [this.1]; rfl, this.2⟩
   have e1 : ((s[0].toNat : Int) == 36) = true := by rw [h1]; rfl
   clear hc hd e0
   go_enter Tryz.func142, Tryz.ntmps142
   go_wp2
   go_ret2
   refine ⟨?_, rfl⟩
   rw [HE.out.1, HE.out.2, ← str_drop, str_back]
   rfl
  ·
   have HE : Hid (nonB (pre fixB 1 s.data.toList) = false ∧ rest fixB 1 s.data.toList = s.data.toList) := by
    have := fix_no (l := s.data.toList) (by intro c hc; rw [hd] at hc; simp at hc; rw [← hc]; exact h1)
    exact ⟨by rw [this.1]; rfl, this.2⟩
   have e1 : ((s[0].toNat : Int) == 36) = false := by rw [beq_eq_false_iff_ne]; omega
   clear hd e0
   go_enter Tryz.func142, Tryz.ntmps142
   go_wp2
   go_ret2
   refine ⟨?_, rfl⟩
   rw [HE.out.1, HE.out.2, str_back]
   rfl
 ·
  have HE : Hid (nonB (pre fixB 1 s.data.toList) = false ∧ rest fixB 1 s.data.toList = s.data.toList) := by
   have hn : s.data.toList = [] := List.eq_nil_of_length_eq_zero (by omega)
   rw [hn]; exact ⟨rfl, rfl⟩
  go_enter Tryz.func142, Tryz.ntmps142
  go_wp2
  go_ret2
  refine ⟨?_, rfl⟩
  rw [HE.out.1, HE.out.2, str_back]
  rfl
end
section
open Go.RowKit
theorem syn_col {l : List UInt8} (h : pCol l = 0) : parseR l = (0, 0, false, false, 5) := by unfold parseR; rw [if_pos (Or.inl h)]
theorem syn_row {l : List UInt8} (h : pRow l = 0) : parseR l = (0, 0, false, false, 5) := by unfold parseR; rw [if_pos (Or.inr (Or.inl h))]
theorem syn_rest {l : List UInt8} (h : p4 l ≠ []) : parseR l = (0, 0, false, false, 5) := by unfold parseR; rw [if_pos (Or.inr (Or.inr h))]
theorem none_let {l : List UInt8} (h : ∀ h : 0 < (p1 l).length, letB (p1 l)[0] = false) : parseR l = (0, 0, false, false, 5) := by
 apply syn_col
 have := pre_at (p := letB) (m := 3) (k := 0) (l := p1 l) (Nat.zero_le _) (by decide) (by simp) (Or.inr h)
 unfold pCol; rw [this]; rfl
theorem four_let {l : List UInt8} {k : Nat} (hk : k ≤ (p1 l).length) (h3 : 3 < k) (ha : ((p1 l).take k).all letB = true) : parseR l = (0, 0, false, false, 5) := by
 apply syn_row
 have h0 := pre_at (p := letB) (m := 3) (k := 3) (l := p1 l) (by omega) (by decide) (by
  have := all_take 3 ha
  rw [List.take_take, Nat.min_eq_left (by omega)] at this
  exact this) (Or.inl rfl)
 have e2 : p2 l = (p1 l).drop 3 := rest_at (by omega) h0
 have hh : letB ((p1 l)[3]'(by omega)) = true := by
  rw [List.all_eq_true] at ha
  refine ha _ ?_
  rw [List.mem_take_iff_getElem]
  exact ⟨3, by omega, rfl⟩
 have e3 : p2 l = (p1 l)[3]'(by omega) :: (p1 l).drop 4 := by rw [e2, List.drop_eq_getElem_cons (by omega)]
 have hl := letB_iff.1 hh
 clear hh e2
 generalize (p1 l)[3]'(by omega) = q at *
 have e4 : p3 l = p2 l := by
  have := fix_no (l := p2 l) (by rw [e3]; intro c hc; rw [List.head?_cons] at hc; rw [← Option.some.inj hc]; omega)
  exact this.2
 have e5 := pre_app (p := digB) (m := 7) [] (p3 l) (by simp) (by decide) (Or.inr (by rw [e4, e3]; intro c hc; rw [List.head?_cons] at hc; rw [← Option.some.inj hc, digB_no]; omega))
 unfold pRow
 rw [List.nil_append] at e5
 rw [e5.1]; rfl
theorem some_let {l : List UInt8} {k : Nat} (hk : k ≤ (p1 l).length) (h3 : k ≤ 3) (ha : ((p1 l).take k).all letB = true) (hn : ∀ h : k < (p1 l).length, letB (p1 l)[k] = false) : pCol l = colV ((p1 l).take k) ∧ p2 l = (p1 l).drop k := by
 have h0 := pre_at (p := letB) (m := 3) (k := k) (l := p1 l) hk h3 ha (Or.inr hn)
 exact ⟨by unfold pCol; rw [h0], rest_at hk h0⟩
theorem bad_len {l : List UInt8} (h : (p3 l).length = 0 ∨ 7 < (p3 l).length) : parseR l = (0, 0, false, false, 5) := by
 rcases h with h | h
 ·
  apply syn_row
  unfold pRow
  rw [List.eq_nil_of_length_eq_zero h]; rfl
 ·
  apply syn_rest
  intro e
  have h1 := congrArg List.length e
  have h2 := pre_len digB 7 (p3 l)
  unfold p4 rest at h1
  simp at h1; omega
theorem bad_nought {l : List UInt8} (h0 : 0 < (p3 l).length) (h : (p3 l)[0].toNat = 48) : parseR l = (0, 0, false, false, 5) := by
 apply syn_row
 have e : p3 l = (p3 l)[0] :: (p3 l).drop 1 := by
  conv => lhs; rw [← List.drop_zero (l := p3 l), List.drop_eq_getElem_cons h0]
 have hc : (p3 l)[0] = 48 := UInt8.toNat_inj.1 h
 rw [hc] at e
 unfold pRow
 rw [e]
 show rowV ((48 :: ((p3 l).drop 1).take 6).takeWhile digB) = 0
 rw [List.takeWhile_cons, if_pos (by decide)]
 exact rowV_zero _
theorem bad_digit {l : List UInt8} {k : Nat} (hk : k < (p3 l).length) (h : digB (p3 l)[k] = false) : parseR l = (0, 0, false, false, 5) := by
 apply syn_rest
 intro e
 have e1 : (pre digB 7 (p3 l)).length = (p3 l).length := by
  have := congrArg List.length e
  have h2 : (pre digB 7 (p3 l)).length ≤ (p3 l).length := by
   unfold pre
   have := (List.takeWhile_sublist digB (l := (p3 l).take 7)).length_le
   rw [List.length_take] at this; omega
  unfold p4 rest at this
  simp at this; omega
 have e2 : pre digB 7 (p3 l) = p3 l := by
  unfold pre at *
  exact ((List.takeWhile_sublist digB).trans (List.take_sublist 7 (p3 l))).eq_of_length e1
 have := pre_all digB 7 (p3 l)
 rw [e2, List.all_eq_true] at this
 rw [this _ (List.getElem_mem hk)] at h
 cases h
theorem dec_pos {l : List UInt8} (h0 : 0 < l.length) (hn : l[0].toNat ≠ 48) (ha : l.all digB = true) : 1 ≤ decV l := by
 have e : l = l[0] :: l.drop 1 := by
  conv => lhs; rw [← List.drop_zero (l := l), List.drop_eq_getElem_cons h0]
 have hd := digB_iff.1 (List.all_eq_true.1 ha _ (List.getElem_mem h0))
 have : ∀ (t : List UInt8) (acc : Nat), acc ≤ t.foldl (fun n c => n * 10 + (c.toNat - 48)) acc := by
  intro t
  induction t with
  | nil => intro acc; exact Nat.le_refl _
  | cons c t ih => intro acc; exact Nat.le_trans (show acc ≤ acc * 10 + (c.toNat - 48) by omega) (ih _)
 have h1 := this (l.drop 1) (0 * 10 + (l[0].toNat - 48))
 rw [e]
 unfold decV
 rw [List.foldl_cons]
 omega
theorem good_digits {l : List UInt8} (h0 : 0 < (p3 l).length) (h7 : (p3 l).length ≤ 7) (hn : (p3 l)[0].toNat ≠ 48) (ha : (p3 l).all digB = true) (hc : pCol l ≠ 0) :
  parseR l = if placeB (decV (p3 l)) (pCol l) then ((decV (p3 l) : Int), (pCol l : Int), pFixR l, pFixC l, 0) else (0, 0, false, false, 11) := by
 have k := pre_app (p := digB) (m := 7) (p3 l) [] ha h7 (Or.inr (by simp))
 rw [List.append_nil] at k
 have e : p3 l = (p3 l)[0] :: (p3 l).drop 1 := by
  conv => lhs; rw [← List.drop_zero (l := p3 l), List.drop_eq_getElem_cons h0]
 have er : pRow l = decV (p3 l) := by
  unfold pRow
  rw [k.1, e, rowV_dec (fun x => hn (by rw [x]; rfl))]
 have e4 : p4 l = [] := k.2
 have hpos : pRow l ≠ 0 := by rw [er]; have := dec_pos h0 hn ha; omega
 unfold parseR
 rw [e4, if_neg (by simp [hc, hpos]), er]
theorem dec_take {l : List UInt8} {k : Nat} (hk : k < l.length) : decV (l.take (k + 1)) = decV (l.take k) * 10 + (l[k].toNat - 48) := by
 rw [List.take_succ_eq_append_getElem hk, decV_snoc]
theorem dec_bd (l : List UInt8) (ha : l.all digB = true) : decV l < 10 ^ l.length := by
 have h := dec_from l 0 ha
 have := Lib.decFrom_lt l 0 _ h
 unfold decV; omega
end
end Go.Proofs.YtfpmmckpobpokaaGreat.Pla
