/-
  The contracts of two sums over a node: the answer's long, and the statements' lost.
-/
import Derived.Test.YtfpmmckpobpokaaGreatMZ9
set_option maxRecDepth 100000
set_option maxHeartbeats 4000000
namespace Go.Proofs.YtfpmmckpobpokaaGreat
open Go.RowKit
def long1 (h : Hd) : Nat := 1 + h.vs.length + h.txt.length
def longF : Fo → Nat
 | .nil => 0
 | .cons h k r => long1 h + longF k + longF r
def LongC (h : Hd) (k : Fo) : Prop :=
 ∀ (D : Nat → Prop) (v : Value) (w : World), long1 h + longF k ≤ 1024 → (∀ c, D c → c < w.heap.size) → Kv w D v k →
  Calls Tryz.prog 87 #[.agg (hdC h v).toArray] w fun e w' => e = .returned (.int .i64 ((long1 h + longF k : Nat) : Int)) ∧ Below w.heap.size w w'
def LongA : Fo → Prop
 | .nil => True
 | .cons h k r => LongC h k ∧ LongA r
theorem long_step (h : Hd) (k : Fo) (hA : LongA k) : LongC h k := by
 intro D v w hm hD hk
 obtain ⟨a, n, cap, rfl, hn, hk⟩ := hk
 subst hn
 have p3 := (Box.new w (hdC h (.slice a k.len cap))).cell 3 (.string ⟨h.vs.toArray⟩) rfl
 have p14 := (Box.new w (hdC h (.slice a k.len cap))).cell 14 (.string ⟨h.txt.toArray⟩) rfl
 have p15 := (Box.new w (hdC h (.slice a k.len cap))).cell 15 (.slice a k.len cap) rfl
 have HK1 := hide hk
 have HA := hide hA
 have HB0 := hide ((Below.refl w.heap.size w).alloc (Nat.le_refl _) (.cells (hdC h (.slice a k.len cap)).toArray 33))
 have hl1 : long1 h = 1 + h.vs.length + h.txt.length := rfl
 have hw1 : IntKind.i64.wrap (1 + (h.vs.length : Int)) = ((1 + h.vs.length : Nat) : Int) := by rw [wrap_le (by omega) (by omega)]; omega
 have hw2 : IntKind.i64.wrap (((1 + h.vs.length : Nat) : Int) + (h.txt.length : Int)) = ((long1 h : Nat) : Int) := by rw [wrap_le (by omega) (by omega)]; omega
 have hs1 : (ByteArray.mk h.vs.toArray).size = h.vs.length := by simp [ByteArray.size]
 have hs2 : (ByteArray.mk h.txt.toArray).size = h.txt.length := by simp [ByteArray.size]
 clear hk hA
 generalize long1 h = l1 at *
 have HM := hide hm
 go_enter Tryz.func87, Tryz.ntmps87
 go_wp2
 go_loopw [3, 4] (fun us ui wr => ∃ (i s : Nat) (F : Fo), us = .int .i64 (s : Int) ∧ ui = .int .i64 (i : Int) ∧ i + F.len = k.len ∧ (F = .nil ∨ ∃ b' o', a = some ⟨b', o', none⟩ ∧ k.len ≤ cap ∧ cap ≤ maxLen ∧ Row w D F b' (o' + i * 16)) ∧ LongA F ∧ Below w.heap.size w wr ∧ w.heap.size < wr.heap.size ∧ wr.cell? ⟨w.heap.size, 15, none⟩ = some (.slice a k.len cap) ∧ l1 + longF k = s + longF F) (fun _ ui _ => k.len - (intOf ui).toNat)
 case atStart =>
  refine ⟨0, l1, k, congrArg _ (by omega), rfl, by omega, ?_, HA.out, HB0.out, by simp, p15, rfl⟩
  rcases HK1.out with e | ⟨b', o', e1, e2, e3, e4⟩
  ·
   exact .inl e
  ·
   exact .inr ⟨b', o', e1, e2, e3, by simpa using e4⟩
 case round =>
  clear p15 p3 p14 hw1 hw2 hs1 hs2
  obtain ⟨i, s, F, rfl, rfl, hl, hF, hAF, hB, hz, c15, hq⟩ := hrel
  have HB := hide hB
  have hsz := hB.size
  have HQ := hide hq
  clear hB hq
  match F, hl, hF, hAF, HQ with
  | .nil, hl, _, _, HQ =>
   have hli : ¬ (i : Int) < (k.len : Int) := by simp [Fo.len] at hl; omega
   clear hm
   go_wp2
   go_ret
   refine ⟨congrArg (fun z => Ending.returned (Value.int .i64 z)) (show (s : Int) = _ from ?_), HB.out⟩
   have hq := HQ.out
   simp only [longF] at hq
   omega
  | .cons h1 k1 r1, hl, hF, hAF, HQ =>
   have hq := HQ.out
   have hli : (i : Int) < (k.len : Int) := by simp [Fo.len] at hl; omega
   have hl2 : i + 1 + r1.len = k.len := by simp [Fo.len] at hl; omega
   have hq1 : l1 + longF k = s + (long1 h1 + longF k1) + longF r1 := by rw [hq]; simp [longF]; omega
   have hle : (s : Int) ≤ 1024 := by omega
   obtain ⟨b1, o1, rfl, hcap1, hcap2, hrw⟩ : ∃ b' o', a = some ⟨b', o', none⟩ ∧ k.len ≤ cap ∧ cap ≤ maxLen ∧ Row w D (.cons h1 k1 r1) b' (o' + i * 16) := by
    rcases hF with e | e
    ·
     cases e
    ·
     exact e
   obtain ⟨d1, ⟨v1, x1, y1⟩, z1⟩ := row_cons.1 hrw
   have HR1 : Hid (Row w D r1 b1 (o1 + (i + 1) * 16)) := by rw [show o1 + (i + 1) * 16 = o1 + i * 16 + 16 by omega]; exact z1
   have HX : Hid (∀ j, j < 16 → wr.cell? ⟨b1, o1 + i * 16 + j, none⟩ = (hdC h1 v1)[j]?) := fun j hj => by rw [HB.out.cell (p := ⟨b1, o1 + i * 16 + j, none⟩) (hD b1 d1)]; exact x1 j hj
   obtain ⟨hA1, hA2⟩ := hAF
   have HA2 := hide hA2
   have HC : Hid (∀ W : World, Below w.heap.size w W → Calls Tryz.prog 87 #[.agg (hdC h1 v1).toArray] W fun e w' => e = .returned (.int .i64 ((long1 h1 + longF k1 : Nat) : Int)) ∧ Below W.heap.size W w') := fun W hW =>
    hA1 D v1 W (by omega) (fun c hc => Nat.lt_of_lt_of_le (hD c hc) hW.size) (kv_to y1 (fun b hb => ⟨hb, hW.block b (hD b hb)⟩))
   have HM1 := hide hcap2
   unfold maxLen at hcap2
   generalize long1 h1 + longF k1 = x at *
   have hwx : IntKind.i64.wrap ((s : Int) + (x : Int)) = ((s + x : Nat) : Int) := by rw [wrap_le (by omega) (by omega)]; omega
   have HQ2 := hide hq1
   clear hq1 hq HQ hrw d1 x1 y1 z1 hA1 hA2 hF hl hm
   go_wp2_with (first | (with_reducible refine wpl_id ?_; refine wpl_loadAt rfl _ rfl _ _ rfl HX.out ?_) | (go_at_call 87; refine (HC.out _ HB.out).mono ?_; rintro e w1 ⟨rfl, hb1⟩; have HB1 := hide (bar_below HB.out (Bar.of hb1)); have HZ1 : Hid (wr.heap.size ≤ w1.heap.size) := hb1.size; have k15 : w1.cell? ⟨w.heap.size, 15, none⟩ = some (.slice (some ⟨b1, o1, none⟩) k.len cap) := by { rw [hb1.cell (p := ⟨w.heap.size, 15, none⟩) hz]; exact c15 }; clear hb1))
   go_roundw
   case rel => exact ⟨i + 1, s + x, r1, rfl, by go_num, by omega, .inr ⟨b1, o1, rfl, hcap1, HM1.out, HR1.out⟩, HA2.out, HB1.out, by have := HZ1.out; omega, k15, HQ2.out⟩
   case measure => simp [intOf]; omega
theorem long_all : ∀ (F : Fo), LongA F
 | .nil => trivial
 | .cons h k r => ⟨long_step h k (long_all k), long_all r⟩
theorem long_any (h : Hd) (k : Fo) : LongC h k := long_step h k (long_all k)
def lost1 (h : Hd) : Nat := if h.kind = 1 ∧ h.vc = 3 then 1 else 0
def lostF : Fo → Nat
 | .nil => 0
 | .cons h k r => lost1 h + lostF k + lostF r
end Go.Proofs.YtfpmmckpobpokaaGreat
