/-
  The contracts of the answer's Print where there is a text, and of the statements' of and text.
-/
import Derived.Test.YtfpmmckpobpokaaGreatMRwT4
import Derived.Test.YtfpmmckpobpokaaGreatMZE1
set_option maxRecDepth 100000
set_option maxHeartbeats 4000000
namespace Go.Proofs.YtfpmmckpobpokaaGreat
open Go.RowKit
theorem print_is (h : Hd) (k : Fo) (s : List UInt8) (ht : TextC h k s) (hs : s.length ≤ 1000) (hc : checkN h k = 0) (hl : long1 h + longF k ≤ 1000) (hm : k.many + 1 ≤ 4096) (hd : k.deep + 1 ≤ 160) (hv : h.vs.length ≤ maxLen) (hx : h.txt.length ≤ maxLen) (ho : okF k) (D : Nat → Prop) (a : Option Addr) (n cap : Nat) (w : World) (hD : ∀ c, D c → c < w.heap.size) (hk : Kv w D (.slice a n cap) k) :
  Calls Tryz.prog 56 #[.agg (hdC h (.slice a n cap)).toArray] w fun e w' => e = .returned (.tuple #[.string ⟨s.toArray⟩, .int .i64 0]) ∧ Below w.heap.size w w' := by
 have HC : Hid (∀ W : World, Below w.heap.size w W → Calls Tryz.prog 24 #[.agg (hdC h (.slice a n cap)).toArray] W fun e w' => e = .returned (.int .i64 0) ∧ Below W.heap.size W w') := fun W hW => by
  have := rcheck08_any D h k a n cap W (fun c hc => Nat.lt_of_lt_of_le (hD c hc) hW.size) (kv_to hk (fun b hb => ⟨hb, hW.block b (hD b hb)⟩)) hm hd hv hx ho
  rw [hc] at this
  exact this
 have HL : Hid (∀ W : World, Below w.heap.size w W → Calls Tryz.prog 87 #[.agg (hdC h (.slice a n cap)).toArray] W fun e w' => e = .returned (.int .i64 ((long1 h + longF k : Nat) : Int)) ∧ Below W.heap.size W w') := fun W hW => long_any h k D _ W (by omega) (fun c hc => Nat.lt_of_lt_of_le (hD c hc) hW.size) (kv_to hk (fun b hb => ⟨hb, hW.block b (hD b hb)⟩))
 have HT : Hid (∀ W : World, Below w.heap.size w W → Calls Tryz.prog 88 #[.agg (hdC h (.slice a n cap)).toArray] W fun e w' => e = .returned (.string ⟨s.toArray⟩) ∧ Below W.heap.size W w') := fun W hW => ht D _ W (fun c hc => Nat.lt_of_lt_of_le (hD c hc) hW.size) (kv_to hk (fun b hb => ⟨hb, hW.block b (hD b hb)⟩))
 have HX := hide (Box.new w (hdC h (.slice a n cap)))
 have HB := hide ((Below.refl w.heap.size w).alloc (Nat.le_refl _) (.cells (hdC h (.slice a n cap)).toArray 33))
 generalize long1 h + longF k = l at *
 have hl' : ¬ (2048 : Int) < (l : Int) := by omega
 have hs' : ¬ (1023 : Int) < (s.length : Int) := by omega
 clear ht hc hl hm hd hv hx ho hD hk hs
 go_enter Tryz.func56, Tryz.ntmps56
 go_wp2_with (first | (with_reducible refine wpl_id ?_; refine wpl_load rfl _ rfl _ rfl (by ((repeat' (first | with_reducible (first | exact Hid.out (by assumption) | apply Box.set | exact Box.new _ _ | apply Box.other | apply Box.alloc | apply Box.drew | apply Box.drewN) | omega)); done)) ?_) | (go_at_call 24; refine (HC.out _ HB.out).mono ?_; rintro e w1 ⟨rfl, hb1⟩; have HB1 := hide (HB.out.trans (hb1.mono HB.out.size)); have HX1 := hide (HX.out.below hb1); clear hb1 HB HX) | (go_at_call 87; refine (HL.out _ HB1.out).mono ?_; rintro e w2 ⟨rfl, hb2⟩; have HB2 := hide (HB1.out.trans (hb2.mono HB1.out.size)); have HX2 := hide (HX1.out.below hb2); clear hb2 HB1 HX1) | (go_at_call 88; refine (HT.out _ HB2.out).mono ?_; rintro e w3 ⟨rfl, hb3⟩; have HB3 := hide (HB2.out.trans (hb3.mono HB2.out.size)); clear hb3 HB2 HX2))
 go_ret2
 exact ⟨rfl, HB3.out⟩
structure Texted (h : Hd) (k : Fo) (s : List UInt8) : Prop where
 text : TextC h k s
 len : s.length ≤ 1000
 check : checkN h k = 0
 long : long1 h + longF k ≤ 1000
 many : k.many + 1 ≤ 4096
 deep : k.deep + 1 ≤ 160
 vs : h.vs.length ≤ maxLen
 txt : h.txt.length ≤ maxLen
 ok : okF k
theorem text10_any (h : Hd) (k : Fo) (s : List UInt8) (ht : Texted h k s) (D : Nat → Prop) (a : Option Addr) (n cap : Nat) (w : World) (hD : ∀ c, D c → c < w.heap.size) (hk : Kv w D (.slice a n cap) k) :
  Calls Tryz.prog 29 #[.agg (hdC h (.slice a n cap)).toArray] w fun e w' => e = .returned (.string ⟨s.toArray⟩) ∧ Below w.heap.size w w' := by
 have HP : Hid (∀ W : World, Below w.heap.size w W → Calls Tryz.prog 56 #[.agg (hdC h (.slice a n cap)).toArray] W fun e w' => e = .returned (.tuple #[.string ⟨s.toArray⟩, .int .i64 0]) ∧ Below W.heap.size W w') := fun W hW => print_is h k s ht.text ht.len ht.check ht.long ht.many ht.deep ht.vs ht.txt ht.ok D a n cap W (fun c hc => Nat.lt_of_lt_of_le (hD c hc) hW.size) (kv_to hk (fun b hb => ⟨hb, hW.block b (hD b hb)⟩))
 have HX := hide (Box.new w (hdC h (.slice a n cap)))
 have HB := hide ((Below.refl w.heap.size w).alloc (Nat.le_refl _) (.cells (hdC h (.slice a n cap)).toArray 33))
 clear ht hD hk
 go_enter Tryz.func29, Tryz.ntmps29
 go_wp2_with (first | (with_reducible refine wpl_id ?_; refine wpl_load rfl _ rfl _ rfl (by ((repeat' (first | with_reducible (first | exact Hid.out (by assumption) | apply Box.set | exact Box.new _ _ | apply Box.other | apply Box.alloc | apply Box.drew | apply Box.drewN) | omega)); done)) ?_) | (go_at_call 56; refine (HP.out _ HB.out).mono ?_; rintro e w1 ⟨rfl, hb1⟩; have HB1 := hide (HB.out.trans (hb1.mono HB.out.size)); clear hb1 HB HX))
 go_ret
 exact ⟨rfl, HB1.out⟩
theorem of10_any (s : ByteArray) (w : World) (hs : s.size ≤ maxLen) (h : Hd) (k : Fo) (hp : parseN s.data.toList = .ok h k) :
  Calls Tryz.prog 28 #[.string s] w fun e w' => ∃ a n cap, e = .returned (.agg (hdC h (.slice a n cap)).toArray) ∧ Kv w' (New w w') (.slice a n cap) k ∧ Below w.heap.size w w' := by
 have HP : Hid (∀ W : World, Calls Tryz.prog 55 #[.string s] W fun e w' => ∃ a n cap, e = .returned (.tuple #[.agg (hdC h (.slice a n cap)).toArray, .int .i64 0, .int .i64 0]) ∧ Kv w' (New W w') (.slice a n cap) k ∧ Below W.heap.size W w') := fun W => rparsed_ok s W hs h k hp
 have HZ := hide (Box.new w (hdC zh (.slice none 0 0)))
 clear hp hs
 go_enter Tryz.func28, Tryz.ntmps28
 go_wp2_with (first | (go_at_call 55; refine (HP.out _).mono ?_; rintro e w1 ⟨a, n, cap, rfl, hk1, hb1⟩; have HZ1 := hide (HZ.out.below hb1); have HX1 := hide ((HZ.out.below hb1).alloc (.cells (hdC h (.slice a n cap)).toArray 33)); have HK1 := hide hk1; have HB1 := hide hb1; clear hk1 hb1 HZ) | (with_reducible refine wpl_id ?_; refine wpl_newN rfl _ _ rfl rfl rfl rfl ?_) | (with_reducible refine wpl_id ?_; refine wpl_load rfl _ rfl _ rfl (by ((repeat' (first | with_reducible (first | exact Hid.out (by assumption) | apply Box.set | exact Box.new _ _ | apply Box.other | apply Box.alloc | apply Box.drew | apply Box.drewN) | omega)); done)) ?_) | (with_reducible refine wpl_id ?_; refine wpl_store rfl _ _ rfl _ rfl rfl (by ((repeat' (first | with_reducible (first | exact Hid.out (by assumption) | apply Box.set | exact Box.new _ _ | apply Box.other | apply Box.alloc | apply Box.drew | apply Box.drewN) | omega)); done)) rfl ?_))
 have z1 : w.heap.size < w1.heap.size := HZ1.out.lt
 refine bodyPost_ret (Box.ret rfl (HX1.out.set _) rfl) rfl ⟨a, n, cap, rfl, ?_, ?_⟩
 ·
  refine kv_to HK1.out (fun c hc => ?_)
  have h1 : w.heap.size + 1 ≤ c := by have := hc.1; simpa using this
  refine ⟨⟨by omega, by rw [setRow_size]; simp; have := hc.2; omega⟩, ?_⟩
  rw [setRow_heap _ _ _ _ (by omega)]
  exact Below.heap_alloc _ _ _ hc.2
 ·
  have b1 : Below w.heap.size w w1 := ((Below.refl _ w).alloc (Nat.le_refl _) _).trans (HB1.out.mono (by simp))
  have b2 := b1.alloc b1.size (.cells (hdC h (.slice a n cap)).toArray 33)
  exact ⟨b2.os, b2.tape, b2.output, by rw [setRow_size]; exact b2.size, fun i hi => by rw [setRow_heap _ _ _ _ (by omega)]; exact b2.block i hi⟩
end Go.Proofs.YtfpmmckpobpokaaGreat
