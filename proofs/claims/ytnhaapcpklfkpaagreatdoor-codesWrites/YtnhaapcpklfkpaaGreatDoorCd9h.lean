/-
  The contract of codes.Apply.
-/
import Derived.Test.YtnhaapcpklfkpaaGreatDoorCd9g
namespace Go.Proofs.YtnhaapcpklfkpaaGreatDoor
open Go.RowKit
set_option linter.unusedSimpArgs false

set_option maxHeartbeats 4000000 in
theorem Apply_none (l : List UInt8) (k n : Int) (s : ByteArray) (b : Bool) (c : Int) (w : World) (hl : l.length ≤ 9223372036854775807) (hc : CellOk w) (ho : secsOpt l = none) :
    Calls Tryz.prog 4 #[.string ⟨l.toArray⟩, .agg #[.int .i64 k, .int .i64 n, .string s, .bool b, .int .i64 c]] w fun e w' => e = .returned (.tuple #[.string ⟨#[]⟩, .int .i64 2]) ∧ Below w.heap.size w w' := by
  have HS : Hid (∀ W : World, Below w.heap.size w W → Calls Tryz.prog 7 #[.string ⟨l.toArray⟩] W fun e w' => e = .returned (.tuple #[.slice none 0 0, .int .i64 (checkR l)]) ∧ Below W.heap.size W w') := fun W hW => (secs_all l W hl (cellOk_below hc hW)).mono fun e w' hq => by rw [ho] at hq; exact ⟨hq.2, hq.1⟩
  have he : (checkR l != 0) = true := by rw [bne_iff_ne]; exact opt_check ho
  generalize checkR l = E at *
  clear hc ho
  go_enter Tryz.func4, Tryz.ntmps4
  go_wp2_with (go_at_call 7; refine (HS.out _ ((Below.refl _ w).alloc (Nat.le_refl _) _)).mono ?_; rintro e w1 ⟨rfl, hb1⟩)
  go_ret2
  exact ⟨rfl, up ((Below.refl _ w).alloc (Nat.le_refl _) _) hb1⟩
/-- A value in its box, and the sections at hand. -/
def SecsCalls (l : List UInt8) (w : World) (k n : Int) (s : ByteArray) (b : Bool) (c : Int) (ss : List (List Pc)) : Prop :=
  Calls Tryz.prog 7 #[.string ⟨l.toArray⟩] (w.alloc (.cells #[.int .i64 k, .int .i64 n, .string s, .bool b, .int .i64 c] 25)) fun e w' => ∃ g cap G, e = .returned (.tuple #[.slice (some ⟨g, 0, none⟩) G.length cap, .int .i64 0]) ∧ SsAt w' g cap G ∧ w.heap.size + 1 ≤ g ∧ G.map Prod.snd = ss ∧
    w'.cell? ⟨w.heap.size, 0, none⟩ = some (.int .i64 k) ∧ w'.cell? ⟨w.heap.size, 1, none⟩ = some (.int .i64 n) ∧ w'.cell? ⟨w.heap.size, 2, none⟩ = some (.string s) ∧ w'.cell? ⟨w.heap.size, 3, none⟩ = some (.bool b) ∧ w'.cell? ⟨w.heap.size, 4, none⟩ = some (.int .i64 c) ∧ Below (w.heap.size + 1) (w.alloc (.cells #[.int .i64 k, .int .i64 n, .string s, .bool b, .int .i64 c] 25)) w'
theorem secs_calls {l : List UInt8} {w : World} (k n : Int) (s : ByteArray) (b : Bool) (c : Int) {ss : List (List Pc)} (hl : l.length ≤ 9223372036854775807) (hc : CellOk w) (ho : secsOpt l = some ss) : SecsCalls l w k n s b c ss := by
  refine (secs_all l _ hl (cellOk_below hc ((Below.refl _ w).alloc (Nat.le_refl _) _))).mono fun e w' hq => ?_
  rw [ho] at hq
  obtain ⟨h1, n₀, B, g, cap, G, C, hn, h2, h3, h4⟩ := hq
  obtain ⟨q0, q1, q2, q3, q4, q5, q6⟩ := box_cells h1
  rw [World.size_alloc] at h1 hn
  exact ⟨g, cap, G, h2, SsAt.of h3 h4 ho, Nat.le_trans hn h3.lt, h4, q0, q1, q2, q3, q4, h1⟩
set_option maxHeartbeats 4000000 in
theorem Apply_wrong (l : List UInt8) (k n : Int) (s : ByteArray) (b : Bool) (c : Int) (ss : List (List Pc)) (w : World) (hl : l.length ≤ 9223372036854775807) (hc : CellOk w) (ho : secsOpt l = some ss) (hz : s.size ≤ maxLen) (hv : checkV k n s b c = 2) :
    Calls Tryz.prog 4 #[.string ⟨l.toArray⟩, .agg #[.int .i64 k, .int .i64 n, .string s, .bool b, .int .i64 c]] w fun e w' => e = .returned (.tuple #[.string ⟨#[]⟩, .int .i64 2]) ∧ Below w.heap.size w w' := by
  have HS := hide (secs_calls k n s b c hl hc ho)
  unfold SecsCalls at HS
  have HV : Hid (∀ W : World, Calls Tryz.prog 8 #[.agg #[.int .i64 k, .int .i64 n, .string s, .bool b, .int .i64 c]] W fun e w' => e = .returned (.int .i64 2) ∧ Below W.heap.size W w') := fun W => by have := checkV_any k n s b c W hz; rwa [hv] at this
  clear hc ho hv hz
  go_enter Tryz.func4, Tryz.ntmps4
  go_wp2_with (first | (go_at_call 7; refine HS.out.mono ?_; rintro e w1 ⟨g, cap, G, rfl, hs1, hg1, hG, q0, q1, q2, q3, q4, hb1⟩; have HB1 := hide hb1; clear hs1 hG hb1) | (go_at_call 8; refine (HV.out _).mono ?_; rintro e w2 ⟨rfl, hb2⟩))
  go_ret2
  exact ⟨rfl, (((Below.refl _ w).alloc (Nat.le_refl _) _).trans (HB1.out.mono (Nat.le_succ _))).trans (hb2.mono (by have := HB1.out.size; simp at this; omega))⟩
set_option maxHeartbeats 4000000 in
theorem Apply_fault (l : List UInt8) (n : Int) (s : ByteArray) (b : Bool) (c : Int) (ss : List (List Pc)) (w : World) (hl : l.length ≤ 9223372036854775807) (hc : CellOk w) (ho : secsOpt l = some ss) (hz : s.size ≤ maxLen) (hv : checkV 4 n s b c = 0) :
    Calls Tryz.prog 4 #[.string ⟨l.toArray⟩, .agg #[.int .i64 4, .int .i64 n, .string s, .bool b, .int .i64 c]] w fun e w' => e = .returned (.tuple #[.string ⟨#[]⟩, .int .i64 c]) ∧ Below w.heap.size w w' := by
  have HS := hide (secs_calls 4 n s b c hl hc ho)
  unfold SecsCalls at HS
  have HV : Hid (∀ W : World, Calls Tryz.prog 8 #[.agg #[.int .i64 4, .int .i64 n, .string s, .bool b, .int .i64 c]] W fun e w' => e = .returned (.int .i64 0) ∧ Below W.heap.size W w') := fun W => by have := checkV_any 4 n s b c W hz; rwa [hv] at this
  clear hc ho hv hz
  go_enter Tryz.func4, Tryz.ntmps4
  go_wp2_with (first | (go_at_call 7; refine HS.out.mono ?_; rintro e w1 ⟨g, cap, G, rfl, hs1, hg1, hG, q0, q1, q2, q3, q4, hb1⟩; have HB1 := hide hb1; have hw1 : w.heap.size < w1.heap.size := Nat.lt_of_lt_of_le (Nat.lt_of_lt_of_eq (Nat.lt_succ_self _) (World.size_alloc _ _).symm) hb1.size; have HQ := hide (And.intro q0 (And.intro q1 (And.intro q2 (And.intro q3 q4)))); clear hs1 hG hb1) | (go_at_call 8; refine (HV.out _).mono ?_; rintro e w2 ⟨rfl, hb2⟩; have p0 := (hb2.cell (p := ⟨w.heap.size, 0, none⟩) hw1).trans HQ.out.1; have p4 := (hb2.cell (p := ⟨w.heap.size, 4, none⟩) hw1).trans HQ.out.2.2.2.2; have HB2 := hide hb2; clear hb2))
  go_region
  all_goals
    go_wp2
    go_ret2
    exact ⟨rfl, ((((Below.refl _ w).alloc (Nat.le_refl _) _).trans (HB1.out.mono (Nat.le_succ _))).trans (HB2.out.mono (by omega))).drew⟩
/-- How a text or a truth is written, by the sections' pieces. -/
def wordsSS (ss : List (List Pc)) (x : List UInt8) : List UInt8 := match ss.find? textB with
  | some ps => secT zeroPlc 0 0 0 0 x ps
  | none => x
theorem words_ss {G : List (Value × List Pc)} {ss : List (List Pc)} (h : G.map Prod.snd = ss) (x : List UInt8) : ofWordsR G x = wordsSS ss x := by
  subst h
  unfold ofWordsR wordsSS
  rw [List.find?_map]
  rw [show (textB ∘ Prod.snd) = (fun y : Value × List Pc => textB y.2) from rfl]
  cases G.find? (fun y => textB y.2) <;> rfl
set_option maxHeartbeats 4000000 in
theorem Apply_words (l : List UInt8) (k n : Int) (s : ByteArray) (b : Bool) (c : Int) (ss : List (List Pc)) (w : World) (hl : l.length ≤ 9223372036854775807) (hc : CellOk w) (ht : TabOk w) (ho : secsOpt l = some ss) (hz : s.size ≤ maxLen) (hv : checkV k n s b c = 0) (hk : k = 2 ∨ k = 3) (hx : (wordsV k n s b c).1.length ≤ 5000) :
    Calls Tryz.prog 4 #[.string ⟨l.toArray⟩, .agg #[.int .i64 k, .int .i64 n, .string s, .bool b, .int .i64 c]] w fun e w' => e = .returned (.tuple #[.string ⟨(wordsSS ss (wordsV k n s b c).1).toArray⟩, .int .i64 (wordsV k n s b c).2]) ∧ Below w.heap.size w w' := by
  have HS := hide (secs_calls k n s b c hl hc ho)
  unfold SecsCalls at HS
  have HV : Hid (∀ W : World, Calls Tryz.prog 8 #[.agg #[.int .i64 k, .int .i64 n, .string s, .bool b, .int .i64 c]] W fun e w' => e = .returned (.int .i64 0) ∧ Below W.heap.size W w') := fun W => by have := checkV_any k n s b c W hz; rwa [hv] at this
  have HO : Hid (∀ (g cap : Nat) (G : List (Value × List Pc)) (W : World), SsAt W g cap G → G.map Prod.snd = ss → Below w.heap.size w W → Calls Tryz.prog 9 #[.slice (some ⟨g, 0, none⟩) G.length cap, .agg #[.int .i64 k, .int .i64 n, .string s, .bool b, .int .i64 c]] W fun e w' => e = .returned (.tuple #[.string ⟨(wordsSS ss (wordsV k n s b c).1).toArray⟩, .int .i64 (wordsV k n s b c).2]) ∧ Below W.heap.size W w') := fun g cap G W h1 h2 h3 => by
    have := ofWords_any g cap G k n s b c W h1 (tab_below ht h3) hz hx
    rwa [words_ss h2] at this
  generalize wordsSS ss (wordsV k n s b c).1 = X at *
  generalize (wordsV k n s b c).2 = E at *
  clear hc ho hv hz hx ht
  rcases hk with rfl | rfl
  all_goals
    go_enter Tryz.func4, Tryz.ntmps4
    go_wp2_with (first | (go_at_call 7; refine HS.out.mono ?_; rintro e w1 ⟨g, cap, G, rfl, hs1, hg1, hG, q0, q1, q2, q3, q4, hb1⟩; have HB1 := hide hb1; have hw1 : w.heap.size < w1.heap.size := Nat.lt_of_lt_of_le (Nat.lt_of_lt_of_eq (Nat.lt_succ_self _) (World.size_alloc _ _).symm) hb1.size; have HQ := hide (And.intro q0 (And.intro q1 (And.intro q2 (And.intro q3 q4)))); have HSS := hide hs1; have HG := hide hG; clear hs1 hG hb1) | (go_at_call 8; refine (HV.out _).mono ?_; rintro e w2 ⟨rfl, hb2⟩; have p0 := (hb2.cell (p := ⟨w.heap.size, 0, none⟩) hw1).trans HQ.out.1; have p1 := (hb2.cell (p := ⟨w.heap.size, 1, none⟩) hw1).trans HQ.out.2.1; have p2 := (hb2.cell (p := ⟨w.heap.size, 2, none⟩) hw1).trans HQ.out.2.2.1; have p3 := (hb2.cell (p := ⟨w.heap.size, 3, none⟩) hw1).trans HQ.out.2.2.2.1; have p4 := (hb2.cell (p := ⟨w.heap.size, 4, none⟩) hw1).trans HQ.out.2.2.2.2; have HB2 := hide hb2; clear hb2) | (go_at_call 9; refine (HO.out g cap G _ (HSS.out.below HB2.out) HG.out ((((Below.refl _ w).alloc (Nat.le_refl _) _).trans (HB1.out.mono (Nat.le_succ _))).trans (HB2.out.mono (Nat.le_of_lt hw1)))).mono ?_; rintro e w3 ⟨rfl, hb3⟩))
    go_ret2
    exact ⟨rfl, ((((Below.refl _ w).alloc (Nat.le_refl _) _).trans (HB1.out.mono (Nat.le_succ _))).trans (HB2.out.mono (Nat.le_of_lt hw1))).trans (hb3.mono (Nat.le_trans (Nat.le_of_lt hw1) HB2.out.size))⟩
set_option maxHeartbeats 4000000 in
theorem Apply_number (l : List UInt8) (k n : Int) (s : ByteArray) (b : Bool) (c : Int) (ss : List (List Pc)) (w : World) (hl : l.length ≤ 9223372036854775807) (hc : CellOk w) (ht : TabOk w) (ho : secsOpt l = some ss) (hz : s.size ≤ maxLen) (hv : checkV k n s b c = 0) (hk : k = 0 ∨ k = 1) (S : List UInt8) (E : Int)
    (hO : ∀ (g cap : Nat) (G : List (Value × List Pc)) (W : World), SsAt W g cap G → G.map Prod.snd = ss → w.heap.size ≤ g → (∀ W', Below w.heap.size W W' → TabOk W' ∧ Below w.heap.size w W') → Calls Tryz.prog 10 #[.slice (some ⟨g, 0, none⟩) G.length cap, .int .i64 n] W fun e w' => e = .returned (.tuple #[.string ⟨S.toArray⟩, .int .i64 E]) ∧ Below w.heap.size W w') :
    Calls Tryz.prog 4 #[.string ⟨l.toArray⟩, .agg #[.int .i64 k, .int .i64 n, .string s, .bool b, .int .i64 c]] w fun e w' => e = .returned (.tuple #[.string ⟨S.toArray⟩, .int .i64 E]) ∧ Below w.heap.size w w' := by
  have HS := hide (secs_calls k n s b c hl hc ho)
  unfold SecsCalls at HS
  have HV : Hid (∀ W : World, Calls Tryz.prog 8 #[.agg #[.int .i64 k, .int .i64 n, .string s, .bool b, .int .i64 c]] W fun e w' => e = .returned (.int .i64 0) ∧ Below W.heap.size W w') := fun W => by have := checkV_any k n s b c W hz; rwa [hv] at this
  have HO : Hid (∀ (g cap : Nat) (G : List (Value × List Pc)) (W : World), SsAt W g cap G → G.map Prod.snd = ss → w.heap.size ≤ g → Below w.heap.size w W → Calls Tryz.prog 10 #[.slice (some ⟨g, 0, none⟩) G.length cap, .int .i64 n] W fun e w' => e = .returned (.tuple #[.string ⟨S.toArray⟩, .int .i64 E]) ∧ Below w.heap.size W w') := fun g cap G W h1 h2 h3 h4 => hO g cap G W h1 h2 h3 fun W' hW' => ⟨tab_below ht (h4.trans hW'), h4.trans hW'⟩
  clear hc ho hv hz ht hO
  rcases hk with rfl | rfl
  all_goals
    go_enter Tryz.func4, Tryz.ntmps4
    go_wp2_with (first | (go_at_call 7; refine HS.out.mono ?_; rintro e w1 ⟨g, cap, G, rfl, hs1, hg1, hG, q0, q1, q2, q3, q4, hb1⟩; have HB1 := hide hb1; have hw1 : w.heap.size < w1.heap.size := Nat.lt_of_lt_of_le (Nat.lt_of_lt_of_eq (Nat.lt_succ_self _) (World.size_alloc _ _).symm) hb1.size; have HQ := hide (And.intro q0 (And.intro q1 (And.intro q2 (And.intro q3 q4)))); have HSS := hide hs1; have HG := hide hG; clear hs1 hG hb1) | (go_at_call 8; refine (HV.out _).mono ?_; rintro e w2 ⟨rfl, hb2⟩; have p0 := (hb2.cell (p := ⟨w.heap.size, 0, none⟩) hw1).trans HQ.out.1; have p1 := (hb2.cell (p := ⟨w.heap.size, 1, none⟩) hw1).trans HQ.out.2.1; have p2 := (hb2.cell (p := ⟨w.heap.size, 2, none⟩) hw1).trans HQ.out.2.2.1; have p3 := (hb2.cell (p := ⟨w.heap.size, 3, none⟩) hw1).trans HQ.out.2.2.2.1; have p4 := (hb2.cell (p := ⟨w.heap.size, 4, none⟩) hw1).trans HQ.out.2.2.2.2; have HB2 := hide hb2; clear hb2) | (go_at_call 10; refine (HO.out g cap G _ (HSS.out.below HB2.out) HG.out (Nat.le_of_succ_le hg1) ((((Below.refl _ w).alloc (Nat.le_refl _) _).trans (HB1.out.mono (Nat.le_succ _))).trans (HB2.out.mono (Nat.le_of_lt hw1)))).mono ?_; rintro e w3 ⟨rfl, hb3⟩))
    go_ret2
    exact ⟨rfl, ((((Below.refl _ w).alloc (Nat.le_refl _) _).trans (HB1.out.mono (Nat.le_succ _))).trans (HB2.out.mono (Nat.le_of_lt hw1))).trans hb3⟩
end Go.Proofs.YtnhaapcpklfkpaaGreatDoor
