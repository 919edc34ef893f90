/-
  The contract of codes' ofWords.
-/
import Derived.Test.YtnhaapcpklfkpaaGreatDoorCd9b
import Derived.Test.YtnhaapcpklfkpaaGreatDoorVVal4
namespace Go.Proofs.YtnhaapcpklfkpaaGreatDoor
open Go.RowKit
set_option linter.unusedSimpArgs false

theorem find_min {G : List (Value × List Pc)} {i : Nat} {x : Value × List Pc} (h : G[i]? = some x) (hp : textB x.2 = true) (hm : ∀ (j : Nat) (y : Value × List Pc), j < i → G[j]? = some y → textB y.2 = false) : G.find? (fun y => textB y.2) = some x := by
  rw [List.find?_eq_some_iff_getElem]
  obtain ⟨hi, e⟩ := List.getElem?_eq_some_iff.1 h
  exact ⟨hp, i, hi, e, fun j hj => by rw [hm j G[j] hj (List.getElem?_eq_getElem (by omega))]; rfl⟩
theorem find_none {G : List (Value × List Pc)} (hm : ∀ (j : Nat) (y : Value × List Pc), G[j]? = some y → textB y.2 = false) : G.find? (fun y => textB y.2) = none := by
  rw [List.find?_eq_none]
  intro x hx
  obtain ⟨j, hj⟩ := List.mem_iff_getElem?.1 hx
  rw [hm j x hj]; decide
/-- The first section for a text, or none. -/
theorem first_text (G : List (Value × List Pc)) : (∀ (j : Nat) (y : Value × List Pc), G[j]? = some y → textB y.2 = false) ∨ ∃ (i : Nat) (x : Value × List Pc), i < G.length ∧ G[i]? = some x ∧ textB x.2 = true ∧ ∀ (j : Nat) (y : Value × List Pc), j < i → G[j]? = some y → textB y.2 = false := by
  cases hfi : G.findIdx? (fun x => textB x.2) with
  | none =>
    rw [List.findIdx?_eq_none_iff] at hfi
    exact .inl fun j x hj => hfi x (List.mem_of_getElem? hj)
  | some i =>
    rw [List.findIdx?_eq_some_iff_getElem] at hfi
    obtain ⟨hl, hp, hm⟩ := hfi
    refine .inr ⟨i, G[i], hl, List.getElem?_eq_getElem hl, hp, fun j y hj hy => ?_⟩
    have := hm j hj
    obtain ⟨hl2, rfl⟩ := List.getElem?_eq_some_iff.1 hy
    simpa using this
set_option maxHeartbeats 2000000 in
theorem ofWords_any (g cap : Nat) (G : List (Value × List Pc)) (k n : Int) (s : ByteArray) (b : Bool) (c : Int) (w : World) (hs : SsAt w g cap G) (ht : TabOk w) (hz : s.size ≤ maxLen) (hx : (wordsV k n s b c).1.length ≤ 5000) :
    Calls Tryz.prog 9 #[.slice (some ⟨g, 0, none⟩) G.length cap, .agg #[.int .i64 k, .int .i64 n, .string s, .bool b, .int .i64 c]] w fun e w' =>
      e = .returned (.tuple #[.string ⟨(ofWordsR G (wordsV k n s b c).1).toArray⟩, .int .i64 (wordsV k n s b c).2]) ∧ Below w.heap.size w w' := by
  have HW := hide (fun (W : World) (hW : Below w.heap.size w W) => wordsV_any k n s b c W (tab_below ht hW) hz)
  have HS := hide hs
  have HT := hide ht
  have hG3 : (G.length : Int) ≤ 3 := by have := hs.three; omega
  have hcapi : (cap : Int) ≤ 9223372036854775807 := by have := hs.mx; unfold maxLen at this; omega
  have hlec : (G.length : Int) ≤ (cap : Int) := by have := hs.le; omega
  generalize (wordsV k n s b c).1 = X at *
  generalize (wordsV k n s b c).2 = E at *
  have HI : Hid (∀ W : World, Below w.heap.size w W → Calls Tryz.prog 28 #[.slice (some ⟨g, 0, none⟩) G.length cap, .func (.func 29) #[] #[]] W fun e w' => e = .returned (.int .i64 (idxS textB G)) ∧ Below W.heap.size W w') := fun W hW => index_text g cap G W (HS.out.below hW).secs (by have := HS.out.three; omega)
  clear hs ht hz
  rcases first_text G with hno | ⟨i, ⟨u, ps⟩, hil, hi, hp, hmin⟩
  · rw [idx_none hno] at HI
    unfold ofWordsR
    rw [find_none hno]
    simp only
    clear hno
    go_enter Tryz.func9, Tryz.ntmps9
    go_wp2_with (first | (go_at_call 27; refine (HW.out _ ((Below.refl _ w).alloc (Nat.le_refl _) _)).mono ?_; rintro e w1 ⟨rfl, hb1⟩; have HB1 := hide (up ((Below.refl _ w).alloc (Nat.le_refl _) _) hb1); clear hb1) | (go_at_call 28; refine (HI.out _ HB1.out).mono ?_; rintro e w2 ⟨rfl, hb2⟩))
    go_ret2
    exact ⟨rfl, up HB1.out hb2⟩
  · rw [idx_some hi hp hmin] at HI
    unfold ofWordsR
    rw [find_min hi hp hmin]
    simp only
    have hsa := HS.out.sane i _ hi
    have HC : Hid (∀ W : World, Below w.heap.size w W → Calls Tryz.prog 30 #[.pointer (some ⟨g, i * 12, none⟩), .agg (wrC zeroPlc 0 0 0 0 X).toArray] W fun e w' => e = .returned (.string ⟨(secT zeroPlc 0 0 0 0 X ps).toArray⟩) ∧ Below W.heap.size W w') := fun W hW =>
      write_any g (i * 12) u ps zeroPlc 0 0 0 0 X W ((HS.out.below hW).secs.2 i _ hi) ((HS.out.below hW).pcs i _ hi) (tab_below HT.out hW) (by omega) (by decide) (by decide) (by omega) (by omega) (by omega) (fun q hq => by have := hsa.texts q hq; omega) (piece_len hsa ⟨by decide, by decide⟩ (by omega) (by omega) (by omega) (by omega) hx) (by have := hsa.len; simp only at this; omega)
    have hi1 : (i : Int) < (G.length : Int) := by omega
    simp only [wrC, zeroPlc] at HC
    clear hmin hp hi hsa
    go_enter Tryz.func9, Tryz.ntmps9
    go_wp2_with (first | (go_at_call 27; refine (HW.out _ ((Below.refl _ w).alloc (Nat.le_refl _) _)).mono ?_; rintro e w1 ⟨rfl, hb1⟩; have HB1 := hide (up ((Below.refl _ w).alloc (Nat.le_refl _) _) hb1); clear hb1) | (go_at_call 28; refine (HI.out _ HB1.out).mono ?_; rintro e w2 ⟨rfl, hb2⟩; have HB2 := hide (up HB1.out hb2); clear hb2) | (go_at_call 30; refine (HC.out _ HB2.out).mono ?_; rintro e w3 ⟨rfl, hb3⟩))
    go_ret2
    exact ⟨rfl, up HB2.out hb3⟩
end Go.Proofs.YtnhaapcpklfkpaaGreatDoor
