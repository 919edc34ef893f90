/-
  What codes.Apply tells, as a relation; its contract.
-/
import Derived.Test.YtnhaapcpklfkpaaGreatDoorCd9h
namespace Go.Proofs.YtnhaapcpklfkpaaGreatDoor
open Go.RowKit
set_option linter.unusedSimpArgs false

def leftS (ss : List (List Pc)) : List (List Pc) := ss.filter fun ps => !textB ps
theorem left_map {G : List (Value × List Pc)} {ss : List (List Pc)} (h : G.map Prod.snd = ss) : (leftG G).map Prod.snd = leftS ss := by
  subst h
  unfold leftG leftS
  rw [List.filter_map]
  rfl
/-- How a number is written by sections. -/
inductive NumQ (ss : List (List Pc)) (n : Int) : List UInt8 → Int → Prop where
  | none : leftS ss = [] → NumQ ss n (wordsV 1 n ⟨#[]⟩ false 0).1 (wordsV 1 n ⟨#[]⟩ false 0).2
  | day {ps : List Pc} {y k d : Nat} : (leftS ss)[chosenR (leftS ss).length n]? = some ps → kindS ps = 3 → Dat.DayIs y k d (dayOf n) → NumQ ss n (secT zeroPlc 0 y (k + 1) d [] ps) 0
  | noday {ps : List Pc} : (leftS ss)[chosenR (leftS ss).length n]? = some ps → kindS ps = 3 → ¬ (1 ≤ dayOf n ∧ dayOf n ≤ 2958464) → NumQ ss n [] 2
  | far {ps : List Pc} {E : Int} : (leftS ss)[chosenR (leftS ss).length n]? = some ps → kindS ps ≠ 3 → sizedR ps (max n (-n)) = (0, E) → E ≠ 0 → NumQ ss n [] E
  | num {ps : List Pc} {m : Nat} : (leftS ss)[chosenR (leftS ss).length n]? = some ps → kindS ps ≠ 3 → sizedR ps (max n (-n)) = ((m : Int), 0) → m ≤ 9223372036854775807 → ¬ ((leftS ss).length = 1 ∧ n < 0) → NumQ ss n (secT (plcOf ps) m 0 0 0 [] ps) 0
  | minus {ps : List Pc} {m : Nat} : (leftS ss)[chosenR (leftS ss).length n]? = some ps → kindS ps ≠ 3 → sizedR ps (max n (-n)) = ((m : Int), 0) → m ≤ 9223372036854775807 → (leftS ss).length = 1 ∧ n < 0 → NumQ ss n (45 :: secT (plcOf ps) m 0 0 0 [] ps) 0
theorem left_get {G : List (Value × List Pc)} {ss : List (List Pc)} {n : Int} {ps : List Pc} (h : G.map Prod.snd = ss) (hx : (leftS ss)[chosenR (leftS ss).length n]? = some ps) : (leftG G).length = (leftS ss).length ∧ 1 ≤ (leftG G).length ∧ ∃ u, (leftG G)[chosenR (leftG G).length n]? = some (u, ps) := by
  have hl : (leftG G).length = (leftS ss).length := by rw [← left_map h, List.length_map]
  refine ⟨hl, ?_, ?_⟩
  · have := (List.getElem?_eq_some_iff.1 hx).1; omega
  · rw [hl]
    rw [← left_map h, List.getElem?_map] at hx
    rw [left_map h] at hx
    cases hq : (leftG G)[chosenR (leftS ss).length n]? with
    | none => rw [hq] at hx; cases hx
    | some x =>
      rw [hq] at hx
      obtain ⟨u, ps'⟩ := x
      simp only [Option.map_some, Option.some.injEq] at hx
      subst hx
      exact ⟨u, rfl⟩
theorem numQ_calls {ss : List (List Pc)} {n : Int} {S : List UInt8} {E : Int} (h : NumQ ss n S E) (hf : fitsB n = true) {w : World} (hle : Dat.LenOk w) (g cap : Nat) (G : List (Value × List Pc)) (W : World) (hs : SsAt W g cap G) (hG : G.map Prod.snd = ss) (hg : w.heap.size ≤ g)
    (hW : ∀ W', Below w.heap.size W W' → TabOk W' ∧ Below w.heap.size w W') :
    Calls Tryz.prog 10 #[.slice (some ⟨g, 0, none⟩) G.length cap, .int .i64 n] W fun e w' => e = .returned (.tuple #[.string ⟨S.toArray⟩, .int .i64 E]) ∧ Below w.heap.size W w' := by
  have sane : ∀ {u : Value} {ps : List Pc}, (leftG G)[chosenR (leftG G).length n]? = some (u, ps) → Sane ps := fun hu => ((left_at hs (grown_refl W g)).2 _ (List.mem_of_getElem? hu)).2
  cases h with
  | none h0 =>
    have : leftG G = [] := by
      have := left_map hG
      rw [h0] at this
      exact List.map_eq_nil_iff.1 this
    exact ofNumber_none w.heap.size g cap G n W hs hg (fun W' h => (hW W' h).1) this
  | day hx hk hd =>
    obtain ⟨_, h1, u, hu⟩ := left_get hG hx
    exact ofNumber_day w.heap.size g cap G n u _ _ _ W hs hg h1 hu hk fun W' h hp => ofDay_yes u _ n _ _ _ W' hp (sane hu) (hW W' h).1 (Dat.len_below hle (hW W' h).2) hd
  | noday hx hk hd =>
    obtain ⟨_, h1, u, hu⟩ := left_get hG hx
    exact ofNumber_day w.heap.size g cap G n u _ [] _ W hs hg h1 hu hk fun W' _ _ => ofDay_no u _ n W' hd
  | far hx hk hz hE =>
    obtain ⟨_, h1, u, hu⟩ := left_get hG hx
    exact ofNumber_far w.heap.size g cap G n u _ _ W hs hg h1 hu hk hf hz hE
  | num hx hk hz hm hn =>
    obtain ⟨hl, h1, u, hu⟩ := left_get hG hx
    exact ofNumber_plus w.heap.size g cap G n u _ _ W hs hg h1 hu hk hf hz hm (fun W' h => (hW W' h).1) (by rw [hl]; exact hn)
  | minus hx hk hz hm hn =>
    obtain ⟨hl, h1, u, hu⟩ := left_get hG hx
    exact ofNumber_minus w.heap.size g cap G n u _ _ W hs hg h1 hu hk hf hz hm (fun W' h => (hW W' h).1) (by rw [hl]; exact hn)
/-- What Apply tells. -/
inductive AppQ (l : List UInt8) (k n : Int) (s : ByteArray) (b : Bool) (c : Int) : List UInt8 → Int → Prop where
  | none : secsOpt l = none → AppQ l k n s b c [] 2
  | wrong {ss : List (List Pc)} : secsOpt l = some ss → checkV k n s b c = 2 → AppQ l k n s b c [] 2
  | fault {ss : List (List Pc)} : secsOpt l = some ss → checkV k n s b c = 0 → k = 4 → AppQ l k n s b c [] c
  | words {ss : List (List Pc)} : secsOpt l = some ss → checkV k n s b c = 0 → k = 2 ∨ k = 3 → AppQ l k n s b c (wordsSS ss (wordsV k n s b c).1) (wordsV k n s b c).2
  | number {ss : List (List Pc)} {S : List UInt8} {E : Int} : secsOpt l = some ss → checkV k n s b c = 0 → k = 0 ∨ k = 1 → NumQ ss n S E → AppQ l k n s b c S E
theorem words_len {k n : Int} {s : ByteArray} {b : Bool} {c : Int} (hk : k = 2 ∨ k = 3) (hv : checkV k n s b c = 0) : (wordsV k n s b c).1.length ≤ 5000 := by
  have hr : rightB k n s b c = true := by unfold checkV at hv; split at hv; · assumption
                                          · cases hv
  unfold wordsV
  rw [hr]
  simp only [Bool.true_eq_false, if_false]
  rcases hk with rfl | rfl
  · unfold rightB at hr
    simp at hr
    have h0 : s.data.toList.length = s.size := Array.length_toList
    have h1 := hr.1.1.2
    rw [if_neg (by decide), if_neg (by decide), if_neg (by decide)]
    show s.data.toList.length ≤ 5000
    omega
  · rw [if_neg (by decide), if_neg (by decide), if_pos rfl]
    cases b <;> decide
theorem num_fits {k n : Int} {s : ByteArray} {b : Bool} {c : Int} (hk : k = 0 ∨ k = 1) (hv : checkV k n s b c = 0) : fitsB n = true := by
  have hr : rightB k n s b c = true := by unfold checkV at hv; split at hv; · assumption
                                          · cases hv
  unfold rightB at hr
  rcases hk with rfl | rfl
  · simp at hr
    have := hr.1.1.1
    subst this
    decide
  · simp at hr
    exact hr.1.1.1
theorem Apply_any {l : List UInt8} {k n : Int} {s : ByteArray} {b : Bool} {c : Int} {S : List UInt8} {E : Int} (h : AppQ l k n s b c S E) (w : World) (hl : l.length ≤ 9223372036854775807) (hc : CellOk w) (ht : TabOk w) (hle : Dat.LenOk w) (hz : s.size ≤ maxLen) :
    Calls Tryz.prog 4 #[.string ⟨l.toArray⟩, .agg #[.int .i64 k, .int .i64 n, .string s, .bool b, .int .i64 c]] w fun e w' => e = .returned (.tuple #[.string ⟨S.toArray⟩, .int .i64 E]) ∧ Below w.heap.size w w' := by
  cases h with
  | none ho => exact Apply_none l k n s b c w hl hc ho
  | wrong ho hv => exact Apply_wrong l k n s b c _ w hl hc ho hz hv
  | fault ho hv hk => subst hk; exact Apply_fault l n s b _ _ w hl hc ho hz hv
  | words ho hv hk => exact Apply_words l k n s b c _ w hl hc ht ho hz hv hk (words_len hk hv)
  | number ho hv hk hn => exact Apply_number l k n s b c _ w hl hc ht ho hz hv hk S E fun g cap G W h1 h2 h3 h4 => numQ_calls hn (num_fits hk hv) hle g cap G W h1 h2 h3 h4
end Go.Proofs.YtnhaapcpklfkpaaGreatDoor
