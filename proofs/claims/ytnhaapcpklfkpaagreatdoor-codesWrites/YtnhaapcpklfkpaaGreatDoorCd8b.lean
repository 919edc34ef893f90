/-
  The sections of pieces, as they grow; what the loop of codes' read abides.
-/
import Derived.Test.YtnhaapcpklfkpaaGreatDoorCd8
namespace Go.Proofs.YtnhaapcpklfkpaaGreatDoor
open Go.RowKit Go.Shelf
attribute [local go_sem] Oper.semAt_some
set_option linter.unusedSimpArgs false

theorem secsF_snoc (ps : List Pc) (p : Pc) : secsF (ps ++ [p]) = if p.k = 5 then ((secsF ps).1 ++ [(secsF ps).2], []) else ((secsF ps).1, (secsF ps).2 ++ [p]) := by
  unfold secsF; rw [List.foldl_append]; rfl
theorem secsR_part {ps : List Pc} {p : Pc} (h : p.k = 5) : secsR (ps ++ [p]) = secsR ps ++ [[]] := by
  unfold secsR; rw [secsF_snoc, if_pos h]
theorem secsR_piece {ps : List Pc} {p : Pc} (h : p.k ≠ 5) : secsR (ps ++ [p]) = (secsF ps).1 ++ [(secsF ps).2 ++ [p]] := by
  unfold secsR; rw [secsF_snoc, if_neg h]
theorem secsR_small : ∀ (n : Nat) (ps : List Pc), ps.length ≤ n → (secsR ps).length ≤ n + 1 ∧ ∀ s ∈ secsR ps, s.length ≤ n
  | 0, ps, h => by
    have : ps = [] := List.eq_nil_of_length_eq_zero (by omega)
    subst this
    simp [secsR, secsF]
  | n + 1, ps, h => by
    rcases List.eq_nil_or_concat ps with rfl | ⟨qs, p, rfl⟩
    · simp [secsR, secsF]
    · have hq : qs.length ≤ n := by simp at h; omega
      obtain ⟨h1, h2⟩ := secsR_small n qs hq
      rw [List.concat_eq_append]
      by_cases hk : p.k = 5
      · rw [secsR_part hk]
        refine ⟨by simp; omega, fun s hs => ?_⟩
        rcases List.mem_append.1 hs with q | q
        · have := h2 s q; omega
        · simp at q; subst q; simp
      · rw [secsR_piece hk]
        have e : secsR qs = (secsF qs).1 ++ [(secsF qs).2] := rfl
        rw [e] at h1 h2
        refine ⟨by simp only [List.length_append, List.length_cons, List.length_nil] at h1 ⊢; omega, fun s hs => ?_⟩
        rcases List.mem_append.1 hs with q | q
        · have := h2 s (List.mem_append_left _ q); omega
        · simp at q
          subst q
          have := h2 (secsF qs).2 (by simp)
          simp; omega
theorem cnt_le (ps : List Pc) (k : Nat) : cntK ps k ≤ ps.length := by unfold cntK; exact List.length_filter_le _ _
/-- A piece that take takes. -/
def okP (p : Pc) : Bool := p.k != 1 || placeB p.t
/-- What holds ahead of a round. -/
def IR (n₀ B : Nat) (w : World) (pre : List Pc) (W : World) : Prop :=
  (∃ g cap G C, RS n₀ B W g cap G C ∧ G.map Prod.snd = secsR pre) ∧ pre.all okP = true ∧ Below n₀ w W ∧ CellOk W
theorem IR.below {n₀ B : Nat} {w : World} {pre : List Pc} {W W' : World} (h : IR n₀ B w pre W) (hn : n₀ ≤ W.heap.size) (k : Below W.heap.size W W') : IR n₀ B w pre W' := by
  obtain ⟨⟨g, cap, G, C, h1, h2⟩, h3, h4, h5⟩ := h
  exact ⟨⟨g, cap, G, C, h1.keep (KC.of_below k), h2⟩, h3, h4.trans (k.mono hn), cellOk_below h5 k⟩
theorem IR.size {n₀ B : Nat} {w : World} {pre : List Pc} {W : World} (h : IR n₀ B w pre W) (hw : n₀ ≤ w.heap.size) : n₀ ≤ W.heap.size := Nat.le_trans hw h.2.2.1.size
theorem cellOk_put {W : World} {l : Nat} {o o' : Obj} (h : CellOk W) (hl : W.heap[l]? = some o) (ho : o.isCells = false) : CellOk (W.putObj l o') := by
  obtain ⟨m, h⟩ := h
  exact ⟨m, (KC.put W hl ho).cell h⟩
theorem IR.put {n₀ B : Nat} {w : World} {pre : List Pc} {W : World} {l : Nat} {o o' : Obj} (h : IR n₀ B w pre W) (hw : n₀ ≤ w.heap.size) (hn : n₀ ≤ l) (hl : W.heap[l]? = some o) (ho : o.isCells = false) : IR n₀ B w pre (W.putObj l o') := by
  obtain ⟨⟨g, cap, G, C, h1, h2⟩, h3, h4, h5⟩ := h
  exact ⟨⟨g, cap, G, C, h1.keep (KC.put W hl ho), h2⟩, h3, h4.grown (grownBy_putObj' W l o') (Nat.le_trans hw h4.size) (fun k e => by cases e; exact hn), cellOk_put h5 hl ho⟩
theorem info_sec3 : (Tryz.prog.info? 66).map (fun i => (i.zero, i.size, i.bytes)) = some (some (.agg zeroSec.toArray), 12, 104) := by kernel_rfl
theorem opened_heap {n₀ B : Nat} {X WA w4 : World} {g cap : Nat} {G : List (Value × List Pc)} {C : Array Value} (h : RS n₀ B X g cap G C) (hA : Below X.heap.size X WA) (hg : WA.grownBy w4 (some g)) : w4.heap[B]? = some (.cells #[.slice (some ⟨g, 0, none⟩) G.length cap] 32 (0, 0)) := by
  have hB := (Array.getElem?_eq_some_iff.1 h.box).1
  rw [hg.block B (Nat.lt_of_lt_of_le hB hA.size) (fun e => h.ne (by injection e with e; exact e.symm)), hA.block B hB]
  exact h.box
theorem opened_box {n₀ B : Nat} {X WA w4 : World} {g cap : Nat} {G : List (Value × List Pc)} {C : Array Value} (h : RS n₀ B X g cap G C) (hA : Below X.heap.size X WA) (hg : WA.grownBy w4 (some g)) : w4.cell? ⟨B, 0, none⟩ = some (.slice (some ⟨g, 0, none⟩) G.length cap) := by
  simp [World.cell?, opened_heap h hA hg]
theorem opened_free {n₀ B : Nat} {X WA w4 : World} {g cap : Nat} {G : List (Value × List Pc)} {C : Array Value} (h : RS n₀ B X g cap G C) (hA : Below X.heap.size X WA) (hg : WA.grownBy w4 (some g)) : w4.frozen? ⟨B, 0, none⟩ = false := by
  simp [World.frozen?, opened_heap h hA hg]
theorem opened_below {n₀ : Nat} {w X WA w4 : World} {g cap : Nat} {G : List (Value × List Pc)} {C : Array Value} {v : Value} (h : RS n₀ (n₀ + 1) X g cap G C) (hA : Below X.heap.size X WA) (hg : WA.grownBy w4 (some g)) (hb : Below n₀ w X) : Below n₀ w (w4.setCell ⟨n₀ + 1, 0, none⟩ v) := by
  have hB : n₀ + 1 < X.heap.size := (Array.getElem?_eq_some_iff.1 h.box).1
  exact ((hb.trans (hA.mono (by omega))).grown hg (by have := hA.size; omega) (fun k e => by cases e; exact h.lt)).setCell (p := ⟨n₀ + 1, 0, none⟩) (by show n₀ ≤ n₀ + 1; omega) _
/-- What the append of a section leaves as it was. -/
theorem keeps_opened {m n₀ B : Nat} {X WA w4 : World} {g cap : Nat} {G : List (Value × List Pc)} {C : Array Value} {v : Value} (h : RS n₀ B X g cap G C) (hA : Below X.heap.size X WA) (hg : WA.grownBy w4 (some g)) : KeepsFrom m X (w4.setCell ⟨B, 0, none⟩ v) := by
  refine ⟨?_, fun k o _ hk ho => ?_⟩
  · rw [World.size_setCell]; exact Nat.le_trans hA.size hg.size
  · have hkX := (Array.getElem?_eq_some_iff.1 hk).1
    have h1 : k ≠ B := fun e => by rw [e, h.box] at hk; cases hk; cases ho
    have h2 : k ≠ g := fun e => by rw [e, h.row] at hk; cases hk; cases ho
    have e1 : (w4.setCell ⟨B, 0, none⟩ v).heap[k]? = w4.heap[k]? := by simp [World.setCell, Array.getElem?_modify, Ne.symm h1]
    rw [e1, hg.block k (Nat.lt_of_lt_of_le hkX hA.size) (fun e => h2 (by injection e)), hA.block k hkX]
    exact hk
theorem keeps_taken {m n₀ B : Nat} {X W : World} {g cap off : Nat} {G : List (Value × List Pc)} {C : Array Value} {u u' : Value} {ps : List Pc} {p : Pc} (h : RS n₀ B X g cap (G ++ [(u, ps)]) C) (t : Taken X W g off n₀ u ps p u') : KeepsFrom m X W := by
  refine ⟨t.size, fun k o _ hk ho => ?_⟩
  have hkX := (Array.getElem?_eq_some_iff.1 hk).1
  have h2 : k ≠ g := fun e => by rw [e, h.row] at hk; cases hk; cases ho
  rw [t.block k hkX h2 (fun e => ?_)]
  · exact hk
  · obtain ⟨D, hD⟩ := own_block (h.rows _ _ (snoc_last G (u, ps))) e
    rw [hD] at hk
    cases hk
    cases ho
theorem taken_box {n₀ B : Nat} {X W : World} {g cap off : Nat} {G : List (Value × List Pc)} {C : Array Value} {u u' v : Value} {ps : List Pc} {p : Pc} (h : RS n₀ B X g cap (G ++ [(u, ps)]) C) (t : Taken X W g off n₀ u ps p u') (c : X.cell? ⟨B, 0, none⟩ = some v) : W.cell? ⟨B, 0, none⟩ = some v := by
  have hB := (Array.getElem?_eq_some_iff.1 h.box).1
  exact (World.cell?_of_block (a := ⟨B, 0, none⟩) (t.block B hB (fun e => h.ne e.symm) (h.ub (snoc_last G (u, ps))))).trans c
theorem below_taken {n₀ B : Nat} {w X W : World} {g cap off : Nat} {G : List (Value × List Pc)} {C : Array Value} {u u' : Value} {ps : List Pc} {p : Pc} (h : RS n₀ B X g cap (G ++ [(u, ps)]) C) (t : Taken X W g off n₀ u ps p u') (hb : Below n₀ w X) (hn : n₀ ≤ w.heap.size) : Below n₀ w W := by
  have hX : n₀ ≤ X.heap.size := Nat.le_trans hn hb.size
  have : Below n₀ X W := ⟨t.os, t.tape, t.output, t.size, fun k hk => t.block k (Nat.lt_of_lt_of_le hk hX) (fun e => by have := h.lt; omega) (fun e => by have := ((h.rows _ _ (snoc_last G (u, ps))).lt k e).1; omega)⟩
  exact hb.trans this
theorem take_any (g off base : Nat) (u : Value) (ps : List Pc) (p : Pc) (w : World) (C : Array Value) (hC : w.heap[g]? = some (.cells C 66 (0, 0))) (h : SecAt w g off u ps) (hr : w.ownsRow base 93 2 u ps.length (ps.flatMap pcC)) (hug : u.ownBlock ≠ some g)
    (hk : p.k < 6) (ht : p.t.length ≤ 1000) (hc : CellOk w) (hl : ps.length ≤ 1000) (hbs : base ≤ w.heap.size) :
    Calls Tryz.prog 46 #[.pointer (some ⟨g, off, none⟩), .agg #[.int .i64 p.k, .string ⟨p.t.toArray⟩]] w fun e w' => (okP p = true ∧ e = .returned (.tuple #[]) ∧ ∃ u', Taken w w' g off base u ps p u') ∨ (okP p = false ∧ e = .panicked RF ∧ Below w.heap.size w w') := by
  have hn : ∀ k, cntK ps k ≤ 1000 := fun k => Nat.le_trans (cnt_le ps k) hl
  by_cases h1 : p.k = 1
  · obtain ⟨pk, pt⟩ := p
    simp only at *
    subst h1
    cases hp : placeB pt with
    | true => exact (take_number g off base u ps pt w C hC h hr hug hp ht hc hn hl hbs).mono fun e w' hh => .inl ⟨by simp [okP, hp], hh⟩
    | false => exact (take_wrong g off pt w hp ht hc).mono fun e w' hh => .inr ⟨by simp [okP, hp], hh⟩
  · exact (take_other g off base u ps p w C hC h hr hug h1 hk hn hl hbs).mono fun e w' hh => .inl ⟨by simp [okP, h1], hh⟩
theorem read_bad {l r : List UInt8} {pre : List Pc} (h : Rd l pre r) (hp : pre.all okP = false) : readR l = none := by
  unfold readR
  rw [rd_pieces h]
  cases piecesR r with
  | none => rfl
  | some xs =>
    simp only [Option.map_some]
    rw [if_neg]
    intro e
    simp only [Bool.and_eq_true, List.all_append] at e
    rw [show (pre.all fun p => p.k != 1 || placeB p.t) = pre.all okP from rfl, hp] at e
    simp at e
theorem leave_panic {P : Program} {fn : Func} {tmps : Array Value} {R : Ending → World → Prop} {D : Nat} {Y : World} {ch : List PanicEntry} (hd : Y.heap[D]? = some (.deferred (some []))) (h : R (.panicked ch) (Y.putObj D (.deferred none))) :
    LeavesInM Fence.wide 0 P fn tmps R [{ target := .collected D, args := #[] }] (.panicking ch) Y := ⟨by simp, .inl ⟨D, _, rfl, run_takeDeferred hd, h⟩⟩
theorem leave_ret {P : Program} {fn : Func} {tmps : Array Value} {R : Ending → World → Prop} {D : Nat} {Y : World} (hd : Y.heap[D]? = some (.deferred (some []))) (h : ∃ v, (results fn tmps).run P (Y.putObj D (.deferred none)) = .ok v (Y.putObj D (.deferred none)) ∧ R (.returned v) (Y.putObj D (.deferred none))) :
    LeavesInM Fence.wide 0 P fn tmps R [{ target := .collected D, args := #[] }] .returning Y := ⟨by simp, .inl ⟨D, _, rfl, run_takeDeferred hd, h⟩⟩
theorem read_ret {tmps : Array Value} {Z : World} {v : Value} (h : tmps.getD 2 undef = v) : (results Tryz.f25 tmps).run Tryz.prog Z = .ok v Z := by
  have h' : tmps[2]?.getD undef = v := by simpa using h
  simp [results, Tryz.results25, h', go_sem]
/-- What read tells. -/
def ReadQ (w : World) (o : Option (List (List Pc))) (e : Ending) (w' : World) : Prop :=
  Below w.heap.size w w' ∧ match o with
    | none => e = .panicked RF
    | some ss => ∃ g cap G C, e = .returned (.slice (some ⟨g, 0, none⟩) G.length cap) ∧ RS w.heap.size (w.heap.size + 1) w' g cap G C ∧ G.map Prod.snd = ss
theorem ReadQ.bad {w w' : World} {o : Option (List (List Pc))} (h : o = none) (hb : Below w.heap.size w w') : ReadQ w o (.panicked RF) w' := by subst h; exact ⟨hb, rfl⟩
theorem below_putD {n₀ : Nat} {w Y : World} {D : Nat} {o : Obj} (h : Below n₀ w Y) (hn : n₀ ≤ w.heap.size) (hD : n₀ ≤ D) : Below n₀ w (Y.putObj D o) :=
  h.grown (grownBy_putObj' Y D o) (Nat.le_trans hn h.size) (fun k e => by cases e; exact hD)
theorem read_at_end {l : List UInt8} {xs : List Pc} (h : Rd l xs []) (ha : xs.all okP = true) : readR l = if (secsR xs).length ≤ 3 ∧ (secsR xs).all rightS = true then some (secsR xs) else none := by
  unfold readR
  rw [rd_pieces h, pieces_nil]
  simp only [Option.map_some, List.append_nil]
  rw [show (xs.all fun p => p.k != 1 || placeB p.t) = xs.all okP from rfl, ha]
  by_cases h1 : (secsR xs).length ≤ 3 <;> simp [h1]
theorem first_world (l : List UInt8) (w : World) : (((w.alloc (.cells zeroSec.toArray 66)).alloc (.cells #[.slice (some ⟨w.heap.size, 0, none⟩) 1 1] 32)).alloc (.cells #[.string ⟨l.toArray⟩] 9)).cell? ⟨w.heap.size + 1 + 1, 0, none⟩ = some (.string ⟨l.toArray⟩) ∧
    RS w.heap.size (w.heap.size + 1) (((w.alloc (.cells zeroSec.toArray 66)).alloc (.cells #[.slice (some ⟨w.heap.size, 0, none⟩) 1 1] 32)).alloc (.cells #[.string ⟨l.toArray⟩] 9)) w.heap.size 1 [(.slice none 0 0, [])] zeroSec.toArray ∧
    Below w.heap.size w (((w.alloc (.cells zeroSec.toArray 66)).alloc (.cells #[.slice (some ⟨w.heap.size, 0, none⟩) 1 1] 32)).alloc (.cells #[.string ⟨l.toArray⟩] 9)) ∧
    w.heap.size + 3 ≤ (((w.alloc (.cells zeroSec.toArray 66)).alloc (.cells #[.slice (some ⟨w.heap.size, 0, none⟩) 1 1] 32)).alloc (.cells #[.string ⟨l.toArray⟩] 9)).heap.size := by
  have z1 : (w.alloc (.cells zeroSec.toArray 66)).heap.size = w.heap.size + 1 := World.size_alloc _ _
  have z2 : ((w.alloc (.cells zeroSec.toArray 66)).alloc (.cells #[.slice (some ⟨w.heap.size, 0, none⟩) 1 1] 32)).heap.size = w.heap.size + 1 + 1 := by rw [World.size_alloc, z1]
  have hb : Below w.heap.size w (((w.alloc (.cells zeroSec.toArray 66)).alloc (.cells #[.slice (some ⟨w.heap.size, 0, none⟩) 1 1] 32)).alloc (.cells #[.string ⟨l.toArray⟩] 9)) :=
    (((Below.refl _ w).alloc (Nat.le_refl _) _).alloc (by omega) _).alloc (by omega) _
  have e0 : (((w.alloc (.cells zeroSec.toArray 66)).alloc (.cells #[.slice (some ⟨w.heap.size, 0, none⟩) 1 1] 32)).alloc (.cells #[.string ⟨l.toArray⟩] 9)).heap[w.heap.size]? = some (.cells zeroSec.toArray 66) := by
    rw [Below.heap_alloc _ _ _ (by omega), Below.heap_alloc _ _ _ (by omega)]
    exact World.alloc_heap_new w _
  have e1 : (((w.alloc (.cells zeroSec.toArray 66)).alloc (.cells #[.slice (some ⟨w.heap.size, 0, none⟩) 1 1] 32)).alloc (.cells #[.string ⟨l.toArray⟩] 9)).heap[w.heap.size + 1]? = some (.cells #[.slice (some ⟨w.heap.size, 0, none⟩) 1 1] 32) := by
    rw [Below.heap_alloc _ _ _ (by omega)]
    have := World.alloc_heap_new (w.alloc (.cells zeroSec.toArray 66)) (.cells #[.slice (some ⟨w.heap.size, 0, none⟩) 1 1] 32)
    rwa [z1] at this
  have e2 : (((w.alloc (.cells zeroSec.toArray 66)).alloc (.cells #[.slice (some ⟨w.heap.size, 0, none⟩) 1 1] 32)).alloc (.cells #[.string ⟨l.toArray⟩] 9)).heap[w.heap.size + 1 + 1]? = some (.cells #[.string ⟨l.toArray⟩] 9) := by
    have := World.alloc_heap_new ((w.alloc (.cells zeroSec.toArray 66)).alloc (.cells #[.slice (some ⟨w.heap.size, 0, none⟩) 1 1] 32)) (.cells #[.string ⟨l.toArray⟩] 9)
    rwa [z2] at this
  have z3 : (((w.alloc (.cells zeroSec.toArray 66)).alloc (.cells #[.slice (some ⟨w.heap.size, 0, none⟩) 1 1] 32)).alloc (.cells #[.string ⟨l.toArray⟩] 9)).heap.size = w.heap.size + 3 := by rw [World.size_alloc, z2]
  generalize (((w.alloc (.cells zeroSec.toArray 66)).alloc (.cells #[.slice (some ⟨w.heap.size, 0, none⟩) 1 1] 32)).alloc (.cells #[.string ⟨l.toArray⟩] 9)) = W at *
  have one : ∀ (i : Nat) (x : Value × List Pc), [((.slice none 0 0, []) : Value × List Pc)][i]? = some x → i = 0 ∧ x = (.slice none 0 0, []) := fun i x hx => by
    match i, hx with
    | 0, hx => cases hx; exact ⟨rfl, rfl⟩
    | i + 1, hx => simp at hx
  refine ⟨by simp [World.cell?, e2], ⟨e1, Nat.le_refl _, e0, rfl, Nat.le_refl _, by unfold maxLen; omega, ⟨by omega, fun i x hx => ?_⟩, fun i x hx => ?_, fun i j x y hx hy hij => ?_⟩, hb, by omega⟩
  · obtain ⟨rfl, rfl⟩ := one i x hx
    exact ⟨by omega, fun j hj => by simp [World.cell?, e0, zero_sec]⟩
  · obtain ⟨rfl, rfl⟩ := one i x hx
    exact World.ownsRow_nil _ _ _ _
  · obtain ⟨rfl, rfl⟩ := one i x hx
    exact .inl rfl
set_option maxRecDepth 100000 in
set_option maxHeartbeats 4000000 in
theorem read_small (l : List UInt8) (w : World) (hl : l.length ≤ 60) (hc : CellOk w) :
    Calls Tryz.prog 25 #[.string ⟨l.toArray⟩] w (ReadQ w (readR l)) := by
  have sz := mk_size l
  have hl' : (l.length : Int) ≤ 60 := by omega
  refine (callsIn_wide (n := 0)).1 ?_
  refine callsIn_of_wp_marks Tryz.func25 rfl trivial ?_ rfl
  simp only [Tryz.ntmps25, List.size_toArray, List.length_cons, List.length_nil, Nat.reduceAdd, Nat.reduceSub, Array.replicate_succ, Array.replicate_zero, List.push_toArray, List.append_toArray, List.nil_append, List.cons_append]
  gi_wp2_with (refine ⟨trivial, rfl, ?_⟩; gi_at_call 45; refine (callsIn_wide.2 (pieces_any _ _)).mono ?_; rintro e w1 ⟨rfl, rfl⟩)
  generalize hW0 : (((w.alloc (.cells #[.slice none 0 0, .int .i64 0, .int .i64 0, .int .i64 0, .int .i64 0, .int .i64 0, .int .i64 0, .bool false, .bool false, .int .i64 0, .int .i64 0, .int .i64 0] 66)).alloc (.cells #[.slice (some ⟨w.heap.size, 0, none⟩) 1 1] 32)).alloc (.cells #[.string ⟨l.toArray⟩] 9)) = W0
  have hw0 := first_world l w
  rw [show zeroSec.toArray = #[.slice none 0 0, .int .i64 0, .int .i64 0, .int .i64 0, .int .i64 0, .int .i64 0, .int .i64 0, .bool false, .bool false, .int .i64 0, .int .i64 0, .int .i64 0] from rfl, hW0] at hw0
  obtain ⟨hIt, hRS0, hB0, z0⟩ := hw0
  have hI0 : IR w.heap.size (w.heap.size + 1) w [] W0 := ⟨⟨_, _, _, _, hRS0, rfl⟩, rfl, hB0, cellOk_below hc hB0⟩
  clear hRS0 hB0 hW0
  refine rangeP (α := Pc) ?hnd rfl (enters_of Tryz.func74 (by kernel_rfl) rfl) (pieces_seq (w.heap.size + 1 + 1) l (by omega)) (fun W hW => (hW.cell (p := ⟨w.heap.size + 1 + 1, 0, none⟩) (by show w.heap.size + 1 + 1 < W0.heap.size; omega)).trans hIt) (fun _ => rfl)
    (IR w.heap.size (w.heap.size + 1) w) (fun W => Below w.heap.size w W ∧ (readR l = none))
    (fun pre W h => h.2.2.2) (fun pre W W' h k => h.below (h.size (Nat.le_refl _)) k) ?hIo hI0
    (fun x a' X => ∃ Bx, w.heap.size + 1 < Bx ∧ X.heap[Bx]? = some (.cells (pcC x).toArray 93 (0, 0)) ∧ a' = { tmps := #[.string ⟨l.toArray⟩, undef, .slice none 0 0, .pointer (some ⟨w.heap.size + 1, 0, none⟩), .pointer (some ⟨Bx, 0, none⟩), undef, undef, .string ⟨l.toArray⟩, .int .i64 l.length, .bool (decide (60 < (l.length : Int))), undef, .agg #[.slice none 0 0, .int .i64 0, .int .i64 0, .int .i64 0, .int .i64 0, .int .i64 0, .int .i64 0, .bool false, .bool false, .int .i64 0, .int .i64 0, .int .i64 0], .slice (some ⟨w.heap.size, 0, none⟩) 1 1, .string ⟨l.toArray⟩, .func (.func 74) #[] #[.pointer (some ⟨w.heap.size + 1 + 1, 0, none⟩)], Value.agg #[.int .i64 x.k, .string ⟨x.t.toArray⟩], undef, undef, undef, undef, undef, undef, undef, undef, undef, undef, undef, undef, undef, undef, undef, undef, undef, undef, undef, undef, undef, undef, undef, undef, undef, undef, undef, undef, undef], defers := [] })
    ?hAx ?assign ?body ?dead ?done ?pan
  case hIo => exact fun pre W l o o' h h1 h2 h3 => h.put (Nat.le_refl _) (by omega) h2 h3
  case hAx =>
    rintro x a' W l o o' ⟨Bx, h1, h2, h3⟩ h4 h5 h6
    exact ⟨Bx, h1, (KC.put W h5 h6).2 _ _ _ _ h2, h3⟩
  case assign =>
    rintro lp pre ⟨pk, pt⟩ X K h1 hK
    have HK := hide hK
    have hsz := h1.size (Nat.le_refl _)
    have hB : w.heap.size + 1 < X.heap.size := by obtain ⟨⟨g, cap, G, C, h2, _⟩, _⟩ := h1; exact (Array.getElem?_eq_some_iff.1 h2.box).1
    clear hK
    simp only [pcV]
    gi_wp2
    exact HK.out _ _ ((Below.refl _ _).alloc (Nat.le_refl _) _) ⟨X.heap.size, hB, World.alloc_heap_new X _, rfl⟩
  case body =>
    rintro lp pre ⟨pk, pt⟩ a' X hg hi ⟨Bx, hx1, hx2, rfl⟩
    obtain ⟨⟨g, cap, G, C, hrs, hG⟩, hall, hbX, hcX⟩ := hi
    have cB : X.cell? ⟨w.heap.size + 1, 0, none⟩ = some (.slice (some ⟨g, 0, none⟩) G.length cap) := by simp [World.cell?, hrs.box]
    have fB : X.frozen? ⟨w.heap.size + 1, 0, none⟩ = false := by simp [World.frozen?, hrs.box]
    have x0 : X.cell? ⟨Bx, 0, none⟩ = some (.int .i64 pk) := by simp [World.cell?, hx2, pcC]
    have x1 : X.cell? ⟨Bx, 1, none⟩ = some (.string ⟨pt.toArray⟩) := by simp [World.cell?, hx2, pcC]
    dsimp only
    by_cases hk : pk = 5
    · subst hk
      have HRS := hide hrs
      have HX2 := hide hx2
      clear hrs hx2
      obtain ⟨i0, hinf, hz0, hz1, hz2⟩ := info_partsC info_sec3
      have hGl : G.length ≤ 62 := by
        obtain ⟨r, k, hrd, _⟩ := hg
        have h1 := (secsR_small _ pre (Nat.le_refl _)).1
        have h2 := rd_len hrd
        have h3 := congrArg List.length hG
        rw [List.length_map] at h3
        omega
      have hnX : w.heap.size ≤ X.heap.size := hbX.size
      have HA : Hid (Below X.heap.size X (X.alloc (.cells zeroSec.toArray 66))) := hide ((Below.refl _ _).alloc (Nat.le_refl _) _)
      have HO := hide (HRS.out.keep (KC.of_below HA.out)).owns
      have HGood := hide hg
      clear hg
      gi_wp2_with (gi_at_builtin; refine wpListIn_append_own _ rfl _ _ 32 rfl w.heap.size 66 i0 (.agg zeroSec.toArray) 12 104 Tryz.underlying32 hinf hz0 hz1 hz2 rfl (by decide) _ _ _ rfl HO.out ⟨X.heap.size, 0, none⟩ 1 1 zeroSec rfl rfl (fun j u hu => cells_newC X zeroSec.toArray 66 j u (by simpa using hu)) (by simp [zeroSec, Value.oneCell']) (by unfold maxLen; omega) (by omega) (by simp; omega) ?_; intro v' w4 ho4 hg4 _; obtain ⟨g', cap', C', rfl, hrs'⟩ := HRS.out.opened HA.out hg4 ho4; have c4 : w4.cell? ⟨w.heap.size + 1, 0, none⟩ = some (.slice (some ⟨g, 0, none⟩) G.length cap) := opened_box HRS.out HA.out hg4; have f4 : w4.frozen? ⟨w.heap.size + 1, 0, none⟩ = false := opened_free HRS.out HA.out hg4; have HRS2 := hide hrs'; have HK4 : Hid (KeepsFrom W0.heap.size X (w4.setCell ⟨w.heap.size + 1, 0, none⟩ (.slice (some ⟨g', 0, none⟩) (G.length + 1) cap'))) := keeps_opened HRS.out HA.out hg4; have HB4 : Hid (Below w.heap.size w (w4.setCell ⟨w.heap.size + 1, 0, none⟩ (.slice (some ⟨g', 0, none⟩) (G.length + 1) cap'))) := opened_below HRS.out HA.out hg4 hbX; clear hrs' ho4 hg4)
      refine ⟨rfl, HK4.out, ⟨g', cap', _, C', HRS2.out, ?_⟩, ?_, HB4.out, cellOk_below hc HB4.out⟩
      · rw [secsR_part rfl, ← hG]; simp
      · simp [hall, okP]
    · have hk1 : ((pk : Int) == 5) = false := by rw [beq_eq_false_iff_ne]; omega
      have HRS := hide hrs
      have HX2 := hide hx2
      clear hrs hx2
      gi_wp2
      obtain ⟨r, kk, hrd, hfr⟩ := hg
      have hp6 : pk < 6 := by have := first_kind hfr; simp only at this; omega
      have hpt : pt.length ≤ 60 := by have h1 := (first_len hfr).2; have h2 := rd_len hrd; simp only at h1; omega
      have hpl : pre.length ≤ 60 := by have h2 := rd_len hrd; omega
      obtain ⟨hs1, hs2⟩ := secsR_small 60 pre hpl
      obtain ⟨G, ⟨u, ps⟩, rfl⟩ : ∃ G0 x, G = G0 ++ [x] := by
        rcases List.eq_nil_or_concat G with rfl | ⟨G0, x, rfl⟩
        · have h3 := congrArg List.length hG
          simp [secsR] at h3
        · exact ⟨G0, x, List.concat_eq_append⟩
      have hps : ps.length ≤ 60 := hs2 ps (by rw [← hG]; simp)
      have hGl : G.length ≤ 60 := by
        have h3 := congrArg List.length hG
        rw [List.length_map] at h3
        simp at h3
        omega
      have hsec : secsR (pre ++ [⟨pk, pt⟩]) = (G ++ [(u, ps ++ [(⟨pk, pt⟩ : Pc)])]).map Prod.snd := by
        rw [secsR_piece hk]
        have e : secsR pre = (secsF pre).1 ++ [(secsF pre).2] := rfl
        rw [e, List.map_append] at hG
        obtain ⟨e1, e2⟩ := List.append_inj' hG rfl
        simp at e2
        rw [← e1, ← e2]
        simp
      have hRX := HRS.out.keep (KC.of_below (below_drewC X))
      have hlast := snoc_last G (u, ps)
      have hbd : Below w.heap.size w X.drew := hbX.drew
      have HT := hide (take_any g (G.length * 12) w.heap.size u ps ⟨pk, pt⟩ X.drew C hRX.row (hRX.secs.2 _ _ hlast) (hRX.rows _ _ hlast) (hRX.ug hlast) hp6 (by show pt.length ≤ 1000; omega) (cellOk_below hc hbd) (by omega) hbd.size)
      have HRX := hide hRX
      have HRD := hide (hrd.more hfr)
      have HSec := hide hsec
      have HAll := hide hall
      have hm : Tryz.prog.follows .mixedOrders = true := by kernel_rfl
      have cD : X.drew.cell? ⟨w.heap.size + 1, 0, none⟩ = some (.slice (some ⟨g, 0, none⟩) (G.length + 1) cap) := by simpa using cB
      have y0 : X.drew.cell? ⟨Bx, 0, none⟩ = some (.int .i64 pk) := x0
      have y1 : X.drew.cell? ⟨Bx, 1, none⟩ = some (.string ⟨pt.toArray⟩) := x1
      have hGi : (G.length : Int) ≤ 60 := by omega
      clear hRX hrd hfr hsec hs1 hs2 hG hall HRS cB fB x0 x1 hps
      intro t
      rw [hm]
      refine wpAny_sound _ _ _ _ _ (wpAny_of_held (S := fun W => W.cell? ⟨w.heap.size + 1, 0, none⟩ = some (.slice (some ⟨g, 0, none⟩) (G.length + 1) cap)) _ _ _ _ ?_)
      change wpAnyH _ _ _ _ _ _ _ _ X.drew
      have hHeld := cD
      have hwr : IntKind.i64.wrap (G.length : Int) = G.length := by rw [IntKind.wrap_i64]; omega
      have hlt : (G.length : Int) < (G.length : Int) + 1 := by omega
      (refine takeD (i := 0) (some 23) rfl rfl (by kernel_rfl) (by kernel_rfl) (by kernel_rfl) (fun _ _ _ h => h) (v := ?_) rfl ?_ (by assumption) ?_; rotate_left; (focus (intro w hSw; (try dsimp only at hSw); first | (go_simp; done) | (go_simp; with_reducible rfl))); try simp only [Act.put, List.setIfInBounds_toArray, List.set_cons_zero, List.set_cons_succ]); (refine takeD (i := 1) (some 24) rfl rfl (by kernel_rfl) (by kernel_rfl) (by kernel_rfl) (fun _ _ _ h => h) (v := ?_) rfl ?_ (by assumption) ?_; rotate_left; (focus (intro w hSw; (try dsimp only at hSw); first | (go_simp; done) | (go_simp; with_reducible rfl))); try simp only [Act.put, List.setIfInBounds_toArray, List.set_cons_zero, List.set_cons_succ]); (refine takeD (i := 2) (some 25) rfl rfl (by kernel_rfl) (by kernel_rfl) (by kernel_rfl) (fun _ _ _ h => h) (v := ?_) rfl ?_ (by assumption) ?_; rotate_left; (focus (intro w hSw; (try dsimp only at hSw); first | (go_simp; done) | (go_simp; with_reducible rfl))); try simp only [Act.put, List.setIfInBounds_toArray, List.set_cons_zero, List.set_cons_succ]); (refine takeD (i := 3) (some 26) rfl rfl (by kernel_rfl) (by kernel_rfl) (by kernel_rfl) (fun _ _ _ h => h) (v := ?_) rfl ?_ (by assumption) ?_; rotate_left; (focus (intro w hSw; (try dsimp only at hSw); first | (go_simp; done) | (go_simp; with_reducible rfl))); try simp only [Act.put, List.setIfInBounds_toArray, List.set_cons_zero, List.set_cons_succ]); (refine takeD (i := 4) (some 27) rfl rfl (by kernel_rfl) (by kernel_rfl) (by kernel_rfl) (fun _ _ _ h => h) (v := ?_) rfl ?_ (by assumption) ?_; rotate_left; (focus (intro w hSw; (try dsimp only at hSw); first | (go_simp; done) | (go_simp; with_reducible rfl))); try simp only [Act.put, List.setIfInBounds_toArray, List.set_cons_zero, List.set_cons_succ])
      refine wpAnyH_ready (rs := [5]) (by kernel_rfl) (by simp) ?_
      refine readyC (o := _) rfl rfl (fun K hK => ?_) AllReadyH.nil
      go_simp
      refine hK.out _ _ cD (fun hHeld => ?_)
      clear hK K
      try simp only [Act.put, List.setIfInBounds_toArray, List.set_cons_zero, List.set_cons_succ]
      refine wpAnyH_ready (rs := [6]) (by kernel_rfl) (by simp) ?_
      refine readyC (o := _) rfl rfl (fun K hK => ?_) AllReadyH.nil
      go_simp
      (go_at_call 46; refine HT.out.mono ?_; rintro e w1 (⟨hok, rfl, u', htk⟩ | ⟨hok, rfl, hb1⟩))
      · have cE : w1.cell? ⟨w.heap.size + 1, 0, none⟩ = some (.slice (some ⟨g, 0, none⟩) (G.length + 1) cap) := taken_box HRX.out htk cD
        refine hK.out _ _ cE (fun hHeld => ?_)
        clear hK K
        refine wpAnyH_done (by kernel_rfl) ?_ _
        obtain ⟨C', hrs'⟩ := HRX.out.taken htk
        have hb' := below_taken HRX.out htk hbd (Nat.le_refl _)
        exact ⟨KeepsFrom.trans (keeps_of (below_drewC X)) (keeps_taken HRX.out htk), ⟨_, _, _, _, hrs', by rw [HSec.out]; simp⟩, by simp [HAll.out, hok], hb', cellOk_below hc hb'⟩
      · exact ⟨rfl, rfl, KeepsFrom.trans (keeps_of (below_drewC X)) (keeps_of hb1), hbd.trans (hb1.mono hbd.size), read_bad HRD.out (by simp [HAll.out, hok])⟩
  case hnd =>
    intro i o h c hc
    match i, h with
    | 0, h => cases h; cases hc
    | 1, h => cases h; cases hc
    | 2, h => cases h; cases hc
    | 3, h => cases h; cases hc
    | 4, h => cases h; cases hc
    | 5, h => cases h; cases hc
    | 6, h => cases h; cases hc
    | i + 7, h => simp at h
  case dead =>
    rintro pre W ⟨r, hr1, hr2, hr3⟩ hi
    refine ⟨hi.2.2.1, ?_⟩
    unfold readR
    rw [rd_pieces hr1, pieces_none hr2 hr3]
    rfl
  case done =>
    rintro D xs X hD hrd ⟨⟨g, cap, G, C, hrs, hG⟩, hall, hbX, hcX⟩ hm
    dsimp only
    have cB : X.cell? ⟨w.heap.size + 1, 0, none⟩ = some (.slice (some ⟨g, 0, none⟩) G.length cap) := by simp [World.cell?, hrs.box]
    have hGl : (G.length : Int) ≤ 62 := by
        have h1 := (secsR_small _ xs (Nat.le_refl _)).1
        have h2 := rd_len hrd
        have h3 := congrArg List.length hG
        rw [List.length_map] at h3
        omega
    have hbD : w.heap.size ≤ D := by omega
    have HM := hide hm
    have HRS := hide hrs
    have HB := hide hbX
    have hend := read_at_end hrd hall
    rw [← hG] at hend
    have HE := hide hend
    have hps : ∀ (i : Nat) (x : Value × List Pc), G[i]? = some x → x.2.length ≤ 60 := fun i x hx => by
      have h1 := (secsR_small _ xs (Nat.le_refl _)).2 x.2 (by rw [← hG]; exact List.mem_map.2 ⟨x, List.mem_of_getElem? hx, rfl⟩)
      have h2 := rd_len hrd
      omega
    have HPS := hide hps
    clear hm hrs hbX hend hps hG hall hrd hcX
    gi_wp2_with (refine ⟨trivial, rfl, ?_⟩; gi_at_call 47; refine (callsIn_wide.2 (refuse_any _)).mono ?_; rintro e w5 ⟨rfl, rfl⟩)
    · have hG3 : ¬ (List.map Prod.snd G).length ≤ 3 := by rw [List.length_map]; omega
      exact leave_panic HM.out (ReadQ.bad (by rw [HE.out, if_neg (fun h => hG3 h.1)]) (below_putD HB.out (Nat.le_refl _) hbD))
    · gi_loopw [36] (fun is wr => ∃ i : Nat, i ≤ G.length ∧ is = .int .i64 i ∧ (∀ (j : Nat) (x : Value × List Pc), j < i → G[j]? = some x → rightS x.2 = true) ∧ Below X.heap.size X wr) (fun is _ => G.length - (intOf is).toNat)
      case atStart => exact ⟨0, Nat.zero_le _, rfl, fun j x hj => absurd hj (by omega), Below.refl _ _⟩
      case round =>
        obtain ⟨i, hi, rfl, hno, hb⟩ := hrel
        have HN := hide hno
        have HBr := hide hb
        have hrs2 := HRS.out.keep (KC.of_below hb)
        have HRS2 := hide hrs2
        have HM2 : Hid (wr.heap[D]? = some (.deferred (some []))) := (hb.block D (Array.getElem?_eq_some_iff.1 HM.out).1).trans HM.out
        have HB2 : Hid (Below w.heap.size w wr) := HB.out.trans (hb.mono HB.out.size)
        clear hno hb hrs2 cB HRS HM HB
        by_cases hlt : i < G.length
        · have hx := List.getElem?_eq_getElem hlt
          obtain ⟨c0, c1, c2, c3, c4, c5, c6, c7, c8, c9, c10, c11⟩ := (HRS2.out.secs.2 i _ hx).all
          have HX := hide hx
          clear hx
          generalize G[i] = x at *
          obtain ⟨u, ps⟩ := x
          obtain ⟨q1, q2, q3, rfl⟩ : ∃ q1 q2 q3, u = .slice q1 q2 q3 := by
            rcases (HRS2.out.rows i _ HX.out).2 with ⟨e, _⟩ | ⟨b, c, _, e, _⟩
            · exact ⟨_, _, _, e⟩
            · exact ⟨_, _, _, e⟩
          simp only at c0 c1 c2 c3 c4 c5 c6 c7 c8 c9 c10 c11
          have HP := hide (cright_any wr.heap.size 0 (.slice q1 q2 q3) ps _ (secAt_new wr (.slice q1 q2 q3) ps) (fun k => Nat.le_trans (cnt_le ps k) (by have := HPS.out i _ HX.out; simp only at this; omega)))
          simp only [secC, cn] at HP
          cases hb : rightS ps
          · rw [hb] at HP
            have HB3 := hide hb
            clear hb
            gi_wp2_with (first | (refine ⟨trivial, rfl, ?_⟩; gi_at_call 48; refine (callsIn_wide.2 HP.out).mono ?_; rintro e w1 ⟨rfl, n9, rfl⟩) | (refine ⟨trivial, rfl, ?_⟩; gi_at_call 47; refine (callsIn_wide.2 (refuse_any _)).mono ?_; rintro e w5 ⟨rfl, rfl⟩))
            have hGa : ¬ (List.map Prod.snd G).all rightS = true := fun e => by
              rw [List.all_eq_true] at e
              have := e ps (List.mem_map.2 ⟨_, List.mem_of_getElem? HX.out, rfl⟩)
              rw [HB3.out] at this
              cases this
            have hbz : Below wr.heap.size wr ((wr.alloc (.cells (secC (.slice q1 q2 q3) ps).toArray 66)).drewN n9) := below_drewN ((Below.refl _ _).alloc (Nat.le_refl _) _) _
            exact leave_panic ((hbz.block D (Array.getElem?_eq_some_iff.1 HM2.out).1).trans HM2.out) (ReadQ.bad (by rw [HE.out, if_neg (fun h => hGa h.2)]) (below_putD (HB2.out.trans (hbz.mono HB2.out.size)) (Nat.le_refl _) hbD))
          · rw [hb] at HP
            have HB3 := hide hb
            clear hb
            gi_wp2_with (first | (refine ⟨trivial, rfl, ?_⟩; gi_at_call 48; refine (callsIn_wide.2 HP.out).mono ?_; rintro e w1 ⟨rfl, n9, rfl⟩))
            have hbz : Below wr.heap.size wr ((wr.alloc (.cells (secC (.slice q1 q2 q3) ps).toArray 66)).drewN n9) := below_drewN ((Below.refl _ _).alloc (Nat.le_refl _) _) _
            refine ⟨⟨i + 1, by omega, by go_num, fun j x hj hx => ?_, HBr.out.trans (hbz.mono HBr.out.size)⟩, by simp [intOf]; omega⟩
            by_cases e : j = i
            · subst e
              rw [HX.out] at hx
              cases hx
              exact HB3.out
            · exact HN.out j x (by omega) hx
        · have cB : wr.cell? ⟨w.heap.size + 1, 0, none⟩ = some (.slice (some ⟨g, 0, none⟩) G.length cap) := by simp [World.cell?, HRS2.out.box]
          gi_wp2
          have hG3 : (List.map Prod.snd G).length ≤ 3 := by rw [List.length_map]; omega
          have hGa : (List.map Prod.snd G).all rightS = true := by
            rw [List.all_eq_true]
            intro s hs
            obtain ⟨x, hx, rfl⟩ := List.mem_map.1 hs
            obtain ⟨j, hj⟩ := List.mem_iff_getElem?.1 hx
            exact HN.out j x (by have := (List.getElem?_eq_some_iff.1 hj).1; omega) hj
          refine leave_ret HM2.out ⟨_, read_ret rfl, below_putD HB2.out (Nat.le_refl _) hbD, ?_⟩
          rw [HE.out, if_pos ⟨hG3, hGa⟩]
          exact ⟨g, cap, G, C, rfl, HRS2.out.keep (KC.put wr HM2.out rfl), rfl⟩
  case pan =>
    rintro D X hD ⟨hb, hn⟩ hm
    exact leave_panic hm (ReadQ.bad hn (below_putD hb (Nat.le_refl _) (by omega)))
/-- The panic of a text that is too long. -/
def RB : List PanicEntry := [{ v := .iface 57 (.int .i64 7), recovered := false }]
set_option maxRecDepth 100000 in
set_option maxHeartbeats 4000000 in
theorem read_big (l : List UInt8) (w : World) (hl : 60 < l.length) (hl2 : l.length ≤ 9223372036854775807) :
    Calls Tryz.prog 25 #[.string ⟨l.toArray⟩] w fun e w' => e = .panicked RB ∧ Below w.heap.size w w' := by
  have sz := mk_size l
  have hl' : (60 : Int) < (l.length : Int) := by omega
  refine (callsIn_wide (n := 0)).1 ?_
  refine callsIn_of_wp_marks Tryz.func25 rfl trivial ?_ rfl
  simp only [Tryz.ntmps25, List.size_toArray, List.length_cons, List.length_nil, Nat.reduceAdd, Nat.reduceSub, Array.replicate_succ, Array.replicate_zero, List.push_toArray, List.append_toArray, List.nil_append, List.cons_append]
  gi_wp2
  exact ⟨rfl, Below.refl _ _⟩
end Go.Proofs.YtnhaapcpklfkpaaGreatDoor
