/-
  The contracts of the answer's with and SameRects.
-/
import Derived.Test.YtijjnchedgllgaaDoorFmPc
import Derived.Deep.RegionHeld3
namespace Go.Proofs.YtijjnchedgllgaaDoor
open Go.RowKit Go.Shelf

theorem grown_trans {w w1 w2 : World} {a b : Option Nat} (h1 : w.grownBy w1 a) (h2 : w1.grownBy w2 b) (hb : ∀ g, b = some g → a = some g ∨ w.heap.size ≤ g) : w.grownBy w2 a :=
  ⟨h2.os.trans h1.os, h2.tape.trans h1.tape, h2.output.trans h1.output, Nat.le_trans h1.size h2.size, fun k hk hn => by
    rw [h2.block k (Nat.lt_of_lt_of_le hk h1.size) (fun e => by
      rcases hb k e.symm with h | h
      · exact hn h.symm
      · omega)]
    exact h1.block k hk hn⟩
theorem grown_of {w w' : World} (h : Below w.heap.size w w') (a : Option Nat) : w.grownBy w' a := ⟨h.os, h.tape, h.output, h.size, fun k hk _ => h.block k hk⟩
theorem grown_none {w w' : World} (h : w.grownBy w' none) (a : Option Nat) : w.grownBy w' a := ⟨h.os, h.tape, h.output, h.size, fun k hk _ => h.block k hk (by simp)⟩
theorem grown_below {w w' : World} (h : w.grownBy w' none) : Below w.heap.size w w' := ⟨h.os, h.tape, h.output, h.size, fun k hk => h.block k hk (by simp)⟩
/-- The law on append, with where the row is. -/
theorem wpList_append_at {P : Program} (w : World) {ops : Array Oper} {rest : List Oper} {o : Oper} {a : Act} {Q : Exit → Act → World → Prop} (hgd : o.guard = none) (s x : Operand) (t : TypeId)
    (ho : o.op = .call { callee := .builtin .append, args := #[s, x], argTypes := #[t, t] })
    (base : Nat) (e : TypeId) (i : TypeInfo) (z : Value) (size bytes : Nat) (ht : P.underlying t = some (.slice e)) (hi : P.info? e = some i) (hz : i.zero = some z)
    (hsize : i.size = size) (hby : i.bytes = bytes) (hzs : z.cells.size = size) (hsz : 0 < size)
    (v : Value) (n : Nat) (xs : List Value) (hs : a.eval s = v) (hown : w.ownsRow base e size v n xs)
    (ad : Addr) (m c : Nat) (news : List Value) (hx : a.eval x = .slice (some ad) m c) (hl : news.length = m * size) (hnews : ∀ j u, news[j]? = some u → w.cell? (ad.add j) = some u) (h1 : ∀ u ∈ news, u.oneCell' = true)
    (h63 : n + m ≤ maxLen) (hbytes : (n + m) * bytes ≤ 140737488355328) (hbase : base ≤ w.heap.size)
    (h : ∀ v' w', w'.ownsRow base e size v' (n + m) (xs ++ news) → w.grownBy w' v.ownBlock → (∀ g, v'.ownBlock = some g → v.ownBlock = some g ∨ w.heap.size ≤ g) → wpList P ops Q rest (a.put o.dst v') w') : wpList P ops Q (o :: rest) a w :=
  wpList_plain hgd fun K hK => by
    obtain ⟨v', w', hr, h2, h3, _⟩ := run_append_own (P := P) w base t o.type e i z size bytes ht hi hz hsize hby hzs hsz v n xs hown ad m c news hl hnews h1 h63 hbytes hbase
    have h5 := append_where (P := P) w base t o.type e i z size bytes ht hi hz hsize hby hzs hsz v n xs hown ad m c news hl hnews h1 h63 hbytes hr
    unfold Oper.wp execOp
    simp only [ho, resolve, invoke, builtin, Sem.run_bind, Sem.run_pure, Result.andThen_ok, List.map_toArray, List.map_cons, List.map_nil, hs, hx, hr]
    exact hK _ _ (h v' w' h2 h3 h5)
/-- Two rectangles are the same, or differ in one of four ways. -/
theorem rc_or (t l b r t' l' b' r' : Int) : ((t == t') = true ∧ (l == l') = true ∧ (b == b') = true ∧ (r == r') = true ∧ (t, l, b, r) = (t', l', b', r')) ∨ ((t, l, b, r) ≠ (t', l', b', r') ∧ (((t == t') = false) ∨ ((t == t') = true ∧ (l == l') = false) ∨ ((t == t') = true ∧ (l == l') = true ∧ (b == b') = false) ∨ ((t == t') = true ∧ (l == l') = true ∧ (b == b') = true ∧ (r == r') = false))) := by
  by_cases h1 : t = t'
  · by_cases h2 : l = l'
    · by_cases h3 : b = b'
      · by_cases h4 : r = r'
        · subst h1 h2 h3 h4; exact .inl ⟨by simp, by simp, by simp, by simp, rfl⟩
        · exact .inr ⟨by simp [h4], by simp [h1, h2, h3, h4]⟩
      · exact .inr ⟨by simp [h3], by simp [h1, h2, h3]⟩
    · exact .inr ⟨by simp [h2], by simp [h1, h2]⟩
  · exact .inr ⟨by simp [h1], by simp [h1]⟩
theorem addR_in {L : List (Int × Int × Int × Int)} {x : Int × Int × Int × Int} (h : x ∈ L) : addR L x = L := by unfold addR; rw [if_pos h]
theorem addR_out {L : List (Int × Int × Int × Int)} {x : Int × Int × Int × Int} (h : ∀ y ∈ L, y ≠ x) : addR L x = L ++ [x] := by unfold addR; rw [if_neg (fun hx => h x hx rfl)]
set_option maxRecDepth 100000 in
set_option maxHeartbeats 4000000 in
theorem with_any (L : List (Int × Int × Int × Int)) (t l b r : Int) (rv : Value) (w : World) (hl : L.length ≤ 5000) (hown : w.ownsRow 0 74 4 rv L.length (L.flatMap rcC)) :
    Calls Tryd.prog 47 #[rv, .agg #[.int .i64 t, .int .i64 l, .int .i64 b, .int .i64 r]] w fun e w' => ∃ rv', e = .returned rv' ∧ w'.ownsRow 0 74 4 rv' (addR L (t, l, b, r)).length ((addR L (t, l, b, r)).flatMap rcC) ∧ w.grownBy w' rv.ownBlock ∧ ∀ g, rv'.ownBlock = some g → rv.ownBlock = some g ∨ w.heap.size ≤ g := by
  obtain ⟨p, cap, rfl⟩ : ∃ p cap, rv = .slice p L.length cap := by
    rcases hown.2 with ⟨e, hn⟩ | ⟨g, cap, cur, e, _⟩
    · exact ⟨none, 0, by rw [e, hn]⟩
    · exact ⟨_, _, e⟩
  have hB0 : Below w.heap.size w (w.alloc (.cells #[.int .i64 t, .int .i64 l, .int .i64 b, .int .i64 r] 74)) := (Below.refl _ _).alloc (Nat.le_refl _) _
  have hk0 : (w.alloc (.cells #[.int .i64 t, .int .i64 l, .int .i64 b, .int .i64 r] 74)).heap[w.heap.size]? = some (.cells #[.int .i64 t, .int .i64 l, .int .i64 b, .int .i64 r] 74 (0, 0)) := World.alloc_heap_new w _
  have hz0 : (w.alloc (.cells #[.int .i64 t, .int .i64 l, .int .i64 b, .int .i64 r] 74)).heap.size = w.heap.size + 1 := by simp
  have HO := hide hown
  clear hown
  go_enter Tryd.func47, Tryd.ntmps47
  go_wp2
  generalize hW1 : w.alloc (.cells #[.int .i64 t, .int .i64 l, .int .i64 b, .int .i64 r] 74) = W1 at *
  clear hW1
  have HOW : Hid (∀ W, Below W1.heap.size W1 W → W.ownsRow 0 74 4 (.slice p L.length cap) L.length (L.flatMap rcC)) := fun W hW => HO.out.kept (grown_of (hB0.trans (hW.mono hB0.size)) none) (by cases (Value.slice p L.length cap).ownBlock <;> simp)
  have HR4 : Hid (∀ W, Below W1.heap.size W1 W → W.cell? ⟨w.heap.size, 0, none⟩ = some (.int .i64 t) ∧ W.cell? ⟨w.heap.size, 1, none⟩ = some (.int .i64 l) ∧ W.cell? ⟨w.heap.size, 2, none⟩ = some (.int .i64 b) ∧ W.cell? ⟨w.heap.size, 3, none⟩ = some (.int .i64 r)) := fun W hW => by
    have e : W.heap[w.heap.size]? = some (.cells #[.int .i64 t, .int .i64 l, .int .i64 b, .int .i64 r] 74 (0, 0)) := (hW.block _ (by omega)).trans hk0
    exact ⟨by simp [World.cell?, e], by simp [World.cell?, e], by simp [World.cell?, e], by simp [World.cell?, e]⟩
  have HBW := hide hB0
  clear hk0 hB0
  go_loopw [5] (fun iv wr => ∃ i : Nat, iv = .int .i64 i ∧ i ≤ L.length ∧ Below W1.heap.size W1 wr ∧ ∀ y ∈ L.take i, y ≠ (t, l, b, r)) (fun iv _ => L.length - (intOf iv).toNat)
  case atStart => exact ⟨0, rfl, Nat.zero_le _, Below.refl _ _, by simp⟩
  case round =>
    obtain ⟨i, rfl, hi, hB, hno⟩ := hrel
    have HNO := hide hno
    clear hno
    by_cases hlt : i < L.length
    · have g1 : (i : Int) < L.length := by omega
      obtain ⟨y, hy⟩ : ∃ y, L[i]? = some y := ⟨_, List.getElem?_eq_getElem hlt⟩
      obtain ⟨g, rfl⟩ : ∃ g, p = some ⟨g, 0, none⟩ := by
        rcases HO.out.2 with ⟨_, hn⟩ | ⟨g, cap', cur, e, _⟩
        · omega
        · cases e; exact ⟨g, rfl⟩
      have HC4 : Hid (∀ W, Below W1.heap.size W1 W → ∀ j, j < 4 → W.cell? ⟨g, i * 4 + j, none⟩ = (rcC y)[j]?) := fun W hW j hj => ((HOW.out W hW).cellAt (i * 4 + j) (by omega)).trans (flat_at _ i y hy j hj)
      have hmem : y ∈ L := List.mem_of_getElem? hy
      have htk : L.take (i + 1) = L.take i ++ [y] := by rw [List.take_add_one, hy]; rfl
      have HTK := hide htk
      have HME := hide hmem
      clear hy htk hmem
      obtain ⟨y1, y2, y3, y4⟩ := y
      have HS : Hid (∀ W, Below W1.heap.size W1 W → (fun W => Below W1.heap.size W1 W ∧ W.cell? ⟨g, i * 4, none⟩ = some (.int .i64 y1) ∧ W.cell? ⟨g, i * 4 + 1, none⟩ = some (.int .i64 y2) ∧ W.cell? ⟨g, i * 4 + 2, none⟩ = some (.int .i64 y3) ∧ W.cell? ⟨g, i * 4 + 3, none⟩ = some (.int .i64 y4) ∧ W.cell? ⟨w.heap.size, 0, none⟩ = some (.int .i64 t) ∧ W.cell? ⟨w.heap.size, 1, none⟩ = some (.int .i64 l) ∧ W.cell? ⟨w.heap.size, 2, none⟩ = some (.int .i64 b) ∧ W.cell? ⟨w.heap.size, 3, none⟩ = some (.int .i64 r)) W) := fun W hW => ⟨hW, HC4.out W hW 0 (by omega), HC4.out W hW 1 (by omega), HC4.out W hW 2 (by omega), HC4.out W hW 3 (by omega), (HR4.out W hW).1, (HR4.out W hW).2.1, (HR4.out W hW).2.2.1, (HR4.out W hW).2.2.2⟩
      have hs0 := HS.out wr hB
      have HBj := hide hB
      clear hB
      rcases rc_or y1 y2 y3 y4 t l b r with ⟨z1, z2, z3, z4, hx⟩ | ⟨hx, hz⟩
      · have HHit : Hid (addR L (t, l, b, r) = L) := addR_in (by rw [← hx]; exact HME.out)
        clear hx
        go_wp2
        go_region_held3 (fun W => Below W1.heap.size W1 W ∧ W.cell? ⟨g, i * 4, none⟩ = some (.int .i64 y1) ∧ W.cell? ⟨g, i * 4 + 1, none⟩ = some (.int .i64 y2) ∧ W.cell? ⟨g, i * 4 + 2, none⟩ = some (.int .i64 y3) ∧ W.cell? ⟨g, i * 4 + 3, none⟩ = some (.int .i64 y4) ∧ W.cell? ⟨w.heap.size, 0, none⟩ = some (.int .i64 t) ∧ W.cell? ⟨w.heap.size, 1, none⟩ = some (.int .i64 l) ∧ W.cell? ⟨w.heap.size, 2, none⟩ = some (.int .i64 b) ∧ W.cell? ⟨w.heap.size, 3, none⟩ = some (.int .i64 r)) (first | assumption | (refine HS.out _ ?_; exact HBj.out.drew)) (fail)
        all_goals go_wp2
        go_ret
        refine ⟨_, rfl, by rw [HHit.out]; exact HOW.out _ HBj.out.drew, grown_of (HBW.out.trans ((HBj.out.drew).mono HBW.out.size)) _, fun g hg => .inl hg⟩
      · have HNx : Hid (∀ y ∈ L.take (i + 1), y ≠ (t, l, b, r)) := fun y hy => by
          rw [HTK.out] at hy
          rcases List.mem_append.1 hy with h1 | h1
          · exact HNO.out y h1
          · rw [List.mem_singleton.1 h1]; exact hx
        clear hx
        rcases hz with z1 | ⟨z1, z2⟩ | ⟨z1, z2, z3⟩ | ⟨z1, z2, z3, z4⟩
        all_goals
          go_wp2
          go_region_held3 (fun W => Below W1.heap.size W1 W ∧ W.cell? ⟨g, i * 4, none⟩ = some (.int .i64 y1) ∧ W.cell? ⟨g, i * 4 + 1, none⟩ = some (.int .i64 y2) ∧ W.cell? ⟨g, i * 4 + 2, none⟩ = some (.int .i64 y3) ∧ W.cell? ⟨g, i * 4 + 3, none⟩ = some (.int .i64 y4) ∧ W.cell? ⟨w.heap.size, 0, none⟩ = some (.int .i64 t) ∧ W.cell? ⟨w.heap.size, 1, none⟩ = some (.int .i64 l) ∧ W.cell? ⟨w.heap.size, 2, none⟩ = some (.int .i64 b) ∧ W.cell? ⟨w.heap.size, 3, none⟩ = some (.int .i64 r)) (first | assumption | (refine HS.out _ ?_; exact HBj.out.drew)) (fail)
          go_wp2
          go_roundw
          case rel => exact ⟨i + 1, by go_num, by omega, HBj.out.drew, HNx.out⟩
          case measure => simp [intOf]; omega
    · have g1 : ¬ (i : Int) < L.length := by omega
      have hall : L.take i = L := List.take_of_length_le (by omega)
      have HOut : Hid (addR L (t, l, b, r) = L ++ [(t, l, b, r)]) := addR_out (by rw [← hall]; exact HNO.out)
      have hs0 := HR4.out wr hB
      have hsz := hB.size
      have HOA : Hid ((wr.alloc (.cells #[.int .i64 t, .int .i64 l, .int .i64 b, .int .i64 r] 74)).ownsRow 0 74 4 (.slice p L.length cap) L.length (L.flatMap rcC)) := (HOW.out wr hB).kept (World.grownBy_alloc wr _ none) (by cases (Value.slice p L.length cap).ownBlock <;> simp)
      have HGA : Hid (w.grownBy (wr.alloc (.cells #[.int .i64 t, .int .i64 l, .int .i64 b, .int .i64 r] 74)) (Value.slice p L.length cap).ownBlock) := grown_none (grown_trans (grown_of (HBW.out.trans (hB.mono HBW.out.size)) none) (World.grownBy_alloc wr _ none) (fun g hg => by cases hg)) _
      have HLe : Hid ((L ++ [(t, l, b, r)]).length = L.length + 1 ∧ (L ++ [(t, l, b, r)]).flatMap rcC = L.flatMap rcC ++ [.int .i64 t, .int .i64 l, .int .i64 b, .int .i64 r]) := ⟨by simp, by simp [rcC]⟩
      clear hall hB
      go_wp2_with (at_builtin; refine wpList_append_at _ rfl _ _ 48 rfl 0 74 rcI (.agg #[.int .i64 0, .int .i64 0, .int .i64 0, .int .i64 0]) 4 32 rows_under rcI_info rcI_zero rcI_size rcI_bytes rfl (by decide) _ _ _ rfl HOA.out ⟨wr.heap.size, 0, none⟩ 1 1 [.int .i64 t, .int .i64 l, .int .i64 b, .int .i64 r] rfl rfl (fun j u hj => cells_new wr _ _ j u hj) (by simp [Value.oneCell']) (by unfold maxLen; omega) (by omega) (by omega) ?_; intro v' wa hown' hgrow hwhere; obtain ⟨g', cap', rfl⟩ := ownsRow_succ hown'; have HOX := hide hown'; have HGX := hide hgrow; have HWX := hide hwhere; clear hown' hgrow hwhere)
      go_ret
      refine ⟨_, rfl, ?_, grown_trans HGA.out HGX.out (fun g hg => .inl hg), fun g hg => ?_⟩
      · rw [HOut.out, HLe.out.1, HLe.out.2]; exact HOX.out
      · rcases HWX.out g hg with h1 | h1
        · exact .inl h1
        · exact .inr (by simp at h1; omega)
set_option maxRecDepth 100000 in
set_option maxHeartbeats 4000000 in
theorem sameRects_any (L : List (Int × Int × Int × Int)) (v u : Value) (w : World) (hl : L.length ≤ 5000) (hv : Rcs w v L) (hu : Rcs w u L) :
    Calls Tryd.prog 16 #[v, u] w fun e w' => e = .returned (.bool true) ∧ Below w.heap.size w w' := by
  obtain ⟨p, cap, rfl, hp⟩ := hv
  obtain ⟨q, cup, rfl, hq⟩ := hu
  have HP := hide hp
  have HQ := hide hq
  clear hp hq
  go_enter Tryd.func16, Tryd.ntmps16
  go_wp2
  go_loopw [5] (fun iv wr => ∃ i : Nat, iv = .int .i64 i ∧ i ≤ L.length ∧ Below w.heap.size w wr) (fun iv _ => L.length - (intOf iv).toNat)
  case atStart => exact ⟨0, rfl, Nat.zero_le _, Below.refl _ _⟩
  case round =>
    obtain ⟨i, rfl, hi, hB⟩ := hrel
    by_cases hlt : i < L.length
    · have g1 : (i : Int) < L.length := by omega
      obtain ⟨z, hz⟩ : ∃ z, L[i]? = some z := ⟨_, List.getElem?_eq_getElem hlt⟩
      rcases HP.out with rfl | ⟨g, rfl, hg⟩
      · exact absurd hlt (by simp)
      rcases HQ.out with rfl | ⟨g', rfl, hg'⟩
      · exact absurd hlt (by simp)
      have HS : Hid (∀ W, Below w.heap.size w W → (fun W => Below w.heap.size w W ∧ W.cell? ⟨g, i * 4, none⟩ = some (.int .i64 z.1) ∧ W.cell? ⟨g, i * 4 + 1, none⟩ = some (.int .i64 z.2.1) ∧ W.cell? ⟨g, i * 4 + 2, none⟩ = some (.int .i64 z.2.2.1) ∧ W.cell? ⟨g, i * 4 + 3, none⟩ = some (.int .i64 z.2.2.2) ∧ W.cell? ⟨g', i * 4, none⟩ = some (.int .i64 z.1) ∧ W.cell? ⟨g', i * 4 + 1, none⟩ = some (.int .i64 z.2.1) ∧ W.cell? ⟨g', i * 4 + 2, none⟩ = some (.int .i64 z.2.2.1) ∧ W.cell? ⟨g', i * 4 + 3, none⟩ = some (.int .i64 z.2.2.2)) W) := fun W hW => by
        obtain ⟨a1, a2, a3, a4⟩ := hg W hW i z hz
        obtain ⟨b1, b2, b3, b4⟩ := hg' W hW i z hz
        exact ⟨hW, a1, a2, a3, a4, b1, b2, b3, b4⟩
      obtain ⟨y1, y2, y3, y4⟩ := z
      simp only at HS
      have hs0 := HS.out wr hB
      have HBj := hide hB
      clear hB hg hg' hz
      go_wp2
      go_region_held3 (fun W => Below w.heap.size w W ∧ W.cell? ⟨g, i * 4, none⟩ = some (.int .i64 y1) ∧ W.cell? ⟨g, i * 4 + 1, none⟩ = some (.int .i64 y2) ∧ W.cell? ⟨g, i * 4 + 2, none⟩ = some (.int .i64 y3) ∧ W.cell? ⟨g, i * 4 + 3, none⟩ = some (.int .i64 y4) ∧ W.cell? ⟨g', i * 4, none⟩ = some (.int .i64 y1) ∧ W.cell? ⟨g', i * 4 + 1, none⟩ = some (.int .i64 y2) ∧ W.cell? ⟨g', i * 4 + 2, none⟩ = some (.int .i64 y3) ∧ W.cell? ⟨g', i * 4 + 3, none⟩ = some (.int .i64 y4)) (first | assumption | (refine HS.out _ ?_; exact HBj.out.drew)) (fail)
      all_goals go_wp2
      go_roundw
      case rel => exact ⟨i + 1, by go_num, by omega, HBj.out.drew⟩
      case measure => simp [intOf]; omega
    · have g1 : ¬ (i : Int) < L.length := by omega
      have HBj := hide hB
      clear hB
      go_wp2
      go_ret
      exact ⟨rfl, HBj.out⟩
end Go.Proofs.YtijjnchedgllgaaDoor
