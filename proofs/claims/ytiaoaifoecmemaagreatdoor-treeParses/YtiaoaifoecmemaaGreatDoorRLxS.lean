/-
  The contract of lex.Scan.
-/
import Derived.Test.YtiaoaifoecmemaaGreatDoorRLxI
set_option maxRecDepth 100000
set_option maxHeartbeats 4000000
namespace Go.Proofs.YtiaoaifoecmemaaGreatDoor
open Go.RowKit Go.Shelf
attribute [local go_sem] Oper.semAt_some
def cellsT (ts : List Tok) : List Value := ts.flatMap tokC
def RowT (n₀ : Nat) (w : World) (v : Value) (ts : List Tok) : Prop := w.ownsRow n₀ 66 12 v ts.length (cellsT ts)
theorem info_tok : (Tryz.prog.info? 66).map (fun i => (i.zero, i.size, i.bytes)) = some (some (.agg #[.int .i64 0, .int .i64 0, .int .i64 0, .string ⟨#[]⟩, .bool false, .int .i64 0, .int .i64 0, .int .i64 0, .bool false, .bool false, .string ⟨#[]⟩, .int .i64 0]), 12, 104) := by kernel_rfl
theorem scan_long (s : ByteArray) (w : World) (hs : s.size ≤ maxLen) (h : 1024 < s.size) :
  Calls Tryz.prog 37 #[.string s] w fun e w' => e = .returned (.tuple #[.slice none 0 0, .int .i64 0, .int .i64 7]) ∧ Below w.heap.size w w' := by
 unfold maxLen at hs
 have g : (1024 : Int) < s.size := by omega
 go_enter Tryz.func37, Tryz.ntmps37
 go_wp2
 refine bodyPost_ret (v := .tuple #[.slice none 0 0, .int .i64 0, .int .i64 7]) (by simp [results, Tryz.results37, go_sem]) rfl ⟨rfl, ?_⟩
 repeat' (first | with_reducible (first | exact Below.refl _ _ | refine Below.setCell ?_ ?_ _ | refine Below.alloc ?_ ?_ _ | refine below_drewN ?_ _ | refine Below.drew ?_ | refine Below.trans ?_ (Below.mono (by assumption) ?_) | exact Nat.le_refl _ | refine Nat.le_trans ?_ (Below.size (by assumption)) | refine zzA ?_ | refine zzB ?_ | refine zzC ?_ | refine zzD ?_) | (simp; done) | (simp; omega) | omega)
theorem scan_ok {s : ByteArray} (h : s.size ≤ 1024) (h1 : ∀ y ∈ allG s.data.toList, y.2 = 0) : scanR s.data.toList = ((allG s.data.toList).map (fun x => x.1), 0, 0) := by
 have hl : s.data.toList.length = s.size := by simp
 unfold scanR
 rw [if_neg (by omega), bad_none h1]; rfl
theorem scan_no {s : ByteArray} (h : s.size ≤ 1024) {q : List (Tok × Int)} {x : Tok × Int} (hp : q ++ [x] <+: allG s.data.toList) (h1 : ∀ y ∈ q, y.2 = 0) (h0 : x.2 ≠ 0) : scanR s.data.toList = ([], x.1.pos, x.2) := by
 have hl : s.data.toList.length = s.size := by simp
 unfold scanR
 rw [if_neg (by omega), bad_some hp h1 h0]; rfl
theorem cells_new (W : World) (arr : Array Value) (t : TypeId) (j : Nat) (u : Value) (h : arr.toList[j]? = some u) : (W.alloc (.cells arr t)).cell? ((⟨W.heap.size, 0, none⟩ : Addr).add j) = some u := by
 have hadd : (⟨W.heap.size, 0, none⟩ : Addr).add j = ⟨W.heap.size, j, none⟩ := by unfold Addr.add; split <;> simp_all
 rw [hadd]
 have := World.alloc_heap_new W (.cells arr t)
 simp only [World.cell?, this]
 simpa using h
theorem scan_short (s : ByteArray) (w : World) (he : EnvL w) (h : s.size ≤ 1024) :
    Calls Tryz.prog 37 #[.string s] w fun e w' => ∃ v, e = .returned (.tuple #[v, .int .i64 (scanR s.data.toList).2.1, .int .i64 (scanR s.data.toList).2.2]) ∧ RowT w.heap.size w' v (scanR s.data.toList).1 ∧ Below w.heap.size w w' := by
  have g : ¬ (1024 : Int) < s.size := by omega
  obtain ⟨i0, hi, hz0, hz1, hz2⟩ := info_parts info_tok
  refine (callsIn_wide (n := 6)).1 ?_
  refine callsIn_of_wp_marks Tryz.func37 rfl trivial ?_ rfl
  simp only [Tryz.ntmps37, List.size_toArray, List.length_cons, List.length_nil, Nat.reduceAdd, Nat.reduceSub, Array.replicate_succ, Array.replicate_zero, List.push_toArray, List.append_toArray, List.nil_append, List.cons_append]
  gi_wp2_with (refine ⟨trivial, ?_⟩; gi_at_call 66; refine (callsIn_wide.2 (tokens_any _ _)).mono ?_; rintro e w' ⟨rfl, rfl⟩)
  have b1 := Boxed.new w 58 (.slice none 0 0)
  have b2 := Boxed.new (w.alloc (.cells #[.slice none 0 0] 58)) 3 (.int .i64 0)
  have b3 := Boxed.new ((w.alloc (.cells #[.slice none 0 0] 58)).alloc (.cells #[.int .i64 0] 3)) 35 (.int .i64 0)
  have b4 := Boxed.new (((w.alloc (.cells #[.slice none 0 0] 58)).alloc (.cells #[.int .i64 0] 3)).alloc (.cells #[.int .i64 0] 35)) 58 (.slice none 0 0)
  have b5 := Boxed.new ((((w.alloc (.cells #[.slice none 0 0] 58)).alloc (.cells #[.int .i64 0] 3)).alloc (.cells #[.int .i64 0] 35)).alloc (.cells #[.slice none 0 0] 58)) 9 (.string s)
  have B1 := (((b1.alloc (.cells #[.int .i64 0] 3)).alloc (.cells #[.int .i64 0] 35)).alloc (.cells #[.slice none 0 0] 58)).alloc (.cells #[.string s] 9)
  have B2 := ((b2.alloc (.cells #[.int .i64 0] 35)).alloc (.cells #[.slice none 0 0] 58)).alloc (.cells #[.string s] 9)
  have B3 := (b3.alloc (.cells #[.slice none 0 0] 58)).alloc (.cells #[.string s] 9)
  have B4 := b4.alloc (.cells #[.string s] 9)
  have hB0 : Below w.heap.size w (((((w.alloc (.cells #[.slice none 0 0] 58)).alloc (.cells #[.int .i64 0] 3)).alloc (.cells #[.int .i64 0] 35)).alloc (.cells #[.slice none 0 0] 58)).alloc (.cells #[.string s] 9)) := by
    repeat' (first | with_reducible (first | exact Below.refl _ _ | refine Below.setCell ?_ ?_ _ | refine Below.alloc ?_ ?_ _ | refine below_drewN ?_ _ | refine Below.drew ?_ | refine Below.trans ?_ (Below.mono (by assumption) ?_) | exact Nat.le_refl _ | refine Nat.le_trans ?_ (Below.size (by assumption)) | refine zzA ?_ | refine zzB ?_ | refine zzC ?_ | refine zzD ?_) | (simp; done) | (simp; omega) | omega)
  simp only [World.size_alloc] at B2 B3 B4 b5
  clear b1 b2 b3 b4
  obtain ⟨W0, hW0⟩ : ∃ W0, ((((w.alloc (.cells #[.slice none 0 0] 58)).alloc (.cells #[.int .i64 0] 3)).alloc (.cells #[.int .i64 0] 35)).alloc (.cells #[.slice none 0 0] 58)).alloc (.cells #[.string s] 9) = W0 := ⟨_, rfl⟩
  have hz : W0.heap.size = w.heap.size + 5 := by rw [← hW0]; simp
  rw [hW0] at B1 B2 B3 B4 b5 hB0 ⊢
  clear hW0
  have hrow0 : rowOf W0 (w.heap.size + 1 + 1 + 1) = none := by unfold rowOf; rw [B4.cell]; rfl
  have hIt : ItL w W0.heap.size (w.heap.size + 1 + 1 + 1) (w.heap.size + 1 + 1 + 1 + 1) s W0 := ⟨hB0, Nat.le_refl _, b5, fun g hg => by rw [hrow0] at hg; cases hg⟩
  refine wpIn_rangeFunc_ownH (α := Tok × Int) rfl (by omega) (gf := 96) (lb := #[.pointer (some ⟨w.heap.size + 1 + 1 + 1 + 1, 0, none⟩)]) rfl trivial (enters_of Tryz.func96 (by kernel_rfl) rfl)
    (tokens_stops 5 (by omega) (w.heap.size + 1 + 1 + 1) (w.heap.size + 1 + 1 + 1 + 1) s h w W0 he (by omega) (by omega) (by omega) hIt) KpL.trans (fun W l o o' hl hk hc _ => KpL.put (n₁ := W0.heap.size) (by omega) (by omega) W l o o' hl hk hc) (Below.refl _ _) (fun _ => rfl)
    (fun pre W => (∀ y ∈ pre, y.2 = 0) ∧ (∃ v, Boxed W (w.heap.size + 1 + 1 + 1) 58 v ∧ W.ownsRow w.heap.size 66 12 v pre.length (cellsT (pre.map fun y => y.1)) ∧ True) ∧ Boxed W (w.heap.size) 58 (.slice none 0 0) ∧ Boxed W (w.heap.size + 1) 3 (.int .i64 0) ∧ Boxed W (w.heap.size + 1 + 1) 35 (.int .i64 0) ∧ Below w.heap.size w W)
    (fun c pre W => (c = .ret ∧ ∃ (q : List (Tok × Int)) (x : Tok × Int), pre = q ++ [x] ∧ (∀ y ∈ q, y.2 = 0) ∧ x.2 ≠ 0) ∧ (∃ (p e : Int), (∃ (q : List (Tok × Int)) (x : Tok × Int), pre = q ++ [x] ∧ x.1.pos = p ∧ x.2 = e) ∧ Boxed W (w.heap.size) 58 (.slice none 0 0) ∧ Boxed W (w.heap.size + 1) 3 (.int .i64 p) ∧ Boxed W (w.heap.size + 1 + 1) 35 (.int .i64 e)) ∧ Below w.heap.size w W)
    ?hI ?hIx ⟨by simp, ⟨_, B4, World.ownsRow_nil _ _ _ _, trivial⟩, B1, B2, B3, hB0⟩
    (fun x a' W => ∃ Bx, W.heap[Bx]? = some (.cells (tokC x.1).toArray 66 (0, 0)) ∧ a' = { tmps := #[.string s, undef, .pointer (some ⟨w.heap.size, 0, none⟩), .pointer (some ⟨w.heap.size + 1, 0, none⟩), .pointer (some ⟨w.heap.size + 1 + 1, 0, none⟩), .pointer (some ⟨w.heap.size + 1 + 1 + 1, 0, none⟩), .pointer (some ⟨Bx, 0, none⟩), .int .i64 x.2, .string s, .int .i64 (s.size : Int), .bool false, .string s, .func (.func 96) #[] #[.pointer (some ⟨w.heap.size + 1 + 1 + 1 + 1, 0, none⟩)], tokV x.1, .int .i64 x.2, undef, undef, undef, undef, undef, undef, undef, undef, undef, undef], defers := [] })
    ?hAx ?assign ?body ?done ?stop
  case hI =>
    exact OwnFrom.and (ownFrom_pure _ (fun pre : List (Tok × Int) => ∀ y ∈ pre, y.2 = 0)) (OwnFrom.and (Own.from (holdsRow_own w.heap.size (w.heap.size + 1 + 1 + 1) 58 66 12 (fun pre : List (Tok × Int) => pre.length) (fun pre => cellsT (pre.map fun y => y.1)) (fun _ _ => True)) _) (OwnFrom.and (Own.from (boxed_own _ _ (fun _ => .slice none 0 0)) _) (OwnFrom.and (Own.from (boxed_own _ _ (fun _ => .int .i64 0)) _) (OwnFrom.and (Own.from (boxed_own _ _ (fun _ => .int .i64 0)) _) (ownFrom_below (Nat.le_refl _) (by omega))))))
  case hIx =>
    intro c
    refine OwnFrom.and (ownFrom_pure _ (fun pre : List (Tok × Int) => c = .ret ∧ ∃ (q : List (Tok × Int)) (x : Tok × Int), pre = q ++ [x] ∧ (∀ y ∈ q, y.2 = 0) ∧ x.2 ≠ 0)) (OwnFrom.and ?_ (ownFrom_below (Nat.le_refl _) (by omega)))
    rintro s' A A' row ⟨p, e, hq, h1, h2, h3⟩ hg hr
    exact ⟨p, e, hq, Own.from (boxed_own (β := Unit) _ _ (fun _ => .slice none 0 0)) W0.heap.size () A A' row h1 hg hr, Own.from (boxed_own (β := Unit) _ _ (fun _ => .int .i64 p)) W0.heap.size () A A' row h2 hg hr, Own.from (boxed_own (β := Unit) _ _ (fun _ => .int .i64 e)) W0.heap.size () A A' row h3 hg hr⟩
  case hAx =>
    rintro x a' _ A A' row ⟨Bx, h2, h3⟩ hg hr
    refine ⟨Bx, (hg.block Bx (Array.getElem?_eq_some_iff.1 h2).1 (fun e => ?_)).trans h2, h3⟩
    obtain ⟨_, o, ho, hc⟩ := hr Bx e.symm
    rw [h2] at ho
    cases ho
    cases hc
  case assign =>
    rintro l pre ⟨⟨t0, t1, t2, t3, t4, t5, t6, t7, t8, t9, t10, t11⟩, te⟩ W K ⟨h1, ⟨v, hv, hrow, _⟩, c1, c2, c3, hB⟩ hK
    have HK := hide hK
    have hW : w.heap.size + 4 ≤ W.heap.size := by have := hv.lt; omega
    clear hK
    simp only [encT, tokV, tokC]
    gi_wp2
    refine HK.out _ _ ((KeepsOthers.alloc _ _).from _) (KpL.alloc _ _ (by omega) (by omega)) ⟨h1, ⟨v, hv.alloc _, hrow.alloc _, trivial⟩, c1.alloc _, c2.alloc _, c3.alloc _, hB.alloc (by omega) _⟩ ⟨W.heap.size, World.alloc_heap_new W _, rfl⟩
  case body =>
    rintro l pre ⟨⟨t0, t1, t2, t3, t4, t5, t6, t7, t8, t9, t10, t11⟩, te⟩ a' W hl0 hr0 ⟨h1, ⟨v, hv, hrow, _⟩, c1, c2, c3, hB⟩ ⟨Bx, hx, rfl⟩ hlt
    simp only [tokV, tokC] at *
    have kx : ∀ o, W.cell? ⟨Bx, o, none⟩ = (#[.int .i64 t0, .int .i64 t1, .int .i64 t2, .string ⟨t3.toArray⟩, .bool t4, .int .i64 t5, .int .i64 t6, .int .i64 t7, .bool t8, .bool t9, .string ⟨t10.toArray⟩, .int .i64 t11] : Array Value)[o]? := fun o => by simp [World.cell?, hx]
    have q1 := c1.cell
    have q2 := c2.cell
    have q3 := c3.cell
    have p1 := c1.frozen
    have p2 := c2.frozen
    have p3 := c3.frozen
    have q4 := hv.cell
    by_cases h0 : te = 0
    · subst h0
      have hpl : pre.length + 1 ≤ 1025 := by
        have h2 : (allG s.data.toList).length ≤ s.data.toList.length + 1 := run_len _ _ _
        have h3 : s.data.toList.length = s.size := by simp
        omega
      have hW : w.heap.size + 4 ≤ W.heap.size := by have := hv.lt; omega
      gi_wp2_with (gi_at_builtin; refine wpListIn_append_at _ rfl _ _ 58 rfl w.heap.size 66 i0 (.agg #[.int .i64 0, .int .i64 0, .int .i64 0, .string ⟨#[]⟩, .bool false, .int .i64 0, .int .i64 0, .int .i64 0, .bool false, .bool false, .string ⟨#[]⟩, .int .i64 0]) 12 104 Tryz.underlying58 hi hz0 hz1 hz2 rfl (by decide) _ _ _ rfl (hrow.alloc _) ⟨W.heap.size, 0, none⟩ 1 1 [.int .i64 t0, .int .i64 t1, .int .i64 t2, .string ⟨t3.toArray⟩, .bool t4, .int .i64 t5, .int .i64 t6, .int .i64 t7, .bool t8, .bool t9, .string ⟨t10.toArray⟩, .int .i64 t11] rfl rfl ?cells (by simp [Value.oneCell']) (by unfold maxLen; omega) (by omega) (by simp; omega) ?_; rotate_left; intro v' w1 hown' hgrow hwhere; obtain ⟨g', cap', rfl⟩ := ownsRow_succ hown'; obtain ⟨hv1, hv2, hr2, hk2, hb2⟩ := hv.appended (by decide) hrow (by omega) (by omega) hown' hgrow; have hcc1 := hv1.cell; have hff1 := hv1.frozen)
      case cells => exact fun j u hj => cells_new W _ _ j u hj
      have hrw : rowOf W (w.heap.size + 1 + 1 + 1) = v.ownBlock := by unfold rowOf; rw [q4]; rfl
      have hkp : KpL w.heap.size (w.heap.size + 1 + 1 + 1) W (w1.setCell ⟨w.heap.size + 1 + 1 + 1, 0, none⟩ (.slice (some ⟨g', 0, none⟩) (pre.length + 1) cap')) := by
        refine ⟨hb2, fun b o hb hc hne hr => ?_, fun g hg => ?_⟩
        · have hbl := (Array.getElem?_eq_some_iff.1 hb).1
          rw [hrw] at hr
          have hw1 : w1.heap[b]? = some o := (hgrow.block b (by simp; omega) (fun e => hr e.symm)).trans ((Below.heap_alloc W _ b hbl).trans hb)
          exact (Below.heap_setCell _ _ _ b (fun e => hne (by rw [e]))).trans hw1
        · have h5 : rowOf (w1.setCell ⟨w.heap.size + 1 + 1 + 1, 0, none⟩ (.slice (some ⟨g', 0, none⟩) (pre.length + 1) cap')) (w.heap.size + 1 + 1 + 1) = Value.ownBlock (.slice (some ⟨g', 0, none⟩) (pre.length + 1) cap') := by unfold rowOf; rw [hv2.cell]; rfl
          rw [h5] at hg
          rw [hrw]
          rcases hwhere g hg with e | e
          · exact .inl e
          · exact .inr ⟨by simp at e; omega, (hr2.lt g hg).2⟩
      refine ⟨hk2.from _, hkp, fun y hy => ?_, ⟨_, hv2, ?_, trivial⟩, hkp.keep _ _ c1 rfl (by omega) (by rw [hrw]; exact fun e => c1.not_row (by decide) hrow e.symm), hkp.keep _ _ c2 rfl (by omega) (by rw [hrw]; exact fun e => c2.not_row (by decide) hrow e.symm), hkp.keep _ _ c3 rfl (by omega) (by rw [hrw]; exact fun e => c3.not_row (by decide) hrow e.symm), hB.trans hb2⟩
      · rcases List.mem_append.1 hy with e | e
        · exact h1 y e
        · simp at e; rw [e]
      · simpa [cellsT, tokC] using hr2
    · have e0 : (te == 0) = false := by simpa using h0
      gi_wp2
      have hmx : Tryz.prog.follows .mixedOrders = true := by kernel_rfl
      have x1 : Boxed (((W.setCell ⟨w.heap.size, 0, none⟩ (.slice none 0 0)).setCell ⟨w.heap.size + 1, 0, none⟩ (.int .i64 t11)).setCell ⟨w.heap.size + 1 + 1, 0, none⟩ (.int .i64 te)) w.heap.size 58 (.slice none 0 0) := ((c1.set _).other (by omega) _).other (by omega) _
      have x2 : Boxed (((W.setCell ⟨w.heap.size, 0, none⟩ (.slice none 0 0)).setCell ⟨w.heap.size + 1, 0, none⟩ (.int .i64 t11)).setCell ⟨w.heap.size + 1 + 1, 0, none⟩ (.int .i64 te)) (w.heap.size + 1) 3 (.int .i64 t11) := ((c2.other (by omega) _).set _).other (by omega) _
      have x3 : Boxed (((W.setCell ⟨w.heap.size, 0, none⟩ (.slice none 0 0)).setCell ⟨w.heap.size + 1, 0, none⟩ (.int .i64 t11)).setCell ⟨w.heap.size + 1 + 1, 0, none⟩ (.int .i64 te)) (w.heap.size + 1 + 1) 35 (.int .i64 te) := ((c3.other (by omega) _).other (by omega) _).set _
      have x4 : Below w.heap.size w (((W.setCell ⟨w.heap.size, 0, none⟩ (.slice none 0 0)).setCell ⟨w.heap.size + 1, 0, none⟩ (.int .i64 t11)).setCell ⟨w.heap.size + 1 + 1, 0, none⟩ (.int .i64 te)) := ((hB.setCell (p := ⟨w.heap.size, 0, none⟩) (Nat.le_refl _) _).setCell (p := ⟨w.heap.size + 1, 0, none⟩) (by simp) _).setCell (p := ⟨w.heap.size + 1 + 1, 0, none⟩) (by simp; omega) _
      have HX1 := hide x1
      have HX2 := hide x2
      have HX3 := hide x3
      have HX4 := hide x4
      clear x1 x2 x3 x4
      gi_region_with_o (fail)
      all_goals gi_wp2
      all_goals exact ⟨((((KeepsOthers.setCell _ _ _).trans (KeepsOthers.setCell _ _ _)).trans (KeepsOthers.setCell _ _ _)).trans (KeepsOthers.drew _)).from _, ⟨rfl, pre, _, rfl, h1, h0⟩, ⟨t11, te, ⟨pre, _, rfl, rfl, rfl⟩, HX1.out, HX2.out, HX3.out⟩, HX4.out.drew⟩
  case done =>
    rintro D ys W hD rfl ⟨h1, ⟨v, hv, hrow, _⟩, c1, c2, c3, hB⟩ hK
    have q1 := c1.cell
    have q2 := c2.cell
    have q3 := c3.cell
    have p1 := c1.frozen
    have p2 := c2.frozen
    have p3 := c3.frozen
    have q4 := hv.cell
    have HK := hide hK
    clear hK
    rcases hrow.2 with ⟨hv0, hn0⟩ | ⟨gb, cap, cur, hv0, hrest⟩
    all_goals
      obtain ⟨VV, hVV⟩ : ∃ VV, VV = v := ⟨_, rfl⟩
      rw [← hVV] at hv hrow
      rw [hv0] at q4
      have HV := hide (hVV.trans hv0)
      clear hVV hv0
      gi_wp2
      rw [← HV.out]
      have y1 := ((c1.set VV).other (B' := w.heap.size + 1) (by omega) (.int .i64 0)).other (B' := w.heap.size + 1 + 1) (by omega) (.int .i64 0)
      have y2 := ((c2.other (B' := w.heap.size) (by omega) VV).set (.int .i64 0)).other (B' := w.heap.size + 1 + 1) (by omega) (.int .i64 0)
      have y3 := ((c3.other (B' := w.heap.size) (by omega) VV).other (B' := w.heap.size + 1) (by omega) (.int .i64 0)).set (.int .i64 0)
      have y4 := ((hrow.kept (grownBy_setCell' W w.heap.size VV) (.inr (c1.not_row (by decide) hrow).symm)))
      have d2 := c2.other (B' := w.heap.size) (by omega) VV
      have y5 := y4.kept (grownBy_setCell' _ (w.heap.size + 1) (.int .i64 0)) (.inr (d2.not_row (by decide) y4).symm)
      have d3 := (c3.other (B' := w.heap.size) (by omega) VV).other (B' := w.heap.size + 1) (by omega) (.int .i64 0)
      have y6 := y5.kept (grownBy_setCell' _ (w.heap.size + 1 + 1) (.int .i64 0)) (.inr (d3.not_row (by decide) y5).symm)
      have y7 := ((hB.setCell (p := ⟨w.heap.size, 0, none⟩) (Nat.le_refl _) VV).setCell (p := ⟨w.heap.size + 1, 0, none⟩) (by simp) (.int .i64 0)).setCell (p := ⟨w.heap.size + 1 + 1, 0, none⟩) (by simp; omega) (.int .i64 0)
      have hKX := (((KeepsOthers.setCell W ⟨w.heap.size, 0, none⟩ VV).trans (KeepsOthers.setCell _ ⟨w.heap.size + 1, 0, none⟩ (.int .i64 0))).trans (KeepsOthers.setCell _ ⟨w.heap.size + 1 + 1, 0, none⟩ (.int .i64 0))).same D _ HK.out rfl
      refine ⟨by simp, .inl ⟨_, _, rfl, run_takeDeferred hKX, ?_⟩⟩
      have z1 := cell_kept y1.cell (grownBy_putObj' _ D (.deferred none)) (fun r e => by cases e; exact ⟨_, hKX, rfl⟩)
      have z2 := cell_kept y2.cell (grownBy_putObj' _ D (.deferred none)) (fun r e => by cases e; exact ⟨_, hKX, rfl⟩)
      have z3 := cell_kept y3.cell (grownBy_putObj' _ D (.deferred none)) (fun r e => by cases e; exact ⟨_, hKX, rfl⟩)
      have hfin := scan_ok h h1
      refine ⟨.tuple #[VV, .int .i64 0, .int .i64 0], ?_, VV, by rw [hfin], ?_, y7.trans (belowK_b (w := w) (Nat.le_refl _) _ D _ _ (by omega) hKX rfl rfl)⟩
      · simp [results, Tryz.results37, go_sem, z1, z2, z3]
      · rw [hfin]
        unfold RowT
        rw [List.length_map]
        exact ownsRow_putObj y6 _ hKX rfl
  case stop =>
    rintro D c pre W hD hpre ⟨⟨rfl, q, x, rfl, h1, h0⟩, ⟨p, e, ⟨q', x', hq', hp', he'⟩, c1, c2, c3⟩, hB⟩ hK
    obtain ⟨rfl, hx⟩ := List.append_inj' hq' rfl
    obtain rfl : x = x' := by simpa using hx
    subst hp' he'
    have HK := hide hK
    clear hK hq' hx
    gi_wp2
    refine ⟨by simp, .inl ⟨_, _, rfl, run_takeDeferred HK.out, ?_⟩⟩
    have z1 := cell_kept c1.cell (grownBy_putObj' _ D (.deferred none)) (fun r e => by cases e; exact ⟨_, HK.out, rfl⟩)
    have z2 := cell_kept c2.cell (grownBy_putObj' _ D (.deferred none)) (fun r e => by cases e; exact ⟨_, HK.out, rfl⟩)
    have z3 := cell_kept c3.cell (grownBy_putObj' _ D (.deferred none)) (fun r e => by cases e; exact ⟨_, HK.out, rfl⟩)
    have hfin := scan_no h hpre h1 h0
    refine ⟨.tuple #[.slice none 0 0, .int .i64 x.1.pos, .int .i64 x.2], ?_, .slice none 0 0, by rw [hfin], ?_, hB.trans (belowK_b (w := w) (Nat.le_refl _) _ D _ _ (by omega) HK.out rfl rfl)⟩
    · simp [results, Tryz.results37, go_sem, z1, z2, z3]
    · rw [hfin]
      exact World.ownsRow_nil _ _ _ _
theorem scan_any (s : ByteArray) (w : World) (he : EnvL w) (hs : s.size ≤ maxLen) :
    Calls Tryz.prog 37 #[.string s] w fun e w' => ∃ v, e = .returned (.tuple #[v, .int .i64 (scanR s.data.toList).2.1, .int .i64 (scanR s.data.toList).2.2]) ∧ RowT w.heap.size w' v (scanR s.data.toList).1 ∧ Below w.heap.size w w' := by
  by_cases h : s.size ≤ 1024
  · exact scan_short s w he h
  · refine (scan_long s w hs (by omega)).mono ?_
    rintro e w' ⟨rfl, hb⟩
    have hl : s.data.toList.length = s.size := by simp
    rw [show scanR s.data.toList = ([], 0, 7) by unfold scanR; rw [if_pos (by omega)]]
    exact ⟨_, rfl, World.ownsRow_nil _ _ _ _, hb⟩
end Go.Proofs.YtiaoaifoecmemaaGreatDoor
