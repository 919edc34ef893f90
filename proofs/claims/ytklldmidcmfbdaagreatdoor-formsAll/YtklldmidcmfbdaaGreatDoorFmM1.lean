/-
  A map of rectangles that the call makes: what it holds, how a count goes up; append's law within a fence.
-/
import Derived.Test.YtklldmidcmfbdaaGreatDoorFmX
import Derived.Test.YtklldmidcmfbdaaGreatDoorFmL
import Derived.DeepKeys4
import Derived.WideKeyEntry
import Derived.Maps.AppendAt
namespace Go.Proofs.YtklldmidcmfbdaaGreatDoor
open Go.RowKit Go.Shelf Go.ChangeMaps Go.MapKept

/-- A rectangle as a value. -/
def rcV (r : Int × Int × Int × Int) : Value := .agg (rcC r).toArray
/-- Its numbers are small. -/
def rcS (r : Int × Int × Int × Int) : Prop := (0 ≤ r.1 ∧ r.1 ≤ 1048576) ∧ (0 ≤ r.2.1 ∧ r.2.1 ≤ 1048576) ∧ (0 ≤ r.2.2.1 ∧ r.2.2.1 ≤ 1048576) ∧ 0 ≤ r.2.2.2 ∧ r.2.2.2 ≤ 1048576
theorem laid9 : laidOutB Tryz.prog = true := by kernel_rfl
theorem rc_row : (72 : TypeId) < Tryz.prog.types.size := of_decide_eq_true (by kernel_rfl)
/-- The fields of a rectangle. -/
noncomputable def rcF : Array Field := match Tryz.prog.underlying 72 with | some (.struct fs) => fs | _ => #[]
theorem rc_under : Tryz.prog.underlying 72 = some (.struct rcF) := by kernel_rfl
theorem rcF_names : rcF.all (·.name != "_") = true := by kernel_rfl
theorem rcF_at : rcF.toList.map (fun f => (f.type, f.offset)) = [(3, 0), (3, 1), (3, 2), (3, 3)] := by kernel_rfl
theorem rc_cells : Tryz.prog.cellsOf 72 = 4 := by kernel_rfl
theorem int_cells : Tryz.prog.cellsOf 3 = 1 := by kernel_rfl
theorem int_under : Tryz.prog.underlying 3 = some (.int .i64) := by kernel_rfl
theorem rc_kind : Tryz.prog.keyType 72 = true := by kernel_rfl
theorem rc_wide : (match Tryz.prog.underlying 72 with | some (.array _ _) | some (.struct _) => true | _ => false) = true := by kernel_rfl
set_option maxRecDepth 100000 in
theorem rc_law : WideMaps.KeyLaw Tryz.prog 72 := deep_law_laid laid9 (m := 2) (by omega) rc_row (by kernel_rfl) rc_wide
theorem rcV_inj {r s : Int × Int × Int × Int} (h : rcV r = rcV s) : r = s := by
  obtain ⟨a, b, c, d⟩ := r
  obtain ⟨a', b', c', d'⟩ := s
  simp [rcV, rcC] at h
  simp [h]
theorem wf_small {n : Int} (h : 0 ≤ n) (h' : n ≤ 1048576) : (Lit.int .i64 n).wf = true := by
  have h1 : IntKind.i64.min = -9223372036854775808 := by decide
  have h2 : IntKind.i64.max = 9223372036854775807 := by decide
  simp only [Lit.wf, h1, h2, Bool.and_eq_true, decide_eq_true_eq]
  omega
theorem lits_int {d : Nat} {n : Int} (h : 0 ≤ n) (h' : n ≤ 1048576) : Tryz.prog.keyLits (d + 1) 3 [.int .i64 n] = some [.int .i64 n] := by
  unfold Program.keyLits
  simp only [int_under]
  simp [wf_small h h']
theorem rc_lits {d : Nat} {r : Int × Int × Int × Int} (h : rcS r) : Tryz.prog.keyLits (d + 2) 72 (rcC r) = some [.int .i64 r.1, .int .i64 r.2.1, .int .i64 r.2.2.1, .int .i64 r.2.2.2] := by
  obtain ⟨a, b, c, e⟩ := r
  obtain ⟨⟨a1, a2⟩, ⟨b1, b2⟩, ⟨c1, c2⟩, e1, e2⟩ := h
  have hm : (rcF.toList.mapM fun f => Tryz.prog.keyLits (d + 1) f.type (((rcC (a, b, c, e)).drop f.offset).take (Tryz.prog.cellsOf f.type))) = ((rcF.toList.map (fun f => (f.type, f.offset))).mapM fun p => Tryz.prog.keyLits (d + 1) p.1 (((rcC (a, b, c, e)).drop p.2).take (Tryz.prog.cellsOf p.1))) := by rw [List.mapM_map]; simp only [Function.comp_def]
  unfold Program.keyLits
  simp only [rc_under]
  rw [if_pos ⟨by rw [rc_cells]; rfl, rcF_names⟩, hm, rcF_at]
  simp [rcC, int_cells, lits_int a1 a2, lits_int b1 b2, lits_int c1 c2, lits_int e1 e2]
theorem rc_key {r : Int × Int × Int × Int} (h : rcS r) : ∃ kl, keyOf Tryz.prog 72 (rcV r) = some kl := by
  obtain ⟨d, hd⟩ : ∃ d, Tryz.prog.types.size + 1 = d + 2 := ⟨Tryz.prog.types.size - 1, by have h0 : 0 < Tryz.prog.types.size := Nat.lt_of_le_of_lt (Nat.zero_le _) rc_row; omega⟩
  have hf : (rcV r).formed Tryz.prog 72 = true := by simp [rcV, Value.formed, rc_cells, rcC]
  have hc : (rcV r).cells.toList = rcC r := by simp [rcV, Value.cells]
  refine ⟨.string (keyBytes [.int .i64 r.1, .int .i64 r.2.1, .int .i64 r.2.2.1, .int .i64 r.2.2.2]), ?_⟩
  unfold keyOf
  simp only [rc_under]
  rw [if_pos (by rw [rc_kind, hf]; rfl), hd, hc, rc_lits h]
  rfl
/-- What a head names is small. -/
theorem rect_small {h : Hd} (hr : (rectH h).2 = true) : rcS (rectH h).1 := by
  have hof : ∀ a b c d, (Pla.ofR a b c d).2.2.2.2 = 0 → rcS ((Pla.ofR a b c d).1, (Pla.ofR a b c d).2.1, (Pla.ofR a b c d).2.2.1, (Pla.ofR a b c d).2.2.2.1) := by
    intro a b c d he
    unfold Pla.ofR at he ⊢
    by_cases hp : (Pla.placeB a b && Pla.placeB c d) = true
    · rw [if_pos hp]
      simp only [Pla.placeB, Bool.and_eq_true, Pla.colB_iff, Pla.rowB_iff] at hp
      unfold rcS
      simp only
      omega
    · rw [if_neg hp] at he
      exact absurd he (by decide)
  unfold rectH at hr ⊢
  by_cases hb : rangeB h = true
  · rw [if_pos hb] at hr ⊢
    simp only [decide_eq_true_eq] at hr ⊢
    unfold ofH at hr ⊢
    by_cases h2 : h.kind = 2
    · rw [if_pos h2] at hr ⊢
      exact hof _ _ _ _ hr
    · rw [if_neg h2] at hr ⊢
      exact hof _ _ _ _ hr
  · rw [if_neg hb] at hr
    cases hr
/-- What the map holds: the rectangles of l, each counted once at least and n times at most. -/
def EsOk (l : List (Int × Int × Int × Int)) (n : Nat) (es : Array MapEntry) (clock : Nat) : Prop :=
  Stamped es clock ∧ (∀ x ∈ es.toList, ∃ r ∈ l, ∃ c : Nat, x.key = rcV r ∧ x.val = .int .i64 c ∧ 1 ≤ c ∧ c ≤ n) ∧ (∀ r ∈ l, rcS r ∧ ∃ x ∈ es.toList, x.key = rcV r)
def Met (W : World) (M : Nat) (l : List (Int × Int × Int × Int)) (n : Nat) : Prop := ∃ es clock, W.heap[M]? = some (.map es clock) ∧ EsOk l n es clock
theorem EsOk.nil (n : Nat) : EsOk [] n #[] 0 := ⟨⟨by simp, by simp, by simp⟩, by simp, by simp⟩
theorem EsOk.keys {l : List (Int × Int × Int × Int)} {n clock : Nat} {es : Array MapEntry} (h : EsOk l n es clock) : ∀ e ∈ es.toList, ∃ k, keyOf Tryz.prog 72 e.key = some k := fun e he => by
  obtain ⟨r, hr, c, hk, _⟩ := h.2.1 e he
  rw [hk]
  exact rc_key (h.2.2 r hr).1
/-- One rectangle more. -/
def addR (l : List (Int × Int × Int × Int)) (r : Int × Int × Int × Int) : List (Int × Int × Int × Int) := if r ∈ l then l else l ++ [r]
theorem zero_int (u : World) : (zeroValue 3).run Tryz.prog u = .ok (.int .i64 0) u := by kernel_rfl
theorem map_under : Tryz.prog.underlying 88 = some (.map 72 3) := by kernel_rfl
/-- A look-up that misses, in any world that has the map. -/
theorem look_no {r : Int × Int × Int × Int} (hr : rcS r) {M clock : Nat} {es : Array MapEntry} (hk : ∀ e ∈ es.toList, ∃ k, keyOf Tryz.prog 72 e.key = some k) (hn : ∀ e ∈ es.toList, e.key ≠ rcV r) {W : World} (hW : W.heap[M]? = some (.map es clock)) :
    (Instr.lookup 88 (.map (some M)) (rcV r) false).run Tryz.prog W = .ok (.int .i64 0) W := by
  obtain ⟨kl, hkl⟩ := rc_key hr
  rcases rc_law.find W hkl es.toList hk with ⟨h1, _⟩ | ⟨j, e, _, h2, h3⟩
  · simp [Instr.lookup, run_underlying map_under, MapKept.run_getObj_map hW, rc_law.check W _ hkl, h1, Result.andThen]
  · exact absurd h3 (hn e (List.mem_of_getElem? h2))
theorem look_yes {r : Int × Int × Int × Int} (hr : rcS r) {M clock : Nat} {es : Array MapEntry} (hk : ∀ e ∈ es.toList, ∃ k, keyOf Tryz.prog 72 e.key = some k) {v : Value} (hy : ∃ e ∈ es.toList, e.key = rcV r) (hv : ∀ e ∈ es.toList, e.key = rcV r → e.val = v) {W : World} (hW : W.heap[M]? = some (.map es clock)) :
    (Instr.lookup 88 (.map (some M)) (rcV r) false).run Tryz.prog W = .ok v W := by
  obtain ⟨kl, hkl⟩ := rc_key hr
  rcases rc_law.find W hkl es.toList hk with ⟨_, h1⟩ | ⟨j, e, h1, h2, h3⟩
  · obtain ⟨e, he, hek⟩ := hy
    exact absurd hek (h1 e he)
  · have hev := hv e (List.mem_of_getElem? h2) h3
    simp [Instr.lookup, run_underlying map_under, MapKept.run_getObj_map hW, rc_law.check W _ hkl, h1, hev, Result.andThen]
/-- What 'm[k]++' does, where the key is not there. -/
theorem count_new {l : List (Int × Int × Int × Int)} {n M clock : Nat} {es : Array MapEntry} (F : EsOk l n es clock) {r : Int × Int × Int × Int} (hr : rcS r) (hl : r ∉ l) :
    ∃ (st : Nat) (es1 es2 : Array MapEntry) (k1 : Nat), EsOk (l ++ [r]) (n + 1) es2 k1 ∧
      (∀ W : World, W.heap[M]? = some (.map es clock) → (Instr.lookup 88 (.map (some M)) (rcV r) false).run Tryz.prog W = .ok (.int .i64 0) W ∧ (Instr.mapEntry 88 (.map (some M)) (rcV r)).run Tryz.prog W = .ok (.tuple #[.int .i64 0, .int .i64 st]) (setBlock W M (.map es1 k1))) ∧
      (∀ W : World, W.heap[M]? = some (.map es1 k1) → (Instr.lookup 88 (.map (some M)) (rcV r) false).run Tryz.prog W = .ok (.int .i64 0) W ∧ (Instr.entryStore 88 (.map (some M)) (.int .i64 st) (.int .i64 1)).run Tryz.prog W = .ok () (setBlock W M (.map es2 k1))) ∧
      (∀ W : World, W.heap[M]? = some (.map es2 k1) → (Instr.lookup 88 (.map (some M)) (rcV r) false).run Tryz.prog W = .ok (.int .i64 1) W) := by
  have hn : ∀ e ∈ es.toList, e.key ≠ rcV r := fun e he hk => by
    obtain ⟨s, hs, c, hk', _⟩ := F.2.1 e he
    rw [rcV_inj (hk.symm.trans hk')] at hl
    exact hl hs
  obtain ⟨kl, hkl⟩ := rc_key hr
  have hk := F.keys
  have hk1 : ∀ v : Value, ∀ e ∈ (es.push ⟨rcV r, v, clock⟩).toList, ∃ k, keyOf Tryz.prog 72 e.key = some k := fun v e he => by
    simp only [Array.toList_push, List.mem_append, List.mem_singleton] at he
    rcases he with he | rfl
    · exact hk e he
    · exact ⟨kl, hkl⟩
  have hv1 : ∀ v : Value, ∀ e ∈ (es.push ⟨rcV r, v, clock⟩).toList, e.key = rcV r → e.val = v := fun v e he hek => by
    simp only [Array.toList_push, List.mem_append, List.mem_singleton] at he
    rcases he with he | rfl
    · exact absurd hek (hn e he)
    · rfl
  refine ⟨clock, es.push ⟨rcV r, .int .i64 0, clock⟩, es.push ⟨rcV r, .int .i64 1, clock⟩, clock + 1, ⟨stamped_push F.1 hn, fun x hx => ?_, fun s hs => ?_⟩, fun W hW => ⟨look_no hr hk hn hW, ?_⟩, fun W hW => ⟨look_yes hr (hk1 _) ⟨⟨rcV r, .int .i64 0, clock⟩, by simp, rfl⟩ (hv1 _) hW, ?_⟩, fun W hW => look_yes hr (hk1 _) ⟨⟨rcV r, .int .i64 1, clock⟩, by simp, rfl⟩ (hv1 _) hW⟩
  · simp only [Array.toList_push, List.mem_append, List.mem_singleton] at hx
    rcases hx with hx | rfl
    · obtain ⟨s, hs, c, h1, h2, h3, h4⟩ := F.2.1 x hx
      exact ⟨s, by simp [hs], c, h1, h2, h3, by omega⟩
    · exact ⟨r, by simp, 1, rfl, rfl, Nat.le_refl _, by omega⟩
  · rcases List.mem_append.1 hs with hs | hs
    · obtain ⟨h1, x, hx, h2⟩ := F.2.2 s hs
      exact ⟨h1, x, by simp [hx], h2⟩
    · rw [List.mem_singleton.1 hs]
      exact ⟨hr, ⟨rcV r, .int .i64 1, clock⟩, by simp, rfl⟩
  · rcases rc_law.find W hkl es.toList hk with ⟨h1, _⟩ | ⟨j, e, _, h2, h3⟩
    · simp [Instr.mapEntry, run_underlying map_under, MapKept.run_getObj_map hW, rc_law.check W false hkl, h1, MapKept.run_setObj_map _ hW, Result.andThen, setBlock, goInt]
    · exact absurd h3 (hn e (List.mem_of_getElem? h2))
  · have s1 := F.1.1
    have s2 := F.1.2.1
    have hidx : (es.push ⟨rcV r, .int .i64 0, clock⟩).findIdx? (fun e => ((e.born : Nat) : Int) == ((clock : Nat) : Int)) = some es.size := by
      rw [WideElems.findIdx_arr]
      exact WideElems.findIdx_born (l := (es.push ⟨rcV r, .int .i64 0, clock⟩).toList) (j := es.size) (e0 := ⟨rcV r, .int .i64 0, clock⟩) (by
        simp only [Array.toList_push, List.map_append, List.map_cons, List.map_nil]
        refine List.nodup_append.2 ⟨s2, by simp, fun a ha c hc e1 => ?_⟩
        simp only [List.mem_singleton] at hc
        obtain ⟨x, hx, rfl⟩ := List.mem_map.1 ha
        have := s1 x hx
        omega) (by simp)
    have hmod : (es.push ⟨rcV r, .int .i64 0, clock⟩).modify es.size (fun e => { e with val := .int .i64 1 }) = es.push ⟨rcV r, .int .i64 1, clock⟩ := by
      apply Array.ext'
      rw [Array.toList_modify, Array.toList_push, Array.toList_push, ← Array.length_toList, WideElems.modify_last]
    simp [Instr.entryStore, MapKept.run_getObj_map hW, asInt, asIntOf, hidx, hmod, MapKept.run_setObj_map _ hW, Result.andThen, setBlock]
/-- What 'm[k]++' does, where the key is there. -/
theorem count_more {l : List (Int × Int × Int × Int)} {n M clock : Nat} {es : Array MapEntry} (F : EsOk l n es clock) {r : Int × Int × Int × Int} (hl : r ∈ l) :
    ∃ (c st : Nat) (es2 : Array MapEntry), 1 ≤ c ∧ c ≤ n ∧ EsOk l (n + 1) es2 clock ∧
      (∀ W : World, W.heap[M]? = some (.map es clock) → (Instr.lookup 88 (.map (some M)) (rcV r) false).run Tryz.prog W = .ok (.int .i64 c) W ∧ (Instr.mapEntry 88 (.map (some M)) (rcV r)).run Tryz.prog W = .ok (.tuple #[.int .i64 c, .int .i64 st]) (setBlock W M (.map es clock)) ∧ (Instr.entryStore 88 (.map (some M)) (.int .i64 st) (.int .i64 ((c : Int) + 1))).run Tryz.prog W = .ok () (setBlock W M (.map es2 clock))) ∧
      (∀ W : World, W.heap[M]? = some (.map es2 clock) → (Instr.lookup 88 (.map (some M)) (rcV r) false).run Tryz.prog W = .ok (.int .i64 ((c : Int) + 1)) W) := by
  obtain ⟨hr, x0, hx0, hxk⟩ := F.2.2 r hl
  obtain ⟨kl, hkl⟩ := rc_key hr
  have hk := F.keys
  obtain ⟨j, hj⟩ := List.getElem?_of_mem hx0
  have huniq : ∀ e ∈ es.toList, e.key = rcV r → e = x0 := fun e he hek => by
    obtain ⟨i, hi⟩ := List.getElem?_of_mem he
    have hnd := F.1.2.2
    have e1 : (es.toList.map (·.key))[i]? = (es.toList.map (·.key))[j]? := by simp only [List.getElem?_map, hi, hj, Option.map_some, hek, hxk]
    have hil : i < (es.toList.map (·.key)).length := by rw [List.length_map]; exact (List.getElem?_eq_some_iff.1 hi).1
    have := (List.getElem?_inj hil hnd).1 e1
    subst this
    exact Option.some.inj (hi.symm.trans hj)
  obtain ⟨s, hs, c, h1, h2, h3, h4⟩ := F.2.1 x0 hx0
  have hsame : es.modify j (fun e => { e with key := rcV r }) = es := by
    apply Array.ext'
    rw [Array.toList_modify, modify_eq_set _ _ _ _ hj]
    have : ({ x0 with key := rcV r } : MapEntry) = x0 := by rw [← hxk]
    rw [this]
    exact WideElems.set_self _ _ _ hj
  have hja : es[j]? = some x0 := by simpa using hj
  refine ⟨c, x0.born, es.modify j (fun e => { e with val := .int .i64 ((c : Int) + 1) }), h3, h4, ⟨stamped_modify F.1 _ _ (fun _ _ => rfl) (fun _ _ _ => rfl), fun x hx => ?_, fun q hq => ?_⟩, fun W hW => ⟨look_yes hr hk ⟨x0, hx0, hxk⟩ (fun e he hek => by rw [huniq e he hek]; exact h2) hW, ?_, ?_⟩, fun W hW => look_yes hr ?_ ?_ ?_ hW⟩
  · rcases MapFrom.mem_modify hx with hx | ⟨e', he', rfl⟩
    · obtain ⟨q, hq, c', g1, g2, g3, g4⟩ := F.2.1 x hx
      exact ⟨q, hq, c', g1, g2, g3, by omega⟩
    · have : e' = x0 := Option.some.inj (he'.symm.trans hja)
      subst this
      exact ⟨s, hs, c + 1, h1, by simp, by omega, by omega⟩
  · obtain ⟨g1, x, hx, g2⟩ := F.2.2 q hq
    refine ⟨g1, ?_⟩
    obtain ⟨i, hi⟩ := List.getElem?_of_mem hx
    rw [Array.toList_modify, modify_eq_set _ _ _ _ hj]
    by_cases hij : i = j
    · subst hij
      have : x = x0 := Option.some.inj (hi.symm.trans hj)
      subst this
      exact ⟨_, List.mem_set (List.getElem?_eq_some_iff.1 hj).1 _, g2⟩
    · exact ⟨x, List.mem_of_getElem? (i := i) (by rw [List.getElem?_set_ne (fun e => hij e.symm)]; exact hi), g2⟩
  · rcases rc_law.find W hkl es.toList hk with ⟨_, g1⟩ | ⟨i, e, g1, g2, g3⟩
    · exact absurd hxk (g1 x0 hx0)
    · have he : e = x0 := huniq e (List.mem_of_getElem? g2) g3
      subst he
      have hij : i = j := by
        have e1 : (es.toList.map (·.key))[i]? = (es.toList.map (·.key))[j]? := by simp only [List.getElem?_map, g2, hj]
        exact (List.getElem?_inj (by rw [List.length_map]; exact (List.getElem?_eq_some_iff.1 g2).1) F.1.2.2).1 e1
      subst hij
      simp [Instr.mapEntry, run_underlying map_under, MapKept.run_getObj_map hW, rc_law.check W false hkl, g1, hja, hxk, rc_law.stays W hkl, hsame, MapKept.run_setObj_map _ hW, Result.andThen, setBlock, h2, goInt]
  · have hidx : es.findIdx? (fun e => ((e.born : Nat) : Int) == ((x0.born : Nat) : Int)) = some j := by
      rw [WideElems.findIdx_arr]
      exact WideElems.findIdx_born F.1.2.1 hj
    simp [Instr.entryStore, MapKept.run_getObj_map hW, asInt, asIntOf, hidx, MapKept.run_setObj_map _ hW, Result.andThen, setBlock]
  · intro e he
    rcases MapFrom.mem_modify he with he | ⟨e', he', rfl⟩
    · exact hk e he
    · have : e' = x0 := Option.some.inj (he'.symm.trans hja)
      subst this
      exact hk e' hx0
  · refine ⟨{ x0 with val := .int .i64 ((c : Int) + 1) }, ?_, hxk⟩
    rw [Array.toList_modify, modify_eq_set _ _ _ _ hj]
    exact List.mem_set (List.getElem?_eq_some_iff.1 hj).1 _
  · intro e he hek
    rw [Array.toList_modify, modify_eq_set _ _ _ _ hj] at he
    obtain ⟨i, hi⟩ := List.getElem?_of_mem he
    by_cases hij : j = i
    · subst hij
      rw [List.getElem?_set_self (List.getElem?_eq_some_iff.1 hj).1] at hi
      rw [← Option.some.inj hi]
    · rw [List.getElem?_set_ne hij] at hi
      have he0 := huniq e (List.mem_of_getElem? hi) hek
      subst he0
      have e1 : (es.toList.map (·.key))[i]? = (es.toList.map (·.key))[j]? := by simp only [List.getElem?_map, hi, hj]
      exact absurd ((List.getElem?_inj (by rw [List.length_map]; exact (List.getElem?_eq_some_iff.1 hi).1) F.1.2.2).1 e1).symm hij
/-- An append leaves the row where it was, or lays it anew. -/
theorem append_where {P : Program} (w : World) (base : Nat) (t ty e : TypeId) (i : TypeInfo) (z : Value) (size bytes : Nat) (ht : P.underlying t = some (.slice e)) (hi : P.info? e = some i) (hz : i.zero = some z)
    (hsize : i.size = size) (hby : i.bytes = bytes) (hzs : z.cells.size = size) (hsz : 0 < size)
    (v : Value) (n : Nat) (xs : List Value) (hown : w.ownsRow base e size v n xs)
    (a : Addr) (m c : Nat) (news : List Value) (hl : news.length = m * size) (hnews : ∀ j u, news[j]? = some u → w.cell? (a.add j) = some u) (h1 : ∀ u ∈ news, u.oneCell' = true)
    (h63 : n + m ≤ maxLen) (hbytes : (n + m) * bytes ≤ 140737488355328) {v' : Value} {w' : World} (hrun : (Builtin.append_ #[t, t] ty #[v, .slice (some a) m c]).run P w = .ok v' w') :
    ∀ g, v'.ownBlock = some g → v.ownBlock = some g ∨ w.heap.size ≤ g := by
  intro g hg
  have hsmall : n + m ≤ 9223372036854775807 := by simp only [maxLen] at h63; omega
  rcases hown.2 with ⟨rfl, rfl⟩ | ⟨b, cap, cur, rfl, hbg, hgc, hnc, hcm, hcs, htake⟩
  · obtain rfl : xs = [] := List.eq_nil_of_length_eq_zero (by simpa using hown.1)
    obtain ⟨v2, w2, hr, h2, _, _⟩ := run_append_own (P := P) w w.heap.size t ty e i z size bytes ht hi hz hsize hby hzs hsz (.slice none 0 0) 0 [] (World.ownsRow_nil w _ e size) a m c news hl hnews h1 h63 hbytes (Nat.le_refl _)
    rw [hrun] at hr
    cases hr
    exact .inr (h2.lt g hg).1
  · by_cases hroom : n + m ≤ cap
    · obtain ⟨w2, hr, _, _⟩ := run_append_fits (P := P) w base t ty e i size ht hi hsize b n cap xs hown a m c news hl hnews h1 hroom
      rw [hrun] at hr
      cases hr
      exact .inl hg
    · have holds : ∀ j u, xs[j]? = some u → w.cell? ((⟨b, 0, none⟩ : Addr).add j) = some u := hown.cells (g := b) rfl
      subst hsize hby
      have hr := run_append_grow (P := P) w t ty e i z ht hi hz ⟨b, 0, none⟩ n cap xs hown.1 holds a m c news hl hnews (by omega) (by omega) (growslice_fits (by omega) hbytes)
      rw [hrun] at hr
      cases hr
      simp [Value.ownBlock] at hg
      exact .inr (by omega)
/-- The law on append inside a fence, with where the row is. -/
theorem wpListIn_append_at {F : Fence} {n : Nat} {P : Program} (w : World) {ops : Array Oper} {rest : List Oper} {o : Oper} {a : Act} {Q : Exit → Act → World → Prop}
    (hg : o.guard = none) (s x : Operand) (t : TypeId) (hop : o.op = Op.call { callee := Callee.builtin Builtin.append, args := #[s, x], argTypes := #[t, t] })
    (base : Nat) (e : TypeId) (i : TypeInfo) (z : Value) (size bytes : Nat) (h1 : P.underlying t = some (.slice e)) (h2 : P.info? e = some i) (h3 : i.zero = some z) (h4 : i.size = size) (h5 : i.bytes = bytes) (h6 : z.cells.size = size) (h7 : 0 < size)
    (v : Value) (k : Nat) (xs : List Value) (hs : a.eval s = v) (hown : w.ownsRow base e size v k xs) (ad : Addr) (m c : Nat) (news : List Value) (hx : a.eval x = .slice (some ad) m c) (hn : news.length = m * size)
    (hc : ∀ j u, news[j]? = some u → w.cell? (ad.add j) = some u) (h1c : ∀ u ∈ news, u.oneCell' = true) (b1 : k + m ≤ maxLen) (b2 : (k + m) * bytes ≤ 140737488355328) (b3 : base ≤ w.heap.size)
    (hK : ∀ v' w', w'.ownsRow base e size v' (k + m) (xs ++ news) → w.grownBy w' v.ownBlock → (∀ g, v'.ownBlock = some g → v.ownBlock = some g ∨ w.heap.size ≤ g) → wpListIn F n P ops Q rest (a.put o.dst v') w') :
    wpListIn F n P ops Q (o :: rest) a w := by
  refine wpListIn_plain hg fun K hK' => ?_
  obtain ⟨v', w', hrun, r1, r2, _⟩ := run_append_own (P := P) w base t o.type e i z size bytes h1 h2 h3 h4 h5 h6 h7 v k xs hown ad m c news hn hc h1c b1 b2 b3
  have r3 := append_where (P := P) w base t o.type e i z size bytes h1 h2 h3 h4 h5 h6 h7 v k xs hown ad m c news hn hc h1c b1 b2 hrun
  unfold Oper.wpIn
  refine ⟨?_, ?_⟩
  · simp [Oper.about, hop, resolve, Target.leads, Sem.run_pure]
  · rw [Oper.semAt_plain F _ _ (by rw [hop]; intro c hc'; cases hc')]
    simp [execOp, hop, resolve, invoke, builtin, hs, hx, hrun, Result.andThen]
    exact hK' _ _ (hK v' w' r1 r2 r3)
end Go.Proofs.YtklldmidcmfbdaaGreatDoor
