/-
  strs' trimmed and substituted.
-/
import Derived.Test.YthooimaadgabiabDoorSt4
namespace Go.Proofs.YthooimaadgabiabDoor
open Go.RowKit Go.Shelf
attribute [local go_sem] Oper.semAt_some
set_option linter.unusedSimpArgs false

/-- What is put together out of parts grows. -/
theorem fold_le {α : Type} {f : By → α → By} (hf : ∀ o x, o.length ≤ (f o x).length) : ∀ (l : List α) (o : By), o.length ≤ (l.foldl f o).length
  | [], _ => Nat.le_refl _
  | x :: l, o => Nat.le_trans (hf o x) (fold_le hf l (f o x))
theorem fold_part {α : Type} {f : By → α → By} (hf : ∀ o x, o.length ≤ (f o x).length) {all pre post : List α} {x : α} (h : all = pre ++ x :: post) : (f (pre.foldl f []) x).length ≤ (all.foldl f []).length := by
  rw [h, List.foldl_append, List.foldl_cons]
  exact fold_le hf post _
theorem fold_snoc {α : Type} (f : By → α → By) (pre : List α) (x : α) : (pre ++ [x]).foldl f [] = f (pre.foldl f []) x := by rw [List.foldl_append]; rfl
def putW2 (o : By) (x : Nat × By) : By := putW o x.2
theorem putW2_le (o : By) (x : Nat × By) : o.length ≤ (putW2 o x).length := by
  unfold putW2 putW
  by_cases h : x.2 = []
  · rw [if_pos h]; exact Nat.le_refl _
  · rw [if_neg h]
    by_cases ho : o = []
    · simp [ho]
    · rw [if_neg ho, List.length_append, List.length_append]; omega
theorem putP_le {old new : By} {k : Nat} (o : By) (x : Nat × By) : o.length ≤ (putP old new k o x).length := by unfold putP; rw [List.length_append]; omega
theorem trim_fold (s : By) : (allP s [32]).foldl putW2 [] = trL s := tr_all s
/-- What holds between rounds: the row, and what lies behind it. -/
structure InP (m R mb : Nat) (mark : By) (w W : World) (t : By) : Prop where
  row : RowIs m R W t
  kp : Kp m R w W
  cell : CellOk W
  box : W.cell? ⟨mb, 0, none⟩ = some (.string ⟨mark.toArray⟩)
  le : m ≤ W.heap.size
theorem Kp.cellOk {m R : Nat} {W W' : World} (h : Kp m R W W') (hc : CellOk W) (hm : 0 < m) (hR : 0 ≠ R) : CellOk W' := by
  obtain ⟨x, hx⟩ := hc
  exact ⟨x, (World.cell?_of_block (a := ⟨0, 0, none⟩) (h.block _ hm hR)).trans hx⟩
theorem Kp.put {m R : Nat} {w W : World} {l : Nat} {o' : Obj} (h : Kp m R w W) (hm : m ≤ l) (hs : w.heap.size ≤ l) : Kp m R w (W.putObj l o') :=
  ⟨h.os, h.tape, h.output, by simpa using h.size, fun b h1 h2 => (World.putObj_heap_other (by omega)).trans (h.block b h1 h2), fun b _ h1 h2 => (World.putObj_heap_other (by have := (Array.getElem?_eq_some_iff.1 h1).1; omega)).trans (h.same b _ h1 h2)⟩
theorem InP.below {m R mb : Nat} {mark : By} {w W W' : World} {t : By} (h : InP m R mb mark w W t) (hb : mb < m) (k : Below W.heap.size W W') : InP m R mb mark w W' t :=
  ⟨h.row.below k, h.kp.trans (Kp.of k h.le), cellOk_below h.cell k, (k.cell (p := ⟨mb, 0, none⟩) (by show mb < _; have := h.le; omega)).trans h.box, Nat.le_trans h.le k.size⟩
theorem InP.put {m R mb : Nat} {mark : By} {w W : World} {t : By} {l : Nat} {o o' : Obj} (h : InP m R mb mark w W t) (hs : w.heap.size ≤ l) (hm : m ≤ l) (hl : W.heap[l]? = some o) (ho : o.isCells = false) : InP m R mb mark w (W.putObj l o') t := by
  have hcell : ∀ (b : Nat) (v : Value), W.cell? ⟨b, 0, none⟩ = some v → (W.putObj l o').cell? ⟨b, 0, none⟩ = some v := fun b v hv => by
    by_cases e : b = l
    · subst e
      simp only [World.cell?, hl] at hv
      cases o <;> first | (cases ho; done) | (simp at hv; done)
    · exact (World.cell?_of_block (a := ⟨b, 0, none⟩) (World.putObj_heap_other e)).trans hv
  refine ⟨h.row.put o' hl ho, h.kp.put hm hs, ?_, hcell _ _ h.box, by simpa using h.le⟩
  obtain ⟨x, hx⟩ := h.cell
  exact ⟨x, hcell _ _ hx⟩
theorem InP.next {m R mb : Nat} {mark : By} {w W W' : World} {t t' : By} (h : InP m R mb mark w W t) (hb : mb < m) (hR : mb ≠ R) (hm : 0 < m) (hmR : 0 ≠ R) (hr : RowIs m R W' t') (k : Kp m R W W') : InP m R mb mark w W' t' :=
  ⟨hr, h.kp.trans k, k.cellOk h.cell hm hmR, (World.cell?_of_block (a := ⟨mb, 0, none⟩) (k.block mb hb hR)).trans h.box, Nat.le_trans h.le k.size⟩
theorem Kp.from {m R B : Nat} {W W' : World} (h : Kp m R W W') : KeepsFrom B W W' := ⟨h.size, fun b o _ h1 h2 => h.same b o h1 h2⟩
theorem leave_panic {P : Program} {fn : Func} {tmps : Array Value} {R : Ending → World → Prop} {D : Nat} {Y : World} {ch : List PanicEntry} (hd : Y.heap[D]? = some (.deferred (some []))) (h : R (.panicked ch) (Y.putObj D (.deferred none))) :
    LeavesInM Fence.wide 0 P fn tmps R [{ target := .collected D, args := #[] }] (.panicking ch) Y := ⟨by simp, .inl ⟨D, _, rfl, run_takeDeferred hd, h⟩⟩
theorem leave_ret {P : Program} {fn : Func} {tmps : Array Value} {R : Ending → World → Prop} {D : Nat} {Y : World} (hd : Y.heap[D]? = some (.deferred (some []))) (h : ∃ v, (results fn tmps).run P (Y.putObj D (.deferred none)) = .ok v (Y.putObj D (.deferred none)) ∧ R (.returned v) (Y.putObj D (.deferred none))) :
    LeavesInM Fence.wide 0 P fn tmps R [{ target := .collected D, args := #[] }] .returning Y := ⟨by simp, .inl ⟨D, _, rfl, run_takeDeferred hd, h⟩⟩
theorem sret {fn : Func} {k : Nat} {tmps : Array Value} {Z : World} {v : Value} (hf : fn.results = #[.tmp k]) (h : tmps.getD k undef = v) : (results fn tmps).run Tryd.prog Z = .ok v Z := by
  have h' : tmps[k]?.getD undef = v := by simpa using h
  simp [results, hf, h', go_sem]
theorem below_putD {n₀ : Nat} {w Y : World} {D : Nat} {o : Obj} (h : Below n₀ w Y) (hn : n₀ ≤ w.heap.size) (hD : n₀ ≤ D) : Below n₀ w (Y.putObj D o) :=
  h.grown (grownBy_putObj' Y D o) (Nat.le_trans hn h.size) (fun k e => by cases e; exact hD)
def noDefer (ol : List Oper) : Bool := ol.all fun o => match o.op with | .defer _ => false | _ => true
theorem wpQ_reg {P : Program} {l : Nat} {Q : Exit → Act → World → Prop} {a : Act} {w : World} {id : Nat} {ol : List Oper} (hd : noDefer ol = true) (h : wpList P ol.toArray (onlyNP Q) ol a w) : (Code.region id ol.toArray false).wpQ l P Q a w :=
  wpQ_region (fun i o hi c hc => by
    have hm : o ∈ ol := List.mem_iff_getElem?.2 ⟨i, by simpa using hi⟩
    have := List.all_eq_true.1 hd o hm
    rw [hc] at this
    cases this) h
/-- The world behind the row's box and the parts' two. -/
theorem parts_world (s mark : By) (w : World) :
    (((w.alloc (.cells #[.slice none 0 0] 58)).alloc (.cells #[.string ⟨s.toArray⟩] 9)).alloc (.cells #[.string ⟨mark.toArray⟩] 9)).cell? ⟨w.heap.size + 1 + 1, 0, none⟩ = some (.string ⟨mark.toArray⟩) ∧
    (((w.alloc (.cells #[.slice none 0 0] 58)).alloc (.cells #[.string ⟨s.toArray⟩] 9)).alloc (.cells #[.string ⟨mark.toArray⟩] 9)).cell? ⟨w.heap.size + 1, 0, none⟩ = some (.string ⟨s.toArray⟩) ∧
    RowIs (w.heap.size + 3) w.heap.size (((w.alloc (.cells #[.slice none 0 0] 58)).alloc (.cells #[.string ⟨s.toArray⟩] 9)).alloc (.cells #[.string ⟨mark.toArray⟩] 9)) [] ∧
    Below w.heap.size w (((w.alloc (.cells #[.slice none 0 0] 58)).alloc (.cells #[.string ⟨s.toArray⟩] 9)).alloc (.cells #[.string ⟨mark.toArray⟩] 9)) ∧
    (((w.alloc (.cells #[.slice none 0 0] 58)).alloc (.cells #[.string ⟨s.toArray⟩] 9)).alloc (.cells #[.string ⟨mark.toArray⟩] 9)).heap.size = w.heap.size + 3 := by
  have z1 : (w.alloc (.cells #[.slice none 0 0] 58)).heap.size = w.heap.size + 1 := World.size_alloc _ _
  have z2 : ((w.alloc (.cells #[.slice none 0 0] 58)).alloc (.cells #[.string ⟨s.toArray⟩] 9)).heap.size = w.heap.size + 1 + 1 := by rw [World.size_alloc, z1]
  have z3 : (((w.alloc (.cells #[.slice none 0 0] 58)).alloc (.cells #[.string ⟨s.toArray⟩] 9)).alloc (.cells #[.string ⟨mark.toArray⟩] 9)).heap.size = w.heap.size + 3 := by rw [World.size_alloc, z2]
  have e0 : (((w.alloc (.cells #[.slice none 0 0] 58)).alloc (.cells #[.string ⟨s.toArray⟩] 9)).alloc (.cells #[.string ⟨mark.toArray⟩] 9)).heap[w.heap.size]? = some (.cells #[.slice none 0 0] 58) := by
    rw [Below.heap_alloc _ _ _ (by omega), Below.heap_alloc _ _ _ (by omega)]
    exact World.alloc_heap_new w _
  have e1 : (((w.alloc (.cells #[.slice none 0 0] 58)).alloc (.cells #[.string ⟨s.toArray⟩] 9)).alloc (.cells #[.string ⟨mark.toArray⟩] 9)).heap[w.heap.size + 1]? = some (.cells #[.string ⟨s.toArray⟩] 9) := by
    rw [Below.heap_alloc _ _ _ (by omega)]
    have := World.alloc_heap_new (w.alloc (.cells #[.slice none 0 0] 58)) (.cells #[.string ⟨s.toArray⟩] 9)
    rwa [z1] at this
  have e2 : (((w.alloc (.cells #[.slice none 0 0] 58)).alloc (.cells #[.string ⟨s.toArray⟩] 9)).alloc (.cells #[.string ⟨mark.toArray⟩] 9)).heap[w.heap.size + 1 + 1]? = some (.cells #[.string ⟨mark.toArray⟩] 9) := by
    have := World.alloc_heap_new ((w.alloc (.cells #[.slice none 0 0] 58)).alloc (.cells #[.string ⟨s.toArray⟩] 9)) (.cells #[.string ⟨mark.toArray⟩] 9)
    rwa [z2] at this
  have hb : Below w.heap.size w (((w.alloc (.cells #[.slice none 0 0] 58)).alloc (.cells #[.string ⟨s.toArray⟩] 9)).alloc (.cells #[.string ⟨mark.toArray⟩] 9)) := (((Below.refl _ w).alloc (Nat.le_refl _) _).alloc (by omega) _).alloc (by omega) _
  generalize (((w.alloc (.cells #[.slice none 0 0] 58)).alloc (.cells #[.string ⟨s.toArray⟩] 9)).alloc (.cells #[.string ⟨mark.toArray⟩] 9)) = W at *
  exact ⟨by simp [World.cell?, e2], by simp [World.cell?, e1], ⟨.slice none 0 0, e0, ⟨rfl, .inl ⟨rfl, rfl⟩⟩, fun e => by cases e⟩, hb, z3⟩
set_option maxRecDepth 100000 in
set_option maxHeartbeats 4000000 in
theorem trimmed_any (s : By) (w : World) (hs : s.length ≤ 255) (hc : CellOk w) :
    Calls Tryd.prog 27 #[.string ⟨s.toArray⟩] w fun e w' => e = .returned (.string ⟨(trL s).toArray⟩) ∧ Below w.heap.size w w' := by
  have hg : 0 < w.heap.size := by
    obtain ⟨x, hx⟩ := hc
    rcases Nat.lt_or_ge 0 w.heap.size with h | h
    · exact h
    · simp [World.cell?, Array.getElem?_eq_none h] at hx
  refine (callsIn_wide (n := 0)).1 ?_
  refine callsIn_of_wp_marks Tryd.func27 rfl trivial ?_ rfl
  simp only [Tryd.ntmps27, List.size_toArray, List.length_cons, List.length_nil, Nat.reduceAdd, Nat.reduceSub, Array.replicate_succ, Array.replicate_zero, List.push_toArray, List.append_toArray, List.nil_append, List.cons_append]
  gi_wp2_with (refine ⟨trivial, rfl, ?_⟩; gi_at_call 46; refine (callsIn_wide.2 (parts_any _ _ _)).mono ?_; rintro e w1 ⟨rfl, rfl⟩)
  obtain ⟨hIt1, hIt2, hR0, hB0, z0⟩ := parts_world s [32] w
  rw [show (⟨([32] : By).toArray⟩ : ByteArray) = ⟨#[32]⟩ from rfl] at *
  generalize hW0 : (((w.alloc (.cells #[.slice none 0 0] 58)).alloc (.cells #[.string ⟨s.toArray⟩] 9)).alloc (.cells #[.string ⟨#[32]⟩] 9)) = W0 at *
  have hI0 : InP (w.heap.size + 3) w.heap.size (w.heap.size + 1 + 1) [32] W0 W0 [] := ⟨hR0, Kp.refl _ _ _, cellOk_below hc hB0, hIt1, by omega⟩
  have HTr := hide (trim_fold s)
  have HTl := hide (trL_len s)
  clear hR0 hW0
  refine rangeQ (α := Nat × By) rfl (enters_of Tryd.func53 (by kernel_rfl) rfl) (parts_seq (w.heap.size + 1 + 1) (w.heap.size + 1) s [32] (by omega)) (fun W hW => ⟨(hW.cell (p := ⟨w.heap.size + 1 + 1, 0, none⟩) (by show w.heap.size + 1 + 1 < W0.heap.size; omega)).trans hIt1, (hW.cell (p := ⟨w.heap.size + 1, 0, none⟩) (by show w.heap.size + 1 < W0.heap.size; omega)).trans hIt2⟩) (fun _ => rfl)
    (fun pre W => InP (w.heap.size + 3) w.heap.size (w.heap.size + 1 + 1) [32] W0 W (pre.foldl putW2 [])) (fun _ => False)
    (fun pre W h => ⟨h.cell, h.box⟩) (fun pre W W' h k => h.below (by omega) k) ?hIo hI0
    (fun x a' _ => a' = { tmps := #[.string ⟨s.toArray⟩, undef, .string ⟨#[]⟩, .pointer (some ⟨w.heap.size, 0, none⟩), undef, .string ⟨x.2.toArray⟩, .string ⟨s.toArray⟩, .func (.func 53) #[] #[.pointer (some ⟨w.heap.size + 1 + 1, 0, none⟩), .pointer (some ⟨w.heap.size + 1, 0, none⟩)], .int .i64 (x.1 : Int), .string ⟨x.2.toArray⟩, undef, undef, undef, undef, undef, undef, undef, undef, undef, undef, undef, undef], defers := [] })
    ?hAx ?assign ?body ?dead ?done ?pan
  case hIo => exact fun pre W l o o' h h1 h2 h3 => h.put (by omega) (by omega) h2 h3
  case hAx => exact fun x a' W l o o' h _ _ _ => h
  case assign =>
    rintro lp pre ⟨xi, xt⟩ X K h1 hK
    have HK := hide hK
    clear hK
    simp only [encP]
    gi_wp2
    exact HK.out _ _ (Below.refl _ _) rfl
  case body =>
    rintro lp pre ⟨xi, xt⟩ a' X hg1 hi rfl
    have hfold := fold_snoc putW2 pre (xi, xt)
    obtain ⟨post, hpost⟩ := hg1
    have hlen := fold_part putW2_le hpost
    rw [HTr.out] at hlen
    rw [← hfold] at hlen
    dsimp only
    by_cases hx : xt = []
    · have hem : List.isEmpty xt = true := by subst hx; rfl
      have hsame : putW2 (pre.foldl putW2 []) (xi, xt) = pre.foldl putW2 [] := by unfold putW2 putW; rw [if_pos hx]
      rw [hsame] at hfold
      have HF := hide hfold
      have HI := hide hi
      clear hfold hi hsame hlen hpost hx hIt1 hIt2
      refine wpQ_seq (wpQ_seq (wpQ_reg rfl ?_))
      go_wp2
      change Code.wpQ _ _ _ _ _ _
      refine wpQ_cond (t := true) rfl (wpQ_exit ?_)
      exact ⟨rfl, KeepsFrom.refl _ _, by show InP _ _ _ _ _ _ _; rw [HF.out]; exact HI.out⟩
    · have hem : List.isEmpty xt = false := by simpa using hx
      obtain ⟨out, hout⟩ : ∃ out, pre.foldl putW2 [] = out := ⟨_, rfl⟩
      rw [hout] at hi hfold
      have HF := hide hfold
      have HI := hide hi
      rw [hfold] at hlen
      obtain ⟨v, hv⟩ := hi.row
      obtain ⟨p, c, rfl⟩ := hv.slice
      have c0 := hv.cell
      have f0 := hv.free
      have hz : (if out = [] then [] else out ++ [32]).length + xt.length ≤ 255 := by
        have h3 := HTl.out
        unfold putW2 putW at hlen
        dsimp only at hlen
        rw [if_neg hx, List.length_append] at hlen
        omega
      by_cases ho : out = []
      · rw [if_pos ho] at hz
        have HP : Hid (∀ W : World, Below X.heap.size X W → Calls Tryd.prog 45 #[.pointer (some ⟨w.heap.size, 0, none⟩), .string ⟨xt.toArray⟩] W fun e w' => e = .returned (.tuple #[]) ∧ RowIs (w.heap.size + 3) w.heap.size w' (out ++ xt) ∧ Kp (w.heap.size + 3) w.heap.size W w') := fun W hW => put_ok _ _ _ _ W (HI.out.row.below hW) (Nat.le_trans HI.out.le hW.size) (by rw [ho]; exact hz)
        have HO : Hid (out ++ xt = putW2 out (xi, xt)) := by
          show _ = _
          unfold putW2 putW
          rw [if_neg hx, if_pos ho, ho]
        have g6 : decide (0 < out.length) = false := by rw [ho]; rfl
        clear hfold hi hlen hpost hx hIt1 hIt2 hv hz ho
        refine wpQ_seq (wpQ_seq (wpQ_reg rfl ?_))
        go_wp2
        change Code.wpQ _ _ _ _ _ _
        refine wpQ_cond (t := false) rfl (wpQ_skip ?_)
        change Code.wpQ _ _ _ _ _ _
        refine wpQ_seq (wpQ_seq (wpQ_reg rfl ?_))
        go_wp2
        change Code.wpQ _ _ _ _ _ _
        refine wpQ_cond (t := false) rfl (wpQ_skip ?_)
        change Code.wpQ _ _ _ _ _ _
        refine wpQ_reg rfl ?_
        go_wp2_with (go_at_call 45; refine (HP.out _ (by repeat' (first | with_reducible exact Below.refl _ _ | with_reducible refine Below.setCell ?_ ?_ _ | with_reducible refine Below.alloc ?_ ?_ _ | with_reducible refine below_drewN ?_ _ | with_reducible refine Below.drew ?_ | with_reducible refine Below.trans ?_ (Below.mono (by assumption) ?_) | with_reducible exact Nat.le_refl _ | with_reducible refine Nat.le_trans ?_ (Below.size (by assumption)) | with_reducible refine Nat.le_trans ?_ (size_alloc _ _) | with_reducible refine Nat.le_trans ?_ (size_set _ _ _) | with_reducible refine Nat.le_trans ?_ (size_drewN _ _) | with_reducible refine Nat.le_trans ?_ (size_drew _) | (simp; done) | (simp; omega) | omega))).mono ?_; rintro e w1 ⟨rfl, h1, h2⟩; have H1 := hide h1; have H2 := hide h2; clear h1 h2)
        exact ⟨H2.out.from, by show InP _ _ _ _ _ _ _; rw [HF.out, ← HO.out]; exact HI.out.next (by omega) (by omega) (by omega) (by omega) H1.out H2.out⟩
      · rw [if_neg ho, List.length_append, List.length_singleton] at hz
        have HP1 : Hid (∀ W : World, Below X.heap.size X W → Calls Tryd.prog 45 #[.pointer (some ⟨w.heap.size, 0, none⟩), .string ⟨#[32]⟩] W fun e w' => e = .returned (.tuple #[]) ∧ RowIs (w.heap.size + 3) w.heap.size w' (out ++ [32]) ∧ Kp (w.heap.size + 3) w.heap.size W w') := fun W hW => put_ok _ _ _ [32] W (HI.out.row.below hW) (Nat.le_trans HI.out.le hW.size) (by simp only [List.length_singleton]; omega)
        have HP2 : Hid (∀ W : World, RowIs (w.heap.size + 3) w.heap.size W (out ++ [32]) → w.heap.size + 3 ≤ W.heap.size → Calls Tryd.prog 45 #[.pointer (some ⟨w.heap.size, 0, none⟩), .string ⟨xt.toArray⟩] W fun e w' => e = .returned (.tuple #[]) ∧ RowIs (w.heap.size + 3) w.heap.size w' (out ++ [32] ++ xt) ∧ Kp (w.heap.size + 3) w.heap.size W w') := fun W hW hs => put_ok _ _ _ _ W hW hs (by rw [List.length_append, List.length_singleton]; omega)
        have HO : Hid (out ++ [32] ++ xt = putW2 out (xi, xt)) := by
          show _ = _
          unfold putW2 putW
          rw [if_neg hx, if_neg ho]
        have g6 : decide (0 < out.length) = true := decide_eq_true (List.length_pos_iff.2 ho)
        clear hfold hi hlen hpost hx hIt1 hIt2 hv hz ho
        refine wpQ_seq (wpQ_seq (wpQ_reg rfl ?_))
        go_wp2
        change Code.wpQ _ _ _ _ _ _
        refine wpQ_cond (t := false) rfl (wpQ_skip ?_)
        change Code.wpQ _ _ _ _ _ _
        refine wpQ_seq (wpQ_seq (wpQ_reg rfl ?_))
        go_wp2
        change Code.wpQ _ _ _ _ _ _
        refine wpQ_cond (t := true) rfl (wpQ_reg rfl ?_)
        go_wp2_with (go_at_call 45; refine (HP1.out _ (by repeat' (first | with_reducible exact Below.refl _ _ | with_reducible refine Below.setCell ?_ ?_ _ | with_reducible refine Below.alloc ?_ ?_ _ | with_reducible refine below_drewN ?_ _ | with_reducible refine Below.drew ?_ | with_reducible refine Below.trans ?_ (Below.mono (by assumption) ?_) | with_reducible exact Nat.le_refl _ | with_reducible refine Nat.le_trans ?_ (Below.size (by assumption)) | with_reducible refine Nat.le_trans ?_ (size_alloc _ _) | with_reducible refine Nat.le_trans ?_ (size_set _ _ _) | with_reducible refine Nat.le_trans ?_ (size_drewN _ _) | with_reducible refine Nat.le_trans ?_ (size_drew _) | (simp; done) | (simp; omega) | omega))).mono ?_; rintro e w1 ⟨rfl, h1, h2⟩; have H1 := hide h1; have H2 := hide h2; clear h1 h2 HP1)
        change Code.wpQ _ _ _ _ _ _
        refine wpQ_reg rfl ?_
        go_wp2_with (go_at_call 45; refine (HP2.out _ H1.out (Nat.le_trans HI.out.le H2.out.size)).mono ?_; rintro e w2 ⟨rfl, h1, h2⟩; have H3 := hide h1; have H4 := hide h2; clear h1 h2)
        exact ⟨(H2.out.trans H4.out).from, by show InP _ _ _ _ _ _ _; rw [HF.out, ← HO.out]; exact HI.out.next (by omega) (by omega) (by omega) (by omega) H3.out (H2.out.trans H4.out)⟩
  case dead => exact fun pre W h _ => h.elim
  case done =>
    rintro D xs X hD rfl hi hm
    rw [HTr.out] at hi
    obtain ⟨T, hT⟩ : ∃ T, trL s = T := ⟨_, rfl⟩
    rw [hT] at hi
    have HT := hide hT
    have HM := hide hm
    obtain ⟨v, hv⟩ := hi.row
    obtain ⟨p, c, rfl⟩ := hv.slice
    have hb := row_back hv
    have c0 := hv.cell
    have HB : Hid (Below w.heap.size w X) := hB0.trans (hi.kp.below (by omega) (Nat.le_refl _))
    have hbD : w.heap.size ≤ D := by omega
    clear hm hi hv hIt1 hIt2 hT
    dsimp only
    gi_wp2
    refine leave_ret HM.out ⟨_, sret rfl rfl, ?_⟩
    rw [HT.out]
    exact ⟨rfl, below_putD HB.out (Nat.le_refl _) hbD⟩
  case pan => exact fun D W _ h _ => h.elim
end Go.Proofs.YthooimaadgabiabDoor
