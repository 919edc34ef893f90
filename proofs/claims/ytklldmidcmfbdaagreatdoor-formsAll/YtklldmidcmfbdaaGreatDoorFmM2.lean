/-
  The contract of forms.Rects.
-/
import Derived.Test.YtklldmidcmfbdaaGreatDoorFmM1
import Derived.Test.YtklldmidcmfbdaaGreatDoorZ5b
namespace Go.Proofs.YtklldmidcmfbdaaGreatDoor
open Go.RowKit Go.Shelf Go.ChangeMaps Go.MapKept

theorem make_map (w : World) : (Instr.makeMap 88 none).run Tryz.prog w = .ok (.map (some w.heap.size)) (w.alloc (.map #[] 0)) := rfl
attribute [local go_sem] Oper.semAt_some make_map

/-- The rectangles that some nodes name, each once. -/
def rectsL (l : List (Hd × Fo)) : List (Int × Int × Int × Int) := l.foldl (fun acc x => if (rectH x.1).2 = true then addR acc (rectH x.1).1 else acc) []
theorem rectsL_snoc (l : List (Hd × Fo)) (x : Hd × Fo) : rectsL (l ++ [x]) = if (rectH x.1).2 = true then addR (rectsL l) (rectH x.1).1 else rectsL l := by simp [rectsL]
theorem rectsL_len {w₀ : World} {Dd : Nat → Prop} (l : List (Pt w₀ Dd)) : (rectsL (l.map Pt.gh)).length ≤ l.length := by
  have hg : ∀ (q : List (Hd × Fo)) (acc : List (Int × Int × Int × Int)), (q.foldl (fun acc x => if (rectH x.1).2 = true then addR acc (rectH x.1).1 else acc) acc).length ≤ acc.length + q.length := by
    intro q
    induction q with
    | nil => intro acc; simp
    | cons x q ih =>
      intro acc
      rw [List.foldl_cons]
      refine Nat.le_trans (ih _) ?_
      have : (if (rectH x.1).2 = true then addR acc (rectH x.1).1 else acc).length ≤ acc.length + 1 := by
        split
        · unfold addR
          split <;> simp
        · omega
      simp only [List.length_cons]
      omega
  have := hg (l.map Pt.gh) []
  simpa [rectsL] using this
theorem Met.to {X Y : World} {M n n' : Nat} {l l' : List (Int × Int × Int × Int)} (h : Met X M l n) (hb : Below X.heap.size X Y) (hl : l' = l) (hn : n ≤ n') : Met Y M l' n' := by
  subst hl
  obtain ⟨es, clock, h1, h2, h3, h4⟩ := h
  exact ⟨es, clock, (hb.block _ (Array.getElem?_eq_some_iff.1 h1).1).trans h1, h2, fun x hx => by obtain ⟨r, hr, c, a1, a2, a3, a4⟩ := h3 x hx; exact ⟨r, hr, c, a1, a2, a3, by omega⟩, h4⟩
/-- The box of a row of rectangles. -/
def Rws (n₀ B : Nat) (l : List (Int × Int × Int × Int)) (X : World) : Prop := ∃ v, Boxed X B 54 v ∧ X.ownsRow n₀ 72 4 v l.length (l.flatMap rcC)
theorem Rws.to {X Y : World} {n₀ B : Nat} {l l' : List (Int × Int × Int × Int)} (h : Rws n₀ B l X) (hb : Below X.heap.size X Y) (hl : l' = l) : Rws n₀ B l' Y := by
  subst hl
  obtain ⟨v, h1, h2⟩ := h
  exact ⟨v, (hb.block _ h1.lt).trans h1, h2.kept ⟨hb.os, hb.tape, hb.output, hb.size, fun k hk _ => hb.block k hk⟩ (row := none) (by cases v.ownBlock <;> simp)⟩
theorem row_far {W : World} {base : Nat} {e : TypeId} {size : Nat} {v : Value} {n : Nat} {xs : List Value} (h : W.ownsRow base e size v n xs) {M clock : Nat} {es : Array MapEntry} (hM : W.heap[M]? = some (.map es clock)) : v.ownBlock = none ∨ v.ownBlock ≠ some M := by
  rcases h.2 with ⟨rfl, _⟩ | ⟨g, cp, cur, rfl, _, hgb, _⟩
  · exact .inl rfl
  · refine .inr fun e => ?_
    simp [Value.ownBlock] at e
    subst e
    rw [hgb] at hM
    cases hM
/-- A map's turn, as a round sees it. -/
theorem KpR.turn {n₀ B M clock : Nat} {Y Y2 Y3 : World} {es : Array MapEntry} (hn : n₀ ≤ M) (hM : Y.heap[M]? = some (.map es clock)) (hBM : B ≠ M) (hg : ∀ i, i ≠ M → Y3.heap[i]? = Y.heap[i]?) (n2 : Y.drew.grownBy Y2 (some M)) (n3 : Y2.grownBy Y3 (some M)) : KpR n₀ B Y Y3 := by
  have hMl := (Array.getElem?_eq_some_iff.1 hM).1
  have hb : Below n₀ Y Y2 := (Below.refl n₀ Y).drew.grown n2 (show n₀ ≤ Y.drew.heap.size from (by show n₀ ≤ Y.heap.size; omega)) (fun k e => by cases e; exact hn)
  refine ⟨hb.grown n3 (by have := n2.size; have h5 : Y.heap.size ≤ Y2.heap.size := this; omega) (fun k e => by cases e; exact hn), fun b o h1 h2 _ _ => (hg b (fun e => by subst e; rw [hM] at h1; cases h1; cases h2)).trans h1, fun g h => .inl ?_⟩
  rw [rowAt_block (hg B hBM)] at h
  exact h
/-- An append into the box's row, as a round sees it. -/
theorem KpR.appended {n₀ B : Nat} {W w1 : World} {v v' : Value} {t : TypeId} {o : Obj} (hv : Boxed W B t v) (hv2 : Boxed (w1.setCell ⟨B, 0, none⟩ v') B t v') (hb : Below n₀ W (w1.setCell ⟨B, 0, none⟩ v')) (hgrow : (W.alloc o).grownBy w1 v.ownBlock) (hwhere : ∀ g, v'.ownBlock = some g → v.ownBlock = some g ∨ (W.alloc o).heap.size ≤ g) (hlt : ∀ g, v'.ownBlock = some g → g < (w1.setCell ⟨B, 0, none⟩ v').heap.size) : KpR n₀ B W (w1.setCell ⟨B, 0, none⟩ v') := by
  have hrw : rowAt W B = v.ownBlock := by unfold rowAt; rw [hv.cell]; rfl
  have hrw' : rowAt (w1.setCell ⟨B, 0, none⟩ v') B = v'.ownBlock := by unfold rowAt; rw [hv2.cell]; rfl
  refine ⟨hb, fun b o' h1 h2 hne hr => ?_, fun g hg => ?_⟩
  · have hbl := (Array.getElem?_eq_some_iff.1 h1).1
    rw [hrw] at hr
    have h3 : w1.heap[b]? = some o' := (hgrow.block b (by simp; omega) (fun e => hr e.symm)).trans ((Below.heap_alloc W _ b hbl).trans h1)
    exact (Below.heap_setCell _ _ _ b (fun e => hne (by rw [e]))).trans h3
  · rw [hrw'] at hg
    rw [hrw]
    rcases hwhere g hg with e | e
    · exact .inl e
    · exact .inr ⟨by simp at e; omega, hlt g hg⟩
/-- What a rectangle takes in memory. -/
noncomputable def rcI : TypeInfo := (Tryz.prog.info? 72).get (by kernel_rfl)
theorem rcI_info : Tryz.prog.info? 72 = some rcI := by kernel_rfl
theorem rcI_zero : rcI.zero = some (.agg #[.int .i64 0, .int .i64 0, .int .i64 0, .int .i64 0]) := by kernel_rfl
theorem rcI_size : rcI.size = 4 := by kernel_rfl
theorem rcI_bytes : rcI.bytes = 32 := by kernel_rfl
theorem rows_under : Tryz.prog.underlying 54 = some (.slice 72) := by kernel_rfl
/-- What Rects tells. -/
def rectsN (h : Hd) (k : Fo) : List (Int × Int × Int × Int) := if checkN h k = 0 then rectsL (preF (.cons h k .nil)) else []
theorem ab_rws {β : Type} {n₀ B m : Nat} (hB : B < m) (f : β → List (Int × Int × Int × Int)) : Ab B (fun _ => False) m (fun s W => Rws n₀ B (f s) W) := by
  intro s W W' row ⟨v, hv, hr⟩ hg h
  have hne : ∀ r, row = some r → r ≠ B := fun r e => by
    rcases (h r e).1 with h1 | h1
    · exact h1.elim
    · omega
  refine ⟨v, hv.kept hg (fun e => hne B e.symm rfl), hr.kept hg ?_⟩
  cases hvb : v.ownBlock with
  | none => exact .inl rfl
  | some g =>
    refine .inr fun e => ?_
    rcases (h g e.symm).2 with ⟨o, ho, hc⟩ | h2
    · rcases hr.2 with ⟨rfl, _⟩ | ⟨g', cp, cur, rfl, _, hgb, _⟩
      · cases hvb
      · simp [Value.ownBlock] at hvb
        subst hvb
        rw [hgb] at ho
        cases ho
        cases hc
    · exact h2.1 (by unfold rowAt; rw [hv.cell]; exact hvb)
theorem ab_met {w₀ : World} {Dd : Nat → Prop} {B m M : Nat} (hM : M < m) : Ab B (fun _ => False) m (fun (s : List (Pt w₀ Dd)) W => Met W M (rectsL (s.map Pt.gh)) s.length) := by
  intro s W W' row ⟨es, clock, hm, hF⟩ hg h
  refine ⟨es, clock, (hg.block M (Array.getElem?_eq_some_iff.1 hm).1 (fun e => ?_)).trans hm, hF⟩
  rcases (h M e.symm).1 with h1 | h1
  · exact h1.elim
  · omega
theorem row_not {W : World} {base : Nat} {e : TypeId} {size : Nat} {v : Value} {n : Nat} {xs : List Value} (h : W.ownsRow base e size v n xs) {D : Nat} {d : Option (List Deferred)} (hd : W.heap[D]? = some (.deferred d)) (hv : v.ownBlock = some D) : False := by
  rcases h.2 with ⟨rfl, _⟩ | ⟨g, cp, cur, rfl, _, hgb, _⟩
  · cases hv
  · simp [Value.ownBlock] at hv
    subst hv
    rw [hgb] at hd
    cases hd
theorem rects_ret {tmps : Array Value} {Z : World} {v e : Value} (h2 : tmps.getD 2 undef = v) (h3 : tmps.getD 3 undef = e) : (results Tryz.f18 tmps).run Tryz.prog Z = .ok (.tuple #[v, e]) Z := by
  have h2' : tmps[2]?.getD undef = v := by simpa using h2
  have h3' : tmps[3]?.getD undef = e := by simpa using h3
  simp [results, Tryz.results18, h2', h3', go_sem]
set_option maxRecDepth 100000 in
set_option maxHeartbeats 4000000 in
theorem rects_any (D : Nat → Prop) (h : Hd) (k : Fo) (a : Option Addr) (n cap : Nat) (w : World) (hD : ∀ c, D c → c < w.heap.size) (hk : Kv w D (.slice a n cap) k) (hm : k.many + 1 ≤ 4096) (hv : h.vs.length ≤ maxLen) (ht : h.txt.length ≤ maxLen) (ho : okF k) :
    Calls Tryz.prog 18 #[.agg (hdC h (.slice a n cap)).toArray] w fun e w' => ∃ v, e = .returned (.tuple #[v, .int .i64 (checkN h k)]) ∧ w'.ownsRow w.heap.size 72 4 v (rectsN h k).length ((rectsN h k).flatMap rcC) ∧ Below w.heap.size w w' := by
  have HC : Hid (∀ W : World, Below w.heap.size w W → CallsIn Fence.wide 0 Tryz.prog 31 #[.agg #[.int .i64 h.kind, .int .i64 h.vk, .int .i64 h.vn, .string ⟨h.vs.toArray⟩, .bool h.vb, .int .i64 h.vc, .int .i64 h.row, .int .i64 h.col, .bool h.fr, .bool h.fc, .int .i64 h.row2, .int .i64 h.col2, .bool h.fr2, .bool h.fc2, .string ⟨h.txt.toArray⟩, .slice a n cap]] W fun e w' => e = .returned (.int .i64 (checkN h k)) ∧ Below W.heap.size W w') := fun W hW => callsIn_wide.2 (check_node D h k a n cap W (fun c hc => Nat.lt_of_lt_of_le (hD c hc) hW.size) (kv_to hk (fun c hc => ⟨hc, hW.block c (hD c hc)⟩)) hm hv ht ho)
  have HK := hide hk
  have HD := hide hD
  have HM := hide hm
  have hB0 : Below w.heap.size w (w.alloc (.cells (hdC h (.slice a n cap)).toArray 68)) := (Below.refl _ w).alloc (Nat.le_refl _) _
  have k0 : (w.alloc (.cells (hdC h (.slice a n cap)).toArray 68)).heap[w.heap.size]? = some (.cells (hdC h (.slice a n cap)).toArray 68 (0, 0)) := World.alloc_heap_new w _
  have HB0 := hide hB0
  have HX0 := hide k0
  have hc : ∀ j, (w.alloc (.cells (hdC h (.slice a n cap)).toArray 68)).cell? ⟨w.heap.size, j, none⟩ = (hdC h (.slice a n cap)).toArray[j]? := fun j => cell_of_row _ _ _ _ _ _ k0
  have d0 : (w.alloc (.cells (hdC h (.slice a n cap)).toArray 68)).cell? ⟨w.heap.size, 0, none⟩ = some (.int .i64 h.kind) := hc 0
  have d1 : (w.alloc (.cells (hdC h (.slice a n cap)).toArray 68)).cell? ⟨w.heap.size, 1, none⟩ = some (.int .i64 h.vk) := hc 1
  have d2 : (w.alloc (.cells (hdC h (.slice a n cap)).toArray 68)).cell? ⟨w.heap.size, 2, none⟩ = some (.int .i64 h.vn) := hc 2
  have d3 : (w.alloc (.cells (hdC h (.slice a n cap)).toArray 68)).cell? ⟨w.heap.size, 3, none⟩ = some (.string ⟨h.vs.toArray⟩) := hc 3
  have d4 : (w.alloc (.cells (hdC h (.slice a n cap)).toArray 68)).cell? ⟨w.heap.size, 4, none⟩ = some (.bool h.vb) := hc 4
  have d5 : (w.alloc (.cells (hdC h (.slice a n cap)).toArray 68)).cell? ⟨w.heap.size, 5, none⟩ = some (.int .i64 h.vc) := hc 5
  have d6 : (w.alloc (.cells (hdC h (.slice a n cap)).toArray 68)).cell? ⟨w.heap.size, 6, none⟩ = some (.int .i64 h.row) := hc 6
  have d7 : (w.alloc (.cells (hdC h (.slice a n cap)).toArray 68)).cell? ⟨w.heap.size, 7, none⟩ = some (.int .i64 h.col) := hc 7
  have d8 : (w.alloc (.cells (hdC h (.slice a n cap)).toArray 68)).cell? ⟨w.heap.size, 8, none⟩ = some (.bool h.fr) := hc 8
  have d9 : (w.alloc (.cells (hdC h (.slice a n cap)).toArray 68)).cell? ⟨w.heap.size, 9, none⟩ = some (.bool h.fc) := hc 9
  have d10 : (w.alloc (.cells (hdC h (.slice a n cap)).toArray 68)).cell? ⟨w.heap.size, 10, none⟩ = some (.int .i64 h.row2) := hc 10
  have d11 : (w.alloc (.cells (hdC h (.slice a n cap)).toArray 68)).cell? ⟨w.heap.size, 11, none⟩ = some (.int .i64 h.col2) := hc 11
  have d12 : (w.alloc (.cells (hdC h (.slice a n cap)).toArray 68)).cell? ⟨w.heap.size, 12, none⟩ = some (.bool h.fr2) := hc 12
  have d13 : (w.alloc (.cells (hdC h (.slice a n cap)).toArray 68)).cell? ⟨w.heap.size, 13, none⟩ = some (.bool h.fc2) := hc 13
  have d14 : (w.alloc (.cells (hdC h (.slice a n cap)).toArray 68)).cell? ⟨w.heap.size, 14, none⟩ = some (.string ⟨h.txt.toArray⟩) := hc 14
  have d15 : (w.alloc (.cells (hdC h (.slice a n cap)).toArray 68)).cell? ⟨w.heap.size, 15, none⟩ = some (.slice a n cap) := hc 15
  clear hc hk hD hB0 k0 hm hv ht ho
  refine (callsIn_wide (n := 0)).1 ?_
  refine callsIn_of_wp_marks Tryz.func18 rfl trivial ?_ rfl
  simp only [Tryz.ntmps18, List.size_toArray, List.length_cons, List.length_nil, Nat.reduceAdd, Nat.reduceSub, Array.replicate_succ, Array.replicate_zero, List.push_toArray, List.append_toArray, List.nil_append, List.cons_append]
  unfold rectsN
  by_cases he : checkN h k = 0
  · rw [he] at HC
    rw [he, if_pos rfl]
    clear he
    gi_wp2_with (first | (refine ⟨trivial, rfl, ?_⟩; gi_at_call 31; refine (HC.out _ HB0.out).mono ?_; rintro e w1 ⟨rfl, hb1⟩; have HB1 := hide hb1; clear hb1 d0 d1 d2 d3 d4 d5 d6 d7 d8 d9 d10 d11 d12 d13 d14 d15) | (refine ⟨trivial, rfl, ?_⟩; gi_at_call 32; refine (callsIn_wide.2 (parts_any _ _ _)).mono ?_; rintro e wz ⟨rfl, hz⟩; subst wz))
    have w1n : w.heap.size < w1.heap.size := Nat.lt_of_lt_of_le (by simp) HB1.out.size
    have HB2 : Hid (Below w.heap.size w w1) := HB0.out.trans (HB1.out.mono HB0.out.size)
    have HX3 : Hid (w1.heap[w.heap.size]? = some (.cells (hdC h (.slice a n cap)).toArray 68 (0, 0))) := (HB1.out.block _ (Array.getElem?_eq_some_iff.1 HX0.out).1).trans HX0.out
    have bb : Below w1.heap.size w1 ((((w1.alloc (.cells #[.slice none 0 0] 54)).alloc (.map #[] 0)).alloc (.cells #[.map (some (w1.heap.size + 1))] 88)).alloc (.cells #[.pointer (some ⟨w.heap.size, 0, none⟩)] 92)) := ((((Below.refl _ _).alloc (Nat.le_refl _) _).alloc (by simp) _).alloc (by simp; omega) _).alloc (by simp; omega) _
    obtain ⟨W0, hW0⟩ : ∃ W0, ((((w1.alloc (.cells #[.slice none 0 0] 54)).alloc (.map #[] 0)).alloc (.cells #[.map (some (w1.heap.size + 1))] 88)).alloc (.cells #[.pointer (some ⟨w.heap.size, 0, none⟩)] 92)) = W0 := ⟨_, rfl⟩
    have z0 : W0.heap.size = w1.heap.size + 1 + 1 + 1 + 1 := by rw [← hW0]; simp
    have kB : Boxed W0 w1.heap.size 54 (.slice none 0 0) := by rw [← hW0]; exact (((Boxed.new w1 _ _).alloc _).alloc _).alloc _
    have kM : W0.heap[w1.heap.size + 1]? = some (.map #[] 0) := by
      rw [← hW0, Below.heap_alloc _ _ _ (by simp), Below.heap_alloc _ _ _ (by simp), show w1.heap.size + 1 = (w1.alloc (.cells #[.slice none 0 0] 54)).heap.size by simp]
      exact World.alloc_heap_new _ _
    have km : W0.heap[w1.heap.size + 1 + 1]? = some (.cells #[.map (some (w1.heap.size + 1))] 88 (0, 0)) := by
      rw [← hW0, Below.heap_alloc _ _ _ (by simp), show w1.heap.size + 1 + 1 = ((w1.alloc (.cells #[.slice none 0 0] 54)).alloc (.map #[] 0)).heap.size by simp]
      exact World.alloc_heap_new _ _
    have kp : W0.heap[w1.heap.size + 1 + 1 + 1]? = some (.cells #[.pointer (some ⟨w.heap.size, 0, none⟩)] 92 (0, 0)) := by
      rw [← hW0, show w1.heap.size + 1 + 1 + 1 = (((w1.alloc (.cells #[.slice none 0 0] 54)).alloc (.map #[] 0)).alloc (.cells #[.map (some (w1.heap.size + 1))] 88)).heap.size by simp]
      exact World.alloc_heap_new _ _
    rw [hW0] at bb ⊢
    have k0 : W0.heap[w.heap.size]? = some (.cells (hdC h (.slice a n cap)).toArray 68 (0, 0)) := (bb.block _ w1n).trans HX3.out
    have hb : Below w.heap.size w W0 := HB2.out.trans (bb.mono HB2.out.size)
    have hr0 : rowAt W0 w1.heap.size = none := by unfold rowAt; rw [kB.cell]; rfl
    have hRI : RowIn w1.heap.size W0 := ⟨by omega, fun g hg => by rw [hr0] at hg; cases hg⟩
    have sb : Sf w1.heap.size W0 (w1.heap.size + 1 + 1 + 1) #[.pointer (some ⟨w.heap.size, 0, none⟩)] 92 := ⟨kp, by omega, by rw [hr0]; simp, by omega⟩
    have sm : Sf w1.heap.size W0 (w1.heap.size + 1 + 1) #[.map (some (w1.heap.size + 1))] 88 := ⟨km, by omega, by rw [hr0]; simp, by omega⟩
    obtain ⟨hDk, hRow⟩ := node_loop HD.out HK.out hb k0 (B := w1.heap.size) (by omega) (by omega) (by rw [hr0]; simp)
    have hDlt := hDk.lt
    clear hW0 bb HX3 HB2 HB1 HC HK HD HB0 HX0 k0 kp km
    refine rangeR (α := Pt W0 (fun c => D c ∨ c = w.heap.size)) (B := w1.heap.size) (n₀ := w.heap.size) (X := fun _ => False) rfl (enters_of Tryz.func42 (by kernel_rfl) rfl) (parts_step k (parts_all k) w.heap.size w1.heap.size _ W0 h w.heap.size 0 (w1.heap.size + 1 + 1 + 1) hRow)
      (fun X hX => ⟨sb.below hX, hDk.below hX, hRI.below hX, by have := hX.size; omega⟩) (fun _ => rfl) (by omega) (by omega) (fun _ h => h.elim)
      (fun pre X => Met X (w1.heap.size + 1) (rectsL (pre.map Pt.gh)) pre.length ∧ Dk w.heap.size w1.heap.size (fun c => D c ∨ c = w.heap.size) W0 X ∧ Sf w1.heap.size X (w1.heap.size + 1 + 1) #[.map (some (w1.heap.size + 1))] 88 ∧ Rws w.heap.size w1.heap.size (rectsL (pre.map Pt.gh)) X ∧ Below w.heap.size w X)
      (fun _ _ _ => False)
      ?hI ?hIx ⟨⟨_, _, kM, EsOk.nil _⟩, hDk, sm, ⟨_, kB, World.ownsRow_nil _ _ _ _⟩, hb⟩
      (fun x a' _ => a' = { tmps := #[.agg (hdC h (.slice a n cap)).toArray, .pointer (some ⟨w.heap.size, 0, none⟩), .slice none 0 0, .int .i64 0, .int .i64 0, .pointer (some ⟨w1.heap.size, 0, none⟩), .pointer (some ⟨w1.heap.size + 1 + 1, 0, none⟩), .pointer (some ⟨x.1.1.1, x.1.1.2, none⟩), undef, undef, .agg #[.int .i64 h.kind, .int .i64 h.vk, .int .i64 h.vn, .string ⟨h.vs.toArray⟩, .bool h.vb, .int .i64 h.vc, .int .i64 h.row, .int .i64 h.col, .bool h.fr, .bool h.fc, .int .i64 h.row2, .int .i64 h.col2, .bool h.fr2, .bool h.fc2, .string ⟨h.txt.toArray⟩, .slice a n cap], .int .i64 0, .int .i64 0, .bool false, undef, .map (some (w1.heap.size + 1)), .func (.func 42) #[] #[.pointer (some ⟨w1.heap.size + 1 + 1 + 1, 0, none⟩)], .pointer (some ⟨x.1.1.1, x.1.1.2, none⟩), undef, undef, undef, undef, undef, undef, undef, undef, undef, undef, undef, undef, undef, undef, undef, undef, undef, undef, undef, undef, undef, undef], defers := [] })
      (fun _ _ => fun _ _ _ _ h _ _ => h) ?assign ?body ?done ?stop
    case hI => exact (ab_met (by omega)).and ((ab_dk (fun c hc => ⟨hDlt c hc, fun h => h⟩) (by omega) (fun h => h)).and ((ab_sf _ _ (by omega) (fun h => h) (by omega) (fun h => h)).and ((ab_rws (by omega) (fun l : List (Pt W0 (fun c => D c ∨ c = w.heap.size)) => rectsL (l.map Pt.gh))).and (ab_below (Nat.le_refl _) (by omega) (fun _ h => h.elim)))))
    case hIx => exact fun _ => fun _ _ _ _ h _ _ => h
    case assign =>
      rintro l' pre x X K hI' hK
      simp only [Pt.enc]
      gi_wp2
      exact hK _ _ (KeepsFrom.refl _ _) (KpR.refl _ _ _) hI' rfl
    case body =>
      rintro l' pre ⟨⟨⟨xb, xo⟩, ⟨xh, xk⟩⟩, hx⟩ _ X hl' _ ⟨mX, dX, sX, rX, hbX⟩ rfl hlen
      have hxr := dX.row hx
      obtain ⟨xD, ⟨xv, xc, _⟩, _⟩ := row_cons.1 hxr
      have hxb : xb < X.heap.size := dX.lt _ xD
      have HRO : Hid (∀ W : World, Below X.heap.size X W → CallsIn Fence.wide 0 Tryz.prog 33 #[.pointer (some ⟨xb, xo, none⟩)] W fun e w' => e = .returned (.tuple #[.agg (rcC (rectH xh).1).toArray, .bool (rectH xh).2]) ∧ Below W.heap.size W w') := fun W hW => callsIn_wide.2 (rectOf_any xh xv xb xo W (Nat.lt_of_lt_of_le hxb hW.size) (fun j hj => (hW.cell (p := ⟨xb, xo + j, none⟩) hxb).trans (xc j hj)))
      have HL : Hid (rectsL (List.map Pt.gh (pre ++ [mkPt xb xo xh xk hx])) = if (rectH xh).2 = true then addR (rectsL (pre.map Pt.gh)) (rectH xh).1 else rectsL (pre.map Pt.gh)) := (congrArg rectsL (gh_snoc pre (mkPt xb xo xh xk hx))).trans (rectsL_snoc _ _)
      have hlp : pre.length + 1 ≤ 4096 := by
        have h5 := HM.out
        rw [preF_len] at hlen
        simp only [Fo.many] at hlen
        omega
      have hll : (rectsL (pre.map Pt.gh)).length ≤ pre.length := rectsL_len _
      have hsm : (rectH xh).2 = true → rcS (rectH xh).1 := rect_small
      have HsM := hide hsm
      have HMX := hide mX
      have HDX := hide dX
      have HSX := hide sX
      have HRX := hide rX
      have HbX := hide hbX
      have hXs : w1.heap.size + 1 + 1 < X.heap.size := sX.lt
      clear mX dX sX rX hbX hxr xD xc hlen hxb hsm
      have hmx : Tryz.prog.follows .mixedOrders = true := by kernel_rfl
      generalize rectH xh = R at *
      obtain ⟨⟨r1, r2, r3, r4⟩, ok⟩ := R
      simp only [rcC] at HRO HsM HL
      cases ok
      · gi_wp2_with (refine ⟨trivial, rfl, ?_⟩; gi_at_call 33; refine (CallsIn.inRound l' (HRO.out _ (Below.refl _ _))).mono ?_; rintro e w2 ⟨rfl, hb2⟩; have HB2 := hide hb2; clear hb2)
        have yb : Below X.heap.size X (w2.alloc (.cells #[.int .i64 r1, .int .i64 r2, .int .i64 r3, .int .i64 r4] 72)) := HB2.out.alloc HB2.out.size _
        exact ⟨keeps_of yb, KpR.of yb (by omega) (by omega), HMX.out.to yb HL.out (by simp), HDX.out.below yb, HSX.out.below yb, HRX.out.to yb HL.out, HbX.out.trans (yb.mono HbX.out.size)⟩
      · gi_wp2_with (refine ⟨trivial, rfl, ?_⟩; gi_at_call 33; refine (CallsIn.inRound l' (HRO.out _ (Below.refl _ _))).mono ?_; rintro e w2 ⟨rfl, hb2⟩; have HB2 := hide hb2; clear hb2)
        have yb : Below X.heap.size X (w2.alloc (.cells #[.int .i64 r1, .int .i64 r2, .int .i64 r3, .int .i64 r4] 72)) := HB2.out.alloc HB2.out.size _
        have yr : (w2.alloc (.cells #[.int .i64 r1, .int .i64 r2, .int .i64 r3, .int .i64 r4] 72)).heap[w2.heap.size]? = some (.cells #[.int .i64 r1, .int .i64 r2, .int .i64 r3, .int .i64 r4] 72 (0, 0)) := World.alloc_heap_new _ _
        have y2 : (w2.alloc (.cells #[.int .i64 r1, .int .i64 r2, .int .i64 r3, .int .i64 r4] 72)).heap.size = w2.heap.size + 1 := by simp
        have y3 : X.heap.size ≤ w2.heap.size := HB2.out.size
        obtain ⟨Y, hY⟩ : ∃ Y, w2.alloc (.cells #[.int .i64 r1, .int .i64 r2, .int .i64 r3, .int .i64 r4] 72) = Y := ⟨_, rfl⟩
        rw [hY] at yb yr y2 ⊢
        obtain ⟨bR, hbR⟩ : ∃ bR, w2.heap.size = bR := ⟨_, rfl⟩
        rw [hbR] at yr y2 y3 ⊢
        clear hY HB2 hbR w2 HRO
        obtain ⟨es, clock, hes, F⟩ := HMX.out
        have hes : Y.heap[w1.heap.size + 1]? = some (.map es clock) := (yb.block _ (by omega)).trans hes
        have sY := HSX.out.below yb
        obtain ⟨v, hv, hrow⟩ := HRX.out.to yb rfl
        have dY := HDX.out.below yb
        have bY := HbX.out.trans (yb.mono HbX.out.size)
        have cM := sY.cell 0
        have cR : ∀ j, Y.cell? ⟨bR, j, none⟩ = (#[.int .i64 r1, .int .i64 r2, .int .i64 r3, .int .i64 r4] : Array Value)[j]? := fun j => cell_of_row _ _ _ _ _ _ yr
        have cR0 := cR 0
        have cR1 := cR 1
        have cR2 := cR 2
        have cR3 := cR 3
        simp only [List.getElem?_toArray, List.getElem?_cons_zero, List.getElem?_cons_succ] at cM cR0 cR1 cR2 cR3
        have hr := HsM.out trivial
        clear cR HMX HDX HSX HRX HsM
        by_cases hl : (r1, r2, r3, r4) ∈ rectsL (pre.map Pt.gh)
        · obtain ⟨c, st, es2, hc1, hcn, F2, q0, q2⟩ := count_more (M := w1.heap.size + 1) F hl
          have e1 := (q0 Y.drew hes).1
          have e2 := (q0 Y.drew hes).2.1
          have h2 := heap_setBlock_same (w := Y.drew) hes (.map es clock)
          have g2 : ∀ i, i ≠ w1.heap.size + 1 → (setBlock Y.drew (w1.heap.size + 1) (.map es clock)).heap[i]? = Y.heap[i]? := fun i hi => heap_setBlock_other (w := Y.drew) hes _ hi
          have n2 : Y.drew.grownBy (setBlock Y.drew (w1.heap.size + 1) (.map es clock)) (some (w1.heap.size + 1)) := grownBy_putObj' Y.drew _ _
          obtain ⟨Y2, hY2⟩ : ∃ Y2, setBlock Y.drew (w1.heap.size + 1) (.map es clock) = Y2 := ⟨_, rfl⟩
          rw [hY2] at e2 h2 g2 n2
          have e3 := (q0 Y2 h2).1
          have e4 := (q0 Y2 h2).2.2
          have h3 := heap_setBlock_same (w := Y2) h2 (.map es2 clock)
          have g3 : ∀ i, i ≠ w1.heap.size + 1 → (setBlock Y2 (w1.heap.size + 1) (.map es2 clock)).heap[i]? = Y.heap[i]? := fun i hi => (heap_setBlock_other (w := Y2) h2 _ hi).trans (g2 i hi)
          have n3 : Y2.grownBy (setBlock Y2 (w1.heap.size + 1) (.map es2 clock)) (some (w1.heap.size + 1)) := grownBy_putObj' Y2 _ _
          obtain ⟨Y3, hY3⟩ : ∃ Y3, setBlock Y2 (w1.heap.size + 1) (.map es2 clock) = Y3 := ⟨_, rfl⟩
          rw [hY3] at e4 h3 g3 n3
          have e5 := q2 Y3 h3
          have b2R : ∀ j, Y2.cell? ⟨bR, j, none⟩ = Y.cell? ⟨bR, j, none⟩ := fun j => World.cell?_of_block (a := ⟨bR, j, none⟩) (g2 bR (by omega))
          have b3R : ∀ j, Y3.cell? ⟨bR, j, none⟩ = Y.cell? ⟨bR, j, none⟩ := fun j => World.cell?_of_block (a := ⟨bR, j, none⟩) (g3 bR (by omega))
          have b2M : Y2.cell? ⟨w1.heap.size + 1 + 1, 0, none⟩ = Y.cell? ⟨w1.heap.size + 1 + 1, 0, none⟩ := World.cell?_of_block (a := ⟨w1.heap.size + 1 + 1, 0, none⟩) (g2 (w1.heap.size + 1 + 1) (by omega))
          have b3M : Y3.cell? ⟨w1.heap.size + 1 + 1, 0, none⟩ = Y.cell? ⟨w1.heap.size + 1 + 1, 0, none⟩ := World.cell?_of_block (a := ⟨w1.heap.size + 1 + 1, 0, none⟩) (g3 (w1.heap.size + 1 + 1) (by omega))
          have hv3 : Boxed Y3 w1.heap.size 54 v := (g3 w1.heap.size (by omega)).trans hv
          simp only [rcV, rcC] at e1 e2 e3 e4 e5
          have hrow3 : Y3.ownsRow w.heap.size 72 4 v (rectsL (pre.map Pt.gh)).length ((rectsL (pre.map Pt.gh)).flatMap rcC) := (World.ownsRow.kept (World.ownsRow.kept (World.ownsRow.drew hrow) n2 (row_far hrow hes)) n3 (row_far hrow hes))
          have kT : KpR w.heap.size w1.heap.size Y Y3 := KpR.turn (by omega) hes (by omega) g3 n2 n3
          have hlm : rectsL (List.map Pt.gh (pre ++ [mkPt xb xo xh xk hx])) = rectsL (pre.map Pt.gh) := HL.out.trans (by rw [if_pos trivial]; unfold addR; rw [if_pos hl])
          have HFIN : Hid (KeepsFrom W0.heap.size X Y3 ∧ KpR w.heap.size w1.heap.size X Y3 ∧ Met Y3 (w1.heap.size + 1) (rectsL (List.map Pt.gh (pre ++ [mkPt xb xo xh xk hx]))) (pre ++ [mkPt xb xo xh xk hx]).length ∧ Dk w.heap.size w1.heap.size (fun c => D c ∨ c = w.heap.size) W0 Y3 ∧ Sf w1.heap.size Y3 (w1.heap.size + 1 + 1) #[.map (some (w1.heap.size + 1))] 88 ∧ Rws w.heap.size w1.heap.size (rectsL (List.map Pt.gh (pre ++ [mkPt xb xo xh xk hx]))) Y3 ∧ Below w.heap.size w Y3) := by
            have kX := (KpR.of (n₀ := w.heap.size) (B := w1.heap.size) yb (by omega) (by omega)).trans kT
            refine ⟨(keeps_of yb).trans (((KeepsOthers.drew Y).from _).trans ((KeepsFrom.of_grownBy n2 (fun j e => by cases e; omega)).trans (KeepsFrom.of_grownBy n3 (fun j e => by cases e; omega)))), kX, ⟨es2, clock, h3, ?_⟩, dY.kept kT, sY.kept kT, ⟨v, hv3, ?_⟩, bY.trans kT.below⟩
            · rw [hlm, show (pre ++ [mkPt xb xo xh xk hx]).length = pre.length + 1 by simp]
              exact F2
            · rw [hlm]
              exact hrow3
          have hwr : IntKind.i64.wrap ((c : Int) + 1) = (c : Int) + 1 := wrap_le (by omega) (by omega)
          have hne : ((c : Int) + 1 == 1) = false := by simp; omega
          clear q0 q2 hY2 hY3 h2 g2 n2 h3 g3 n3 F F2 hes hrow hrow3 hv hv3 dY bY sY yb yr kT hlm hc1 hcn
          gi_region_with_o (fail)
          all_goals gi_wp2
          all_goals exact HFIN.out
        · obtain ⟨st, es1, es2, k1, F2, q0, q1, q2⟩ := count_new (M := w1.heap.size + 1) F hr hl
          have e1 := (q0 Y.drew hes).1
          have e2 := (q0 Y.drew hes).2
          have h2 := heap_setBlock_same (w := Y.drew) hes (.map es1 k1)
          have g2 : ∀ i, i ≠ w1.heap.size + 1 → (setBlock Y.drew (w1.heap.size + 1) (.map es1 k1)).heap[i]? = Y.heap[i]? := fun i hi => heap_setBlock_other (w := Y.drew) hes _ hi
          have n2 : Y.drew.grownBy (setBlock Y.drew (w1.heap.size + 1) (.map es1 k1)) (some (w1.heap.size + 1)) := grownBy_putObj' Y.drew _ _
          obtain ⟨Y2, hY2⟩ : ∃ Y2, setBlock Y.drew (w1.heap.size + 1) (.map es1 k1) = Y2 := ⟨_, rfl⟩
          rw [hY2] at e2 h2 g2 n2
          have e3 := (q1 Y2 h2).1
          have e4 := (q1 Y2 h2).2
          have h3 := heap_setBlock_same (w := Y2) h2 (.map es2 k1)
          have g3 : ∀ i, i ≠ w1.heap.size + 1 → (setBlock Y2 (w1.heap.size + 1) (.map es2 k1)).heap[i]? = Y.heap[i]? := fun i hi => (heap_setBlock_other (w := Y2) h2 _ hi).trans (g2 i hi)
          have n3 : Y2.grownBy (setBlock Y2 (w1.heap.size + 1) (.map es2 k1)) (some (w1.heap.size + 1)) := grownBy_putObj' Y2 _ _
          obtain ⟨Y3, hY3⟩ : ∃ Y3, setBlock Y2 (w1.heap.size + 1) (.map es2 k1) = Y3 := ⟨_, rfl⟩
          rw [hY3] at e4 h3 g3 n3
          have e5 := q2 Y3 h3
          have b2R : ∀ j, Y2.cell? ⟨bR, j, none⟩ = Y.cell? ⟨bR, j, none⟩ := fun j => World.cell?_of_block (a := ⟨bR, j, none⟩) (g2 bR (by omega))
          have b3R : ∀ j, Y3.cell? ⟨bR, j, none⟩ = Y.cell? ⟨bR, j, none⟩ := fun j => World.cell?_of_block (a := ⟨bR, j, none⟩) (g3 bR (by omega))
          have b2M : Y2.cell? ⟨w1.heap.size + 1 + 1, 0, none⟩ = Y.cell? ⟨w1.heap.size + 1 + 1, 0, none⟩ := World.cell?_of_block (a := ⟨w1.heap.size + 1 + 1, 0, none⟩) (g2 (w1.heap.size + 1 + 1) (by omega))
          have b3M : Y3.cell? ⟨w1.heap.size + 1 + 1, 0, none⟩ = Y.cell? ⟨w1.heap.size + 1 + 1, 0, none⟩ := World.cell?_of_block (a := ⟨w1.heap.size + 1 + 1, 0, none⟩) (g3 (w1.heap.size + 1 + 1) (by omega))
          have hv3 : Boxed Y3 w1.heap.size 54 v := (g3 w1.heap.size (by omega)).trans hv
          have cB3 := hv3.cell
          simp only [rcV, rcC] at e1 e2 e3 e4 e5
          have hrow3 : Y3.ownsRow w.heap.size 72 4 v (rectsL (pre.map Pt.gh)).length ((rectsL (pre.map Pt.gh)).flatMap rcC) := (World.ownsRow.kept (World.ownsRow.kept (World.ownsRow.drew hrow) n2 (row_far hrow hes)) n3 (row_far hrow hes))
          have hz3 : w.heap.size ≤ Y3.heap.size := by have := n2.size; have := n3.size; simp only [World.drew] at *; omega
          have kT : KpR w.heap.size w1.heap.size Y Y3 := KpR.turn (by omega) hes (by omega) g3 n2 n3
          have hlm : rectsL (List.map Pt.gh (pre ++ [mkPt xb xo xh xk hx])) = rectsL (pre.map Pt.gh) ++ [(r1, r2, r3, r4)] := HL.out.trans (by rw [if_pos trivial]; unfold addR; rw [if_neg hl])
          have HFIN : Hid (∀ (v' : Value) (wa : World), wa.ownsRow w.heap.size 72 4 v' ((rectsL (pre.map Pt.gh)).length + 1) ((rectsL (pre.map Pt.gh)).flatMap rcC ++ [.int .i64 r1, .int .i64 r2, .int .i64 r3, .int .i64 r4]) → (Y3.alloc (.cells #[.int .i64 r1, .int .i64 r2, .int .i64 r3, .int .i64 r4] 72)).grownBy wa v.ownBlock → (∀ g, v'.ownBlock = some g → v.ownBlock = some g ∨ (Y3.alloc (.cells #[.int .i64 r1, .int .i64 r2, .int .i64 r3, .int .i64 r4] 72)).heap.size ≤ g) →
              KeepsFrom W0.heap.size X (wa.setCell ⟨w1.heap.size, 0, none⟩ v') ∧ KpR w.heap.size w1.heap.size X (wa.setCell ⟨w1.heap.size, 0, none⟩ v') ∧ Met (wa.setCell ⟨w1.heap.size, 0, none⟩ v') (w1.heap.size + 1) (rectsL (List.map Pt.gh (pre ++ [mkPt xb xo xh xk hx]))) (pre ++ [mkPt xb xo xh xk hx]).length ∧ Dk w.heap.size w1.heap.size (fun c => D c ∨ c = w.heap.size) W0 (wa.setCell ⟨w1.heap.size, 0, none⟩ v') ∧ Sf w1.heap.size (wa.setCell ⟨w1.heap.size, 0, none⟩ v') (w1.heap.size + 1 + 1) #[.map (some (w1.heap.size + 1))] 88 ∧ Rws w.heap.size w1.heap.size (rectsL (List.map Pt.gh (pre ++ [mkPt xb xo xh xk hx]))) (wa.setCell ⟨w1.heap.size, 0, none⟩ v') ∧ Below w.heap.size w (wa.setCell ⟨w1.heap.size, 0, none⟩ v')) := by
            intro v' wa hown' hgrow hwhere
            obtain ⟨_, hv2, hr2, hk2, hb2⟩ := Boxed.appended hv3 (by decide) hrow3 hz3 (by omega) hown' hgrow
            have kA : KpR w.heap.size w1.heap.size Y3 (wa.setCell ⟨w1.heap.size, 0, none⟩ v') := KpR.appended hv3 hv2 hb2 hgrow hwhere (fun g hg => (hr2.lt g hg).2)
            have kZ := kT.trans kA
            have kX := (KpR.of (n₀ := w.heap.size) (B := w1.heap.size) yb (by omega) (by omega)).trans kZ
            refine ⟨(keeps_of yb).trans (((KeepsOthers.drew Y).from _).trans ((KeepsFrom.of_grownBy n2 (fun j e => by cases e; omega)).trans ((KeepsFrom.of_grownBy n3 (fun j e => by cases e; omega)).trans (hk2.from _)))), kX, ⟨es2, k1, hk2.same _ _ h3 rfl, ?_⟩, dY.kept kZ, sY.kept kZ, ⟨v', hv2, ?_⟩, bY.trans kZ.below⟩
            · rw [hlm, show (pre ++ [mkPt xb xo xh xk hx]).length = pre.length + 1 by simp]
              exact F2
            · rw [hlm]
              simpa [rcC] using hr2
          have HA : Hid (∀ (v' : Value) (wa : World), wa.ownsRow w.heap.size 72 4 v' ((rectsL (pre.map Pt.gh)).length + 1) ((rectsL (pre.map Pt.gh)).flatMap rcC ++ [.int .i64 r1, .int .i64 r2, .int .i64 r3, .int .i64 r4]) → (Y3.alloc (.cells #[.int .i64 r1, .int .i64 r2, .int .i64 r3, .int .i64 r4] 72)).grownBy wa v.ownBlock → Boxed wa w1.heap.size 54 v) := fun v' wa hown' hgrow => (Boxed.appended hv3 (by decide) hrow3 hz3 (by omega) hown' hgrow).1
          have HROW3 : Hid (∀ o : Obj, (Y3.alloc o).ownsRow w.heap.size 72 4 v (rectsL (pre.map Pt.gh)).length ((rectsL (pre.map Pt.gh)).flatMap rcC)) := fun o => hrow3.alloc o
          clear q0 q1 q2 hY2 hY3 h2 g2 n2 h3 g3 n3 F F2 hes hrow hrow3 hv hv3 dY bY sY yb yr kT hlm
          have hwr : IntKind.i64.wrap 1 = 1 := by decide
          gi_region_with_o (fail)
          all_goals gi_wp2_with (gi_at_builtin; refine wpListIn_append_at _ rfl _ _ 54 rfl w.heap.size 72 rcI (.agg #[.int .i64 0, .int .i64 0, .int .i64 0, .int .i64 0]) 4 32 rows_under rcI_info rcI_zero rcI_size rcI_bytes rfl (by decide) _ _ _ rfl (HROW3.out _) ⟨Y3.heap.size, 0, none⟩ 1 1 [.int .i64 r1, .int .i64 r2, .int .i64 r3, .int .i64 r4] rfl rfl (fun j u hj => cells_new Y3 _ _ j u hj) (by simp [Value.oneCell']) (by unfold maxLen; omega) (by omega) (by simp; omega) ?_; intro v' wa hown' hgrow hwhere; obtain ⟨g', cap', rfl⟩ := ownsRow_succ hown'; have hva := HA.out _ _ hown' hgrow; have q4 := hva.cell; have p4 := hva.frozen; have HFZ := hide (HFIN.out _ _ hown' hgrow hwhere); clear hown' hgrow hwhere hva)
          all_goals exact HFZ.out
    case done =>
      rintro D' xs X hD' hS ⟨_, dX, sX, ⟨v, hv, hrow⟩, hbX⟩ hd
      have c1 := hv.cell
      rw [hS] at hrow
      have HR := hide hrow
      have HBX := hide hv
      have HbX := hide hbX
      have HD' := hide hd
      clear dX sX hv hrow hbX hd hS
      gi_wp2
      exact leave_one HD'.out ⟨_, rects_ret rfl rfl, _, rfl, HR.out.kept (grownBy_putObj' X D' _) (.inr (fun e => row_not HR.out HD'.out e)), put_below HbX.out (by omega)⟩
    case stop =>
      rintro D' c pre X hD' hpre hF hd
      exact hF.elim
  · have e0 : (checkN h k == 0) = false := by simpa using he
    rw [if_neg he]
    generalize checkN h k = E at *
    clear he
    gi_wp2_with (first | (refine ⟨trivial, rfl, ?_⟩; gi_at_call 31; refine (HC.out _ HB0.out).mono ?_; rintro e w1 ⟨rfl, hb1⟩; have HB1 := hide hb1; clear hb1))
    exact leaves_marks [] _ (Mk.nil 0 0 _) ⟨_, rects_ret rfl rfl, _, rfl, World.ownsRow_nil _ _ _ _, HB0.out.trans (HB1.out.mono HB0.out.size)⟩
end Go.Proofs.YtklldmidcmfbdaaGreatDoor
