/-
  The contract of forms.find: the function of a name, if there is one.
-/
import Derived.Test.YtklldmidcmfbdaaGreatDoorFmF
import Derived.Test.YtklldmidcmfbdaaGreatDoorFmQ
namespace Go.Proofs.YtklldmidcmfbdaaGreatDoor
open Go.RowKit Go.Shelf

attribute [local go_sem] Oper.semAt_some

/-- The function of a name. -/
def findF (s : ByteArray) : Option Fu := fnsL.find? fun f => decide (f.name = s)
def zf : Fu := ⟨⟨#[]⟩, 0, 0, ⟨#[]⟩⟩
/-- What find tells. -/
def foundV (o : Option Fu) : Value := .tuple #[.agg (fnC (o.getD zf)).toArray, .bool o.isSome]
theorem find_hit {s : ByteArray} {q : List Fu} {f : Fu} (h : q ++ [f] <+: fnsL) (hq : ∀ g ∈ q, g.name ≠ s) (hf : f.name = s) : findF s = some f := by
  obtain ⟨r, hr⟩ := h
  unfold findF
  rw [← hr, List.append_assoc, List.find?_append, List.find?_eq_none.2 (fun g hg => by simpa using hq g hg)]
  simp [hf]
theorem find_miss {s : ByteArray} (h : ∀ g ∈ fnsL, g.name ≠ s) : findF s = none := List.find?_eq_none.2 (fun g hg => by simpa using h g hg)
theorem find_ret {tmps : Array Value} {Z : World} {b1 b2 : Nat} {f : Fu} {v : Bool} (h2 : tmps.getD 2 undef = .pointer (some ⟨b1, 0, none⟩)) (h3 : tmps.getD 3 undef = .pointer (some ⟨b2, 0, none⟩)) (k1 : Z.heap[b1]? = some (.cells (fnC f).toArray 42 (0, 0))) (k2 : Boxed Z b2 4 (.bool v)) : (results Tryz.f22 tmps).run Tryz.prog Z = .ok (.tuple #[.agg (fnC f).toArray, .bool v]) Z := by
  have h2' : tmps[2]?.getD undef = .pointer (some ⟨b1, 0, none⟩) := by simpa using h2
  have h3' : tmps[3]?.getD undef = .pointer (some ⟨b2, 0, none⟩) := by simpa using h3
  have c2 := k2.cell
  have d : ∀ j, Z.cell? ⟨b1, j, none⟩ = (fnC f)[j]? := fun j => by simp [World.cell?, k1]
  have e0 : Z.cell? ⟨b1, 0, none⟩ = some (.string f.name) := d 0
  have e1 : Z.cell? ⟨b1, 1, none⟩ = some (.int .i64 f.least) := d 1
  have e2 : Z.cell? ⟨b1, 2, none⟩ = some (.int .i64 f.most) := d 2
  have e3 : Z.cell? ⟨b1, 3, none⟩ = some (.string f.wants) := d 3
  simp [results, Tryz.results22, h2', h3', asAddr, go_sem, c2, e0, e1, e2, e3, fnC]
set_option maxRecDepth 100000 in
set_option maxHeartbeats 2000000 in
theorem find_any (s : ByteArray) (w : World) : Calls Tryz.prog 22 #[.string s] w fun e w' => e = .returned (foundV (findF s)) ∧ Below w.heap.size w w' := by
  refine (callsIn_wide (n := 0)).1 ?_
  refine callsIn_of_wp_marks Tryz.func22 rfl trivial ?_ rfl
  simp only [Tryz.ntmps22, List.size_toArray, List.length_cons, List.length_nil, Nat.reduceAdd, Nat.reduceSub, Array.replicate_succ, Array.replicate_zero, List.push_toArray, List.append_toArray, List.nil_append, List.cons_append]
  gi_wp2_with (refine ⟨trivial, rfl, ?_⟩; gi_at_call 10; refine (callsIn_wide.2 (functions_any _)).mono ?_; rintro e wz ⟨rfl, hz⟩; subst wz)
  have b1 := Boxed.new w 9 (.string s)
  have k1 := b1.alloc (.cells #[.string ⟨#[]⟩, .int .i64 0, .int .i64 0, .string ⟨#[]⟩] 42)
  have k2 := World.alloc_heap_new (w.alloc (.cells #[.string s] 9)) (.cells #[.string ⟨#[]⟩, .int .i64 0, .int .i64 0, .string ⟨#[]⟩] 42)
  rw [World.size_alloc] at k2
  have hB0 : Below w.heap.size w (((w.alloc (.cells #[.string s] 9)).alloc (.cells #[.string ⟨#[]⟩, .int .i64 0, .int .i64 0, .string ⟨#[]⟩] 42)).alloc (.cells #[.bool false] 4)) := by repeat' (first | with_reducible exact Below.refl _ _ | with_reducible refine Below.setCell ?_ ?_ _ | with_reducible refine Below.alloc ?_ ?_ _ | with_reducible refine below_drewN ?_ _ | with_reducible refine Below.drew ?_ | with_reducible refine Below.trans ?_ (Below.mono (by assumption) ?_) | with_reducible exact Nat.le_refl _ | with_reducible refine Nat.le_trans ?_ (Below.size (by assumption)) | with_reducible refine Nat.le_trans ?_ (size_alloc _ _) | with_reducible refine Nat.le_trans ?_ (size_set _ _ _) | with_reducible refine Nat.le_trans ?_ (size_drewN _ _) | with_reducible refine Nat.le_trans ?_ (size_drew _) | (simp; done) | (simp; omega) | omega)
  obtain ⟨wa, hwa⟩ : ∃ wa, (w.alloc (.cells #[.string s] 9)).alloc (.cells #[.string ⟨#[]⟩, .int .i64 0, .int .i64 0, .string ⟨#[]⟩] 42) = wa := ⟨_, rfl⟩
  have za : wa.heap.size = w.heap.size + 1 + 1 := by rw [← hwa]; simp
  rw [hwa] at k1 k2 hB0 ⊢
  have k3 := Boxed.new wa 4 (.bool false)
  have j1 := k1.alloc (.cells #[.bool false] 4)
  have j2 : (wa.alloc (.cells #[.bool false] 4)).heap[w.heap.size + 1]? = some (.cells #[.string ⟨#[]⟩, .int .i64 0, .int .i64 0, .string ⟨#[]⟩] 42 (0, 0)) := (Below.heap_alloc wa _ _ (by omega)).trans k2
  rw [za] at k3
  obtain ⟨W0, hW0⟩ : ∃ W0, wa.alloc (.cells #[.bool false] 4) = W0 := ⟨_, rfl⟩
  have z0 : W0.heap.size = w.heap.size + 1 + 1 + 1 := by rw [← hW0]; simp; omega
  rw [hW0] at j1 j2 k3 hB0 ⊢
  have hr0 : rowAt W0 (w.heap.size + 1 + 1) = none := by unfold rowAt; rw [k3.cell]; rfl
  have s1 : Sf (w.heap.size + 1 + 1) W0 w.heap.size #[.string s] 9 := ⟨j1, by omega, by rw [hr0]; simp, by omega⟩
  have s2 : Sf (w.heap.size + 1 + 1) W0 (w.heap.size + 1) #[.string ⟨#[]⟩, .int .i64 0, .int .i64 0, .string ⟨#[]⟩] 42 := ⟨j2, by omega, by rw [hr0]; simp, by omega⟩
  have hRI : RowIn (w.heap.size + 1 + 1) W0 := ⟨by omega, fun g hg => by rw [hr0] at hg; cases hg⟩
  clear b1 k1 k2 hwa za j1 j2 hW0 wa
  refine rangeR (α := Fu) (B := w.heap.size + 1 + 1) (n₀ := w.heap.size) (X := fun _ => False) rfl (enters_of Tryz.func23 (by kernel_rfl) rfl) (functions_stops w.heap.size (w.heap.size + 1 + 1))
    (fun X hX => ⟨hRI.below hX, by have := hX.size; omega⟩) (fun _ => rfl) (by omega) (by omega) (fun _ h => h.elim)
    (fun pre X => (∀ f ∈ pre, f.name ≠ s) ∧ Sf (w.heap.size + 1 + 1) X w.heap.size #[.string s] 9 ∧ Sf (w.heap.size + 1 + 1) X (w.heap.size + 1) #[.string ⟨#[]⟩, .int .i64 0, .int .i64 0, .string ⟨#[]⟩] 42 ∧ Boxed X (w.heap.size + 1 + 1) 4 (.bool false) ∧ Below w.heap.size w X)
    (fun c pre X => (c = .ret ∧ ∃ (q : List Fu) (f : Fu), pre = q ++ [f] ∧ (∀ g ∈ q, g.name ≠ s) ∧ f.name = s) ∧ (∃ f : Fu, (∃ q, pre = q ++ [f]) ∧ X.heap[w.heap.size + 1]? = some (.cells (fnC f).toArray 42 (0, 0))) ∧ Boxed X (w.heap.size + 1 + 1) 4 (.bool true) ∧ Below w.heap.size w X)
    ?hI ?hIx ⟨by simp, s1, s2, k3, hB0⟩
    (fun x a' X => ∃ Bx, w.heap.size + 1 + 1 < Bx ∧ X.heap[Bx]? = some (.cells (fnC x).toArray 42 (0, 0)) ∧ a' = { tmps := #[.string s, .pointer (some ⟨w.heap.size, 0, none⟩), .pointer (some ⟨w.heap.size + 1, 0, none⟩), .pointer (some ⟨w.heap.size + 1 + 1, 0, none⟩), .pointer (some ⟨Bx, 0, none⟩), .func (.func 23) #[] #[], .agg (fnC x).toArray, undef, undef, undef, undef, undef, undef], defers := [] })
    ?hAx ?assign ?body ?done ?stop
  case hI => exact (ab_pure _ _ _ _).and ((ab_sf _ _ (by omega) (fun h => h) (by omega) (fun h => h)).and ((ab_sf _ _ (by omega) (fun h => h) (by omega) (fun h => h)).and ((ab_boxed _ _ (by omega) (fun h => h)).and (ab_below (Nat.le_refl _) (by omega) (fun _ h => h.elim)))))
  case hIx =>
    intro c
    refine (ab_pure _ _ _ (fun pre : List Fu => c = .ret ∧ ∃ (q : List Fu) (f : Fu), pre = q ++ [f] ∧ (∀ g ∈ q, g.name ≠ s) ∧ f.name = s)).and (Ab.and ?_ ((ab_boxed _ _ (by omega) (fun h => h)).and (ab_below (Nat.le_refl _) (by omega) (fun _ h => h.elim))))
    rintro pre A A' row ⟨f, hf, ha⟩ hg hr
    refine ⟨f, hf, (hg.block _ (Array.getElem?_eq_some_iff.1 ha).1 (fun e => ?_)).trans ha⟩
    rcases (hr _ e.symm).1 with h | h
    · exact h
    · omega
  case hAx =>
    rintro x a' _ A A' row ⟨Bx, h1, h2, h3⟩ hg hr
    refine ⟨Bx, h1, (hg.block Bx (Array.getElem?_eq_some_iff.1 h2).1 (fun e => ?_)).trans h2, h3⟩
    obtain ⟨_, o, ho, hc⟩ := hr Bx e.symm
    rw [h2] at ho
    cases ho
    cases hc
  case assign =>
    rintro l pre ⟨fn, fl, fm, fw⟩ X K ⟨h1, h2, h3, h4, h5⟩ hK
    have HK := hide hK
    have hX : w.heap.size + 1 + 1 < X.heap.size := h4.lt
    have hBX : Below X.heap.size X (X.alloc (.cells #[.string fn, .int .i64 fl, .int .i64 fm, .string fw] 42)) := (Below.refl _ _).alloc (Nat.le_refl _) _
    clear hK
    simp only [fnC]
    gi_wp2
    exact HK.out _ _ (keeps_of hBX) (KpR.of hBX (by omega) hX) ⟨h1, h2.below hBX, h3.below hBX, h4.alloc _, h5.trans (hBX.mono (by omega))⟩ ⟨X.heap.size, hX, World.alloc_heap_new X _, rfl⟩
  case body =>
    rintro l pre ⟨fn, fl, fm, fw⟩ _ X hl _ ⟨h1, h2, h3, h4, h5⟩ ⟨Bx, hx1, hx2, rfl⟩ hlen
    simp only [fnC] at *
    have c0 : X.cell? ⟨w.heap.size, 0, none⟩ = some (.string s) := h2.cell 0
    have cx : ∀ j, X.cell? ⟨Bx, j, none⟩ = (#[.string fn, .int .i64 fl, .int .i64 fm, .string fw] : Array Value)[j]? := fun j => by simp [World.cell?, hx2]
    have c1 : ∀ j, X.cell? ⟨w.heap.size + 1, j, none⟩ = (#[.string ⟨#[]⟩, .int .i64 0, .int .i64 0, .string ⟨#[]⟩] : Array Value)[j]? := fun j => h3.cell j
    have c2 := h4.cell
    have p2 := h4.frozen
    have p1 : ∀ j, X.frozen? ⟨w.heap.size + 1, j, none⟩ = false := fun j => by simp [World.frozen?, h3.at_]
    by_cases hq : fn = s
    · subst hq
      have H1 := hide h1
      have HX := hide h3.at_
      have H4 := hide h4
      have H5 := hide h5
      clear h1 h2 h3 h4 h5 hx2
      gi_wp2
      have y1 := heap_set (heap_set (heap_set (heap_set HX.out 0 (.string fn)) 1 (.int .i64 fl)) 2 (.int .i64 fm)) 3 (.string fw)
      refine ⟨(((((KeepsOthers.setCell _ _ _).trans (KeepsOthers.setCell _ _ _)).trans (KeepsOthers.setCell _ _ _)).trans (KeepsOthers.setCell _ _ _)).trans (KeepsOthers.setCell _ _ _)).from _, ⟨rfl, pre, _, rfl, H1.out, rfl⟩, ⟨_, ⟨pre, rfl⟩, (Below.heap_setCell _ ⟨w.heap.size + 1 + 1, 0, none⟩ _ (w.heap.size + 1) (by simp)).trans (by simpa using y1)⟩, ?_, ?_⟩
      · refine Boxed.set (v := .bool false) _ ?_
        unfold Boxed
        rw [Below.heap_setCell _ ⟨w.heap.size + 1, 3, none⟩ _ _ (by simp), Below.heap_setCell _ ⟨w.heap.size + 1, 2, none⟩ _ _ (by simp), Below.heap_setCell _ ⟨w.heap.size + 1, 1, none⟩ _ _ (by simp), Below.heap_setCell _ ⟨w.heap.size + 1, 0, none⟩ _ _ (by simp)]
        exact H4.out
      · have b5 := H5.out
        repeat' (first | with_reducible exact Below.refl _ _ | with_reducible refine Below.setCell ?_ ?_ _ | with_reducible refine Below.alloc ?_ ?_ _ | with_reducible refine below_drewN ?_ _ | with_reducible refine Below.drew ?_ | with_reducible refine Below.trans ?_ (Below.mono (by assumption) ?_) | with_reducible exact Nat.le_refl _ | with_reducible refine Nat.le_trans ?_ (Below.size (by assumption)) | with_reducible refine Nat.le_trans ?_ (size_alloc _ _) | with_reducible refine Nat.le_trans ?_ (size_set _ _ _) | with_reducible refine Nat.le_trans ?_ (size_drewN _ _) | with_reducible refine Nat.le_trans ?_ (size_drew _) | (simp; done) | (simp; omega) | omega)
    · have e0 := text_ne hq
      gi_wp2
      refine ⟨KeepsFrom.refl _ _, KpR.refl _ _ _, fun f hf => ?_, h2, h3, h4, h5⟩
      rcases List.mem_append.1 hf with hf | hf
      · exact h1 f hf
      · rw [List.mem_singleton.1 hf]; exact hq
  case done =>
    rintro D ys X hD rfl ⟨h1, h2, h3, h4, h5⟩ hd
    have c1 : ∀ j, X.cell? ⟨w.heap.size + 1, j, none⟩ = (#[.string ⟨#[]⟩, .int .i64 0, .int .i64 0, .string ⟨#[]⟩] : Array Value)[j]? := fun j => h3.cell j
    have c2 := h4.cell
    have p2 := h4.frozen
    have p1 : ∀ j, X.frozen? ⟨w.heap.size + 1, j, none⟩ = false := fun j => by simp [World.frozen?, h3.at_]
    have HF := hide (find_miss h1)
    have HX := hide h3.at_
    have H4 := hide h4
    have H5 := hide h5
    have HD := hide hd
    clear h1 h2 h3 h4 h5 hd
    gi_wp2
    have y1 := heap_set (heap_set (heap_set (heap_set HX.out 0 (.string ⟨#[]⟩)) 1 (.int .i64 0)) 2 (.int .i64 0)) 3 (.string ⟨#[]⟩)
    have y2 := (((((KeepsOthers.setCell X ⟨w.heap.size + 1, 0, none⟩ (.string ⟨#[]⟩)).trans (KeepsOthers.setCell _ ⟨w.heap.size + 1, 1, none⟩ (.int .i64 0))).trans (KeepsOthers.setCell _ ⟨w.heap.size + 1, 2, none⟩ (.int .i64 0))).trans (KeepsOthers.setCell _ ⟨w.heap.size + 1, 3, none⟩ (.string ⟨#[]⟩))).trans (KeepsOthers.setCell _ ⟨w.heap.size + 1 + 1, 0, none⟩ (.bool false))).same D _ HD.out rfl
    have b5 := H5.out
    refine leave_one y2 ⟨_, find_ret (f := zf) (v := false) rfl rfl (put_block y2 ((Below.heap_setCell _ ⟨w.heap.size + 1 + 1, 0, none⟩ _ (w.heap.size + 1) (by simp)).trans (by simpa [fnC, zf] using y1))) (put_block y2 ?_), by rw [HF.out]; rfl, put_below (by repeat' (first | with_reducible exact Below.refl _ _ | with_reducible refine Below.setCell ?_ ?_ _ | with_reducible refine Below.alloc ?_ ?_ _ | with_reducible refine below_drewN ?_ _ | with_reducible refine Below.drew ?_ | with_reducible refine Below.trans ?_ (Below.mono (by assumption) ?_) | with_reducible exact Nat.le_refl _ | with_reducible refine Nat.le_trans ?_ (Below.size (by assumption)) | with_reducible refine Nat.le_trans ?_ (size_alloc _ _) | with_reducible refine Nat.le_trans ?_ (size_set _ _ _) | with_reducible refine Nat.le_trans ?_ (size_drewN _ _) | with_reducible refine Nat.le_trans ?_ (size_drew _) | (simp; done) | (simp; omega) | omega)) (by omega)⟩
    refine Boxed.set (v := .bool false) _ ?_
    unfold Boxed
    rw [Below.heap_setCell _ ⟨w.heap.size + 1, 3, none⟩ _ _ (by simp), Below.heap_setCell _ ⟨w.heap.size + 1, 2, none⟩ _ _ (by simp), Below.heap_setCell _ ⟨w.heap.size + 1, 1, none⟩ _ _ (by simp), Below.heap_setCell _ ⟨w.heap.size + 1, 0, none⟩ _ _ (by simp)]
    exact H4.out
  case stop =>
    rintro D c pre X hD hpre ⟨⟨rfl, q, f, rfl, h1, h0⟩, ⟨f', ⟨q', hq'⟩, h2⟩, h3, h4⟩ hd
    obtain ⟨rfl, hx⟩ := List.append_inj' hq' rfl
    obtain rfl : f = f' := by simpa using hx
    have HF := hide (find_hit hpre h1 h0)
    gi_wp2
    exact leave_one hd ⟨_, find_ret (f := f) (v := true) rfl rfl (put_block hd h2) (put_block hd h3), by rw [HF.out]; rfl, put_below h4 (by omega)⟩
end Go.Proofs.YtklldmidcmfbdaaGreatDoor
