/-
  The contract of forms.sortBy: a row of forms is put in the order of their names.
-/
import Derived.Test.YtklldmidcmfbdaaGreatDoorFmA1
import Derived.Test.YtklldmidcmfbdaaGreatDoorShelf2
import Derived.Test.YtklldmidcmfbdaaGreatDoorFmG
import Derived.Sort.Walk0
namespace Go.Proofs.YtklldmidcmfbdaaGreatDoor
open Go.RowKit Go.Sort Go.Shelf

/-- A form's cells, its row of wants being given. -/
def fvC (x : Fu × Value) : List Value := [.string x.1.name, .int .i64 x.1.least, .int .i64 x.1.most, x.2]
def zfv : Fu × Value := (zf, .slice none 0 0)
def encF (F : List (Fu × Value)) (i : Nat) : List Value := fvC (F.getD i zfv)
def nmF (F : List (Fu × Value)) (i : Nat) : ByteArray := (F.getD i zfv).1.name
def cfF (F : List (Fu × Value)) (i j : Nat) : Int := cmpT (nmF F i) (nmF F j)
theorem ltF (F : List (Fu × Value)) (i j : Nat) : ltOf (cfF F) i j = Op.bytesLess (nmF F i).toList (nmF F j).toList := by
  unfold ltOf cfF cmpT
  cases h1 : Op.bytesLess (nmF F i).toList (nmF F j).toList with
  | true => simp
  | false =>
    simp only [Bool.false_eq_true, if_false]
    by_cases h2 : ((nmF F i).toList == (nmF F j).toList) = true
    · rw [if_pos h2]; simp
    · rw [if_neg h2]; simp
theorem swoF (F : List (Fu × Value)) : SWO (ltOf (cfF F)) where
  irrefl x := by rw [ltF, bytesLess_eq]; simp
  trans x y z h1 h2 := by
    rw [ltF, bytesLess_eq] at *
    simp only [decide_eq_true_eq] at *
    exact List.lt_trans h1 h2
  ntrans x y z h1 h2 := by
    rw [ltF, bytesLess_eq] at *
    simp only [decide_eq_false_iff_not, List.not_lt] at *
    exact List.le_trans h2 h1
theorem sort_block {α : Type} [Inhabited α] (enc : α → List Value) (k : Nat) (W : World) (blk off n : Nat) (dk : Array α) (os : Array Obj) (b : Nat) (h1 : b ≠ blk) (h2 : b < W.heap.size) : (sortWorldK enc k W blk off n dk os).heap[b]? = W.heap[b]? := by
  unfold sortWorldK grow putRowK putRow mapBlock Go.Sort.ahead
  show (W.heap.modify blk _ ++ os)[b]? = _
  rw [Array.getElem?_append_left (by simpa using h2), Array.getElem?_modify, if_neg (Ne.symm h1)]
theorem sort_size {α : Type} [Inhabited α] (enc : α → List Value) (k : Nat) (W : World) (blk off n : Nat) (dk : Array α) (os : Array Obj) : W.heap.size ≤ (sortWorldK enc k W blk off n dk os).heap.size := by
  unfold sortWorldK grow putRowK putRow mapBlock Go.Sort.ahead
  simp
theorem aE : ∀ w, (isAgg 27).run Tryz.prog w = .ok true w := Tryz.isAgg27
theorem zE : ∀ w, (Go.sizeOf 27).run Tryz.prog w = .ok 4 w := Tryz.sizeOf27
theorem one_enc (F : List (Fu × Value)) (hF : ∀ x ∈ F, x.2.oneCell' = true) (x : Nat) (v : Value) (hv : v ∈ encF F x) : v.oneCell' = true := by
  unfold encF fvC at hv
  simp only [List.mem_cons, List.not_mem_nil, or_false] at hv
  rcases hv with rfl | rfl | rfl | rfl
  · rfl
  · rfl
  · rfl
  · by_cases hx : x < F.length
    · rw [List.getD_eq_getElem?_getD, List.getElem?_eq_getElem hx]
      exact hF _ (List.getElem_mem hx)
    · rw [List.getD_eq_getElem?_getD, List.getElem?_eq_none (by omega)]
      rfl
set_option maxHeartbeats 2000000 in
theorem sortBy_any (F : List (Fu × Value)) (hF : ∀ x ∈ F, x.2.oneCell' = true) (g cap : Nat) (w : World) (hg : g < w.heap.size) (hn : F.length < 1000) (hH : HoldsK (encF F) 4 w g 0 (Array.range F.length)) :
    Calls Tryz.prog 12 #[.slice (some ⟨g, 0, none⟩) F.length cap, .func (.func 13) #[] #[]] w fun e w' => e = .returned (.tuple #[]) ∧ ∃ d : Array Nat, d.toList.Perm (List.range F.length) ∧ (∀ i j, i < j → j < F.length → Op.bytesLess (nmF F d[j]!).toList (nmF F d[i]!).toList = false) ∧ HoldsK (encF F) 4 w' g 0 d ∧ w.grownBy w' (some g) := by
  obtain ⟨W1, hW1⟩ : ∃ W1, W1 = w.alloc (.cells #[.func (.func 13) #[] #[]] 45) := ⟨_, rfl⟩
  have hz1 : W1.heap.size = w.heap.size + 1 := by rw [hW1]; simp
  have hc1 : W1.cell? ⟨w.heap.size, 0, none⟩ = some (.func (.func 13) #[] #[]) := by rw [hW1]; simp
  have hH1 : HoldsK (encF F) 4 W1 g 0 (Array.range F.length) := by
    intro j hj
    obtain ⟨q1, q2⟩ := hH j hj
    rw [hW1]
    exact ⟨by rw [Below.cell ((Below.refl w.heap.size w).alloc (Nat.le_refl _) _) (p := ⟨g, 0 + j, none⟩) hg]; exact q1, by rw [World.frozen?_of_block (w := w) (a := ⟨g, 0 + j, none⟩) (Below.heap_alloc w _ g hg)]; exact q2⟩
  have hB1 : Below w.heap.size w W1 := by rw [hW1]; exact (Below.refl _ _).alloc (Nat.le_refl _) _
  have hcmp : CmpLays Tryz.prog 28 #[.pointer (some ⟨w.heap.size, 0, none⟩)] (encF F) 4 (cfF F) g 0 (Array.range F.length).size W1 := fun m os dk hdk x y => by
    refine cmpF_any w.heap.size _ _ _ _ _ _ _ _ _ ?_ ?_
    · exact Nat.lt_of_lt_of_le (by omega) (sort_size _ _ _ _ _ _ _ _)
    · rw [cell?_sortWorldK_other _ _ _ _ _ _ _ _ _ (by show w.heap.size ≠ g; omega) (by show w.heap.size < _; omega)]
      exact hc1
  have eg : ∀ args w, (callFunc 28 args).run Tryz.prog w = .ok (.enter 28 args) w := enters_of Tryz.func28 (by kernel_rfl) rfl
  have hcon := AnyQ.slices_SortFunc Tryz.sort_laid 4 aE zE (encF F) (fun _ => rfl) (fun x v hv => one_enc F hF x v hv) (cfF F) (swoF F) 28 #[.pointer (some ⟨w.heap.size, 0, none⟩)] g 0 cap (Array.range F.length) W1 eg hcmp hH1 (by omega) (by simp; omega)
  change Calls Tryz.prog 27 _ _ _ at hcon
  simp only [Array.size_range] at hcon
  rw [hW1] at hcon hH1
  have HC := hide hcon
  have HH := hide hH1
  clear hcon hcmp hH hH1 eg hc1 hB1 hz1 hW1
  go_enter Tryz.func12, Tryz.ntmps12
  go_wp2_with (go_at_call 27; refine HC.out.mono ?_; rintro e w2 ⟨rfl, d, n, os, hp, hs, rfl⟩)
  go_end0
  obtain ⟨p1, _, p3⟩ := hp
  have p1' : d.size = F.length := by simpa using p1
  have e1 : d.extract 0 F.length = d := by rw [← p1']; simp
  have e2 : (Array.range F.length).extract 0 F.length = Array.range F.length := by
    have : (Array.range F.length).size = F.length := by simp
    conv => lhs; rw [show F.length = (Array.range F.length).size by simp]
    simp
  rw [e1, e2, Array.toList_range] at p3
  refine ⟨rfl, d, p3, fun i j hij hj => ?_, ?_, ?_⟩
  · have := hs i j (Nat.zero_le _) hij hj
    rwa [ltF] at this
  · exact holdsK_sortWorldK_c _ _ _ _ _ _ _ _ _ HH.out (by simp; omega) p1
  · refine ⟨rfl, rfl, rfl, ?_, fun k hk hne => ?_⟩
    · have := sort_size (encF F) 4 (w.alloc (.cells #[.func (.func 13) #[] #[]] 45)) g 0 n d os
      simp at this
      omega
    · rw [sort_block _ _ _ _ _ _ _ _ _ (fun e => hne (by rw [e])) (by simp; omega)]
      exact Below.heap_alloc w _ k hk
end Go.Proofs.YtklldmidcmfbdaaGreatDoor
