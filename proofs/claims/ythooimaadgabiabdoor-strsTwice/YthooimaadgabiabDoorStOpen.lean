/-
  A row of texts that came in as an argument: what it is.
-/
import Derived.Test.YthooimaadgabiabDoorSt1
import Derived.SliceStrings
import Derived.ProofKit
import Derived.OpenShut
import Derived.ChangeArms
import Derived.Deep.Slices
namespace Go.Proofs.YthooimaadgabiabDoor
open Go.ChangeShapes Go.WideShapes Go.ChangeAt Go.RowKit

set_option linter.constructorNameAsVariable false in
set_option maxRecDepth 100000 in
theorem open_texts {H : Type} {enc : TypeId × Value → H} {W : World} {base : Nat} {sp : Nat → Bool} {r : Reach} {b0 : Nat} {v : Value} {d : DataW H} {ps : List MemPlace}
    (hval : Value.okWide Tryd.prog W r b0 56 v) (hd : DataW.Trod enc Tryd.prog W base sp true 56 v d ps) :
    ∃ l : List By, SlIs W v l ∧ l.length ≤ maxLen ∧ ∀ x ∈ l, x.length ≤ maxLen := by
  obtain ⟨a0, len0, cap0, rfl⟩ := okWide_slice Tryd.underlying56 hval
  obtain ⟨fuel, hf⟩ := hd
  rcases open_strings Tryd.underlying56 Tryd.underlying9 (by kernel_rfl) hf with ⟨hcs, _⟩ | ⟨a, len, cap, ss, hcs, _, hl, hm, hz, _, hcell, hwz⟩
  · simp [Value.cells] at hcs
    obtain ⟨rfl, rfl, rfl⟩ := hcs
    exact ⟨[], .inl ⟨rfl, _, _, rfl⟩, by simp, fun x hx => by cases hx⟩
  · simp [Value.cells] at hcs
    obtain ⟨rfl, rfl, rfl⟩ := hcs
    have hlen : len0 ≤ ss.length := by rw [hz]; split <;> omega
    refine ⟨(ss.take len0).map fun s => s.data.toList, ?_, by rw [List.length_map, List.length_take]; omega, fun x hx => ?_⟩
    · by_cases h0 : len0 = 0
      · subst h0
        exact .inl ⟨by simp, _, _, rfl⟩
      · obtain ⟨g, o, sp'⟩ := a
        have c0 := hcell 0 (by omega)
        have hs : sp' = none := by
          cases sp' with
          | none => rfl
          | some n =>
            simp only [Addr.add, if_true, World.cell?] at c0
            split at c0 <;> simp at c0
        subst hs
        have hg : g < W.heap.size := by
          rcases Nat.lt_or_ge g W.heap.size with h | h
          · exact h
          · simp [Addr.add, World.cell?, Array.getElem?_eq_none h] at c0
        refine .inr ⟨g, o, cap0, by rw [List.length_map, List.length_take, Nat.min_eq_left hlen], hg, fun i x hx => ?_⟩
        rw [List.getElem?_map, Option.map_eq_some_iff] at hx
        obtain ⟨s, hs, rfl⟩ := hx
        obtain ⟨h1, h2⟩ := List.getElem?_eq_some_iff.1 hs
        rw [List.length_take] at h1
        have ci := hcell i (by omega)
        have e1 : (⟨g, o, none⟩ : Addr).add i = ⟨g, o + i, none⟩ := by
          unfold Addr.add
          by_cases hi : i = 0
          · subst hi; rfl
          · rw [if_neg hi]
        rw [e1] at ci
        rw [ci]
        rw [List.getElem_take] at h2
        have e2 : ss.getD i ByteArray.empty = s := by
          rw [List.getD_eq_getElem?_getD, List.getElem?_eq_getElem (by omega), h2]; rfl
        rw [e2]
    · obtain ⟨s, hs, rfl⟩ := List.mem_map.1 hx
      have := hwz s (List.mem_of_mem_take hs)
      rw [Array.length_toList]; exact this
end Go.Proofs.YthooimaadgabiabDoor
