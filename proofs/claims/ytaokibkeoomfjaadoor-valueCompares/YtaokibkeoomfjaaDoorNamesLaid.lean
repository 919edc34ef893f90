/-
  What the row's condition on the listed variables gives the walks: the table of names.
-/
import Derived.Test.YtaokibkeoomfjaaDoorLaid
import Derived.Test.YtaokibkeoomfjaaDoorLives4
import Derived.Test.YtaokibkeoomfjaaDoorShape
namespace Go.Proofs.YtaokibkeoomfjaaDoor
open Go Go.RowKit

/-- An array of strings that reads as a list of texts holds them, cell by cell. -/
theorem cells_of_strs {H : Type} {enc : TypeId × Value → H} {P : Program} {w : World} {base : Nat} {sp : Nat → Bool} {held : Bool} {fuel : Nat} {t e : TypeId} {n : Nat} {cs : List Value} {ls : List (List UInt8)} {p : List MemPlace}
    (ht : P.underlying t = some (.array n e)) (he : P.underlying e = some .string) (hce : P.cellsOf e = 1) (hct : P.cellsOf t = n)
    (h : DataW.trod enc P w base sp held fuel t cs = some (.agg (ls.map fun l => .lit (.string l)), p)) : cs = ls.map fun l => Value.string ⟨l.toArray⟩ := by
  cases fuel with
  | zero => simp [DataW.trod] at h
  | succ fuel =>
    simp only [DataW.trod, ht, hce, hct, Nat.mul_one] at h
    split at h
    · obtain ⟨xs, hm, hx⟩ := Option.map_eq_some_iff.1 h
      have e1 : xs.map (·.1) = ls.map fun l => (DataW.lit (.string l) : DataW H) := by
        have := congrArg Prod.fst hx
        simpa using this
      have l1 : xs.length = n := by simpa using Lib.mapM_length hm
      have l2 : ls.length = n := by
        have := congrArg List.length e1
        simp at this; omega
      refine List.ext_getElem? fun i => ?_
      by_cases hi : i < n
      · obtain ⟨y, hy, hf⟩ := Lib.mapM_at hm i i (by simp [hi])
        obtain ⟨s, hs, rfl, _⟩ := DataW.trod_string he hf
        have c1 : cs[i]? = some (.string s) := by
          have := congrArg (·[0]?) hs
          simpa [List.getElem?_take, List.getElem?_drop] using this
        have c2 : (xs.map (·.1))[i]? = some (DataW.lit (.string s.data.toList) : DataW H) := by simp [hy]
        rw [e1] at c2
        simp only [List.getElem?_map, Option.map_eq_some_iff, DataW.lit.injEq, Lit.string.injEq] at c2
        obtain ⟨l, hl, rfl⟩ := c2
        rw [c1, List.getElem?_map, hl]
        simp
      · rw [List.getElem?_eq_none (by omega), List.getElem?_eq_none (by simp; omega)]
    · cases h
theorem gNamesType : (Tryd.prog.globals[0]?).map (·.type) = some 70 := by kernel_rfl
theorem names_of_laid {W : World} (h : laidMetH Tryd.prog Rows.valueCountsRow.laid W) : NamesOk W := by
  rw [MakeChecks.laidMetH_plain _ _ _ (by kernel_rfl)] at h
  obtain ⟨ps, ⟨g', t', cs, fuel, p, q, hg', ht', hvar, hd, _, _⟩, _⟩ := h.tail.tail.tail.tail
  obtain rfl := Option.some.inj (gNames.symm.trans hg')
  obtain rfl := Option.some.inj (gNamesType.symm.trans ht')
  unfold NamesOk
  have hd' : DataW.trod (fun _ => ()) Tryd.prog W 0 (fun _ => true) false fuel 70 cs.toList = some (.agg (names.map fun l => .lit (.string l)), p) := hd
  rw [hvar, ← cells_of_strs Tryd.underlying70 Tryd.underlying9 (by kernel_rfl) (by kernel_rfl) hd']
theorem env_of_laid {W : World} (h : laidMetH Tryd.prog Rows.valueCountsRow.laid W) (hs : W.ShapedOpen Tryd.prog) : Env W := ⟨tab_of_laid h, cellOk_of_shape hs, names_of_laid h⟩
end Go.Proofs.YtaokibkeoomfjaaDoor
