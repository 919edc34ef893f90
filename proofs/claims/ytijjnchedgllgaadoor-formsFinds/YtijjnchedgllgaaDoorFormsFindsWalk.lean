/-
  The walk of FormsFinds.
-/
import Derived.Test.YtijjnchedgllgaaDoorFmB2
import Derived.Test.YtijjnchedgllgaaDoorFmV
namespace Go.Proofs.YtijjnchedgllgaaDoor
open Go.RowKit Go.Shelf

theorem found_small (s : ByteArray) : ((findF s).getD zf).wants.size ≤ 4 := by
  cases hf : findF s with
  | none => exact Nat.zero_le _
  | some f => exact (fn_fine (find_mem hf)).1
set_option maxRecDepth 100000 in
set_option maxHeartbeats 4000000 in
theorem formsFinds_walk (s : ByteArray) (w : World) (_hs : s.size ≤ maxLen) :
    Calls Tryd.prog 3 #[.string s] w fun e w' => e = .returned (.bool true) ∧ Below w.heap.size w w' := by
  have H1 : Hid (∀ W : World, Calls Tryd.prog 7 #[.string s] W fun e w' => ∃ v, e = .returned (.tuple #[.agg #[.string ((findF s).getD zf).name, .int .i64 ((findF s).getD zf).least, .int .i64 ((findF s).getD zf).most, v], .int .i64 (findE (findF s))]) ∧ Wts w' v (wantsI ((findF s).getD zf).wants ((findF s).getD zf).wants.size) ∧ Below W.heap.size W w') := fun W => by
    refine (formsFind_any s W).mono ?_
    rintro e w' ⟨v, he, ho, hb⟩
    exact ⟨v, he, Wts.of ho, hb⟩
  have H2 : Hid (∀ W : World, Calls Tryd.prog 8 #[.string s] W fun e w' => ∃ v, e = .returned (.tuple #[.agg #[.string ((findF s).getD zf).name, .int .i64 ((findF s).getD zf).least, .int .i64 ((findF s).getD zf).most, v], .int .i64 (findE (findF s))]) ∧ Wts w' v (wantsI ((findF s).getD zf).wants ((findF s).getD zf).wants.size) ∧ Below W.heap.size W w') := fun W => by
    refine (rfind_any s W).mono ?_
    rintro e w' ⟨v, he, ho, hb⟩
    exact ⟨v, he, Wts.of ho, hb⟩
  have hl : (wantsI ((findF s).getD zf).wants ((findF s).getD zf).wants.size).length ≤ 4 := by
    have := found_small s
    simpa [wantsI] using this
  have HL : Hid (∀ W : World, Calls Tryd.prog 10 #[] W fun e w' => e = .returned (.bool true) ∧ Below W.heap.size W w') := fun W => lives9_any W
  generalize wantsI ((findF s).getD zf).wants ((findF s).getD zf).wants.size = l at *
  generalize findE (findF s) = E at *
  generalize (findF s).getD zf = f at *
  obtain ⟨fn, x, y, ws⟩ := f
  simp only at H1 H2
  have HS : Hid (∀ (v u : Value) (W : World), Wts W v l → Wts W u l → Calls Tryd.prog 9 #[.agg #[.string fn, .int .i64 x, .int .i64 y, v], .agg #[.string fn, .int .i64 x, .int .i64 y, u]] W fun e w' => e = .returned (.bool true) ∧ Below W.heap.size W w') := fun v u W h1 h2 => same_eq fn x y v u l W hl h1 h2
  clear hl
  go_enter Tryd.func3, Tryd.ntmps3
  go_wp2_with (first | (go_at_call 7; refine (H1.out _).mono ?_; rintro e w1 ⟨v, rfl, hv, hb1⟩; obtain ⟨pv, cv, rfl, hv2⟩ := id hv; have HV := hide hv; have HB1 := hide hb1; have hz1 := hb1.size; clear hv hv2 hb1) | (go_at_call 8; refine (H2.out _).mono ?_; rintro e w2 ⟨u, rfl, hu, hb2⟩; obtain ⟨pu, cu, rfl, hu2⟩ := id hu; have HU := hide hu; have HB2 := hide hb2; have hz2 := hb2.size; have hq2 := World.alloc_heap_new w1 (.cells #[.string fn, .int .i64 x, .int .i64 y, .slice pv l.length cv] 24); have c2 : ∀ j, w2.cell? ⟨w1.heap.size, j, none⟩ = (#[.string fn, .int .i64 x, .int .i64 y, .slice pv l.length cv] : Array Value)[j]? := (fun j => by have := (hb2.block w1.heap.size (by simp)).trans hq2; simp [World.cell?, this]); have hz3 : w1.heap.size < w2.heap.size := (by simp at hz2; omega); clear hu hu2 hb2 hq2) | (go_at_call 9; refine (HS.out _ _ _ ?_ ?_).mono ?_; (focus (exact (HV.out.below ((((Below.refl _ w1).alloc (Nat.le_refl _) _).trans (HB2.out.mono (by simp))).alloc (by omega) _)))); (focus (exact HU.out.below ((Below.refl _ w2).alloc (Nat.le_refl _) _))); rintro e w3 ⟨rfl, hb3⟩; have HB3 := hide hb3; clear hb3) | (go_at_call 10; refine (HL.out _).mono ?_; rintro e w4 ⟨rfl, hb4⟩; have HB4 := hide hb4; clear hb4))
  go_ret
  have b1 := HB1.out
  have b2 := HB2.out
  have b3 := HB3.out
  have b4 := HB4.out
  exact ⟨rfl, by repeat' (first | with_reducible exact Below.refl _ _ | with_reducible refine Below.setCell ?_ ?_ _ | with_reducible refine Below.alloc ?_ ?_ _ | with_reducible refine below_drewN ?_ _ | with_reducible refine Below.drew ?_ | with_reducible refine Below.trans ?_ (Below.mono (by assumption) ?_) | with_reducible exact Nat.le_refl _ | with_reducible refine Nat.le_trans ?_ (Below.size (by assumption)) | with_reducible refine Nat.le_trans ?_ (size_alloc _ _) | with_reducible refine Nat.le_trans ?_ (size_set _ _ _) | with_reducible refine Nat.le_trans ?_ (size_drewN _ _) | with_reducible refine Nat.le_trans ?_ (size_drew _) | (simp; done) | (simp; omega) | omega)⟩
end Go.Proofs.YtijjnchedgllgaaDoor
