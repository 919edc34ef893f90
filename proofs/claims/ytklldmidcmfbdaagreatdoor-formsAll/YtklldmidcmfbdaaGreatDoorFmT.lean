/-
  The chapter's table of functions, as plain data; the contract of forms.table.
-/
import Derived.Test.YtklldmidcmfbdaaGreatDoorFmS
import Derived.Deep.WholeRow
import Derived.Deep.MidRow
namespace Go.Proofs.YtklldmidcmfbdaaGreatDoor
open Go.RowKit Go.Shelf

/-- A line of the table: its names, with blanks between; how many arguments; what is wanted, a letter each. -/
structure Gr where
  names : ByteArray
  least : Int
  most : Int
  wants : ByteArray
/-- The lines, by their numbers. -/
def g0 : Gr := ⟨⟨#[65, 66, 83, 32, 83, 73, 71, 78, 32, 73, 78, 84, 32, 83, 81, 82, 84, 32, 70, 65, 67, 84, 32, 69, 86, 69, 78, 32, 79, 68, 68, 32, 78, 79, 84, 32, 73, 83, 69, 82, 82, 79, 82, 32, 73, 83, 78, 65, 32, 73, 83, 66, 76, 65, 78, 75, 32, 73, 83, 78, 85, 77, 66, 69, 82, 32, 73, 83, 84, 69, 88, 84, 32, 73, 83, 76, 79, 71, 73, 67, 65, 76, 32, 76, 69, 78, 32, 85, 80, 80, 69, 82, 32, 76, 79, 87, 69, 82, 32, 84, 82, 73, 77, 32, 67, 72, 65, 82, 32, 67, 79, 68, 69, 32, 86, 65, 76, 85, 69, 32, 78, 32, 84, 32, 89, 69, 65, 82, 32, 77, 79, 78, 84, 72, 32, 68, 65, 89, 32, 87, 69, 69, 75, 68, 65, 89]⟩, 1, 1, ⟨#[86]⟩⟩
def g1 : Gr := ⟨⟨#[78, 65]⟩, 0, 0, ⟨#[]⟩⟩
def g2 : Gr := ⟨⟨#[82, 79, 85, 78, 68, 32, 82, 79, 85, 78, 68, 85, 80, 32, 82, 79, 85, 78, 68, 68, 79, 87, 78, 32, 77, 79, 68, 32, 80, 79, 87, 69, 82, 32, 81, 85, 79, 84, 73, 69, 78, 84, 32, 67, 69, 73, 76, 73, 78, 71, 32, 70, 76, 79, 79, 82, 32, 73, 70, 69, 82, 82, 79, 82, 32, 73, 70, 78, 65, 32, 82, 69, 80, 84, 32, 69, 88, 65, 67, 84, 32, 84, 69, 88, 84, 32, 69, 68, 65, 84, 69, 32, 68, 65, 89, 83]⟩, 2, 2, ⟨#[86, 86]⟩⟩
def g3 : Gr := ⟨⟨#[84, 82, 85, 78, 67, 32, 76, 69, 70, 84, 32, 82, 73, 71, 72, 84]⟩, 1, 2, ⟨#[86, 86]⟩⟩
def g4 : Gr := ⟨⟨#[70, 73, 78, 68, 32, 83, 69, 65, 82, 67, 72]⟩, 2, 3, ⟨#[86, 86, 86]⟩⟩
def g5 : Gr := ⟨⟨#[77, 73, 68, 32, 68, 65, 84, 69]⟩, 3, 3, ⟨#[86, 86, 86]⟩⟩
def g6 : Gr := ⟨⟨#[82, 69, 80, 76, 65, 67, 69]⟩, 4, 4, ⟨#[86, 86, 86, 86]⟩⟩
def g7 : Gr := ⟨⟨#[83, 85, 66, 83, 84, 73, 84, 85, 84, 69]⟩, 3, 4, ⟨#[86, 86, 86, 86]⟩⟩
def g8 : Gr := ⟨⟨#[73, 70]⟩, 2, 3, ⟨#[86, 86, 86]⟩⟩
def g9 : Gr := ⟨⟨#[67, 72, 79, 79, 83, 69]⟩, 2, 30, ⟨#[86, 86]⟩⟩
def g10 : Gr := ⟨⟨#[65, 78, 68, 32, 79, 82, 32, 88, 79, 82, 32, 83, 85, 77, 32, 80, 82, 79, 68, 85, 67, 84, 32, 83, 85, 77, 83, 81, 32, 67, 79, 85, 78, 84, 32, 67, 79, 85, 78, 84, 65, 32, 67, 79, 85, 78, 84, 66, 76, 65, 78, 75, 32, 65, 86, 69, 82, 65, 71, 69, 32, 77, 73, 78, 32, 77, 65, 88, 32, 77, 69, 68, 73, 65, 78, 32, 77, 79, 68, 69, 32, 71, 67, 68, 32, 76, 67, 77, 32, 67, 79, 78, 67, 65, 84]⟩, 1, 30, ⟨#[65]⟩⟩
def g11 : Gr := ⟨⟨#[83, 85, 77, 80, 82, 79, 68, 85, 67, 84]⟩, 1, 30, ⟨#[82]⟩⟩
def g12 : Gr := ⟨⟨#[76, 65, 82, 71, 69, 32, 83, 77, 65, 76, 76]⟩, 2, 2, ⟨#[82, 86]⟩⟩
def g13 : Gr := ⟨⟨#[82, 65, 78, 75]⟩, 2, 3, ⟨#[86, 82, 86]⟩⟩
def g14 : Gr := ⟨⟨#[67, 79, 85, 78, 84, 73, 70]⟩, 2, 2, ⟨#[82, 86]⟩⟩
def g15 : Gr := ⟨⟨#[83, 85, 77, 73, 70, 32, 65, 86, 69, 82, 65, 71, 69, 73, 70]⟩, 2, 3, ⟨#[82, 86, 82]⟩⟩
def g16 : Gr := ⟨⟨#[86, 76, 79, 79, 75, 85, 80, 32, 72, 76, 79, 79, 75, 85, 80]⟩, 3, 4, ⟨#[86, 82, 86, 86]⟩⟩
def g17 : Gr := ⟨⟨#[77, 65, 84, 67, 72]⟩, 2, 3, ⟨#[86, 82, 86]⟩⟩
def g18 : Gr := ⟨⟨#[73, 78, 68, 69, 88]⟩, 2, 3, ⟨#[82, 86, 86]⟩⟩
def g19 : Gr := ⟨⟨#[82, 79, 87, 83, 32, 67, 79, 76, 85, 77, 78, 83]⟩, 1, 1, ⟨#[82]⟩⟩
def g20 : Gr := ⟨⟨#[82, 79, 87, 32, 67, 79, 76, 85, 77, 78]⟩, 1, 1, ⟨#[82]⟩⟩
def tabG : List Gr := [g0, g1, g2, g3, g4, g5, g6, g7, g8, g9, g10, g11, g12, g13, g14, g15, g16, g17, g18, g19, g20]
/-- A line's cells. -/
def grC (g : Gr) : List Value := [.string g.names, .int .i64 g.least, .int .i64 g.most, .string g.wants]
def tabC : List Value := tabG.flatMap grC
theorem wpl_any {P : Program} {ops : Array Oper} {l : List Oper} {a : Act} {w : World} {Q : Exit → Act → World → Prop} (h : wpList P ops Q l a w) : wpList P ops Q l a w := h
theorem tab_one : tabC.toArray.all (·.oneCell') = true := by kernel_rfl
theorem tab_size : (Tryz.prog.info? 79).map (·.size) = some tabC.toArray.size := by kernel_rfl
/-- A whole value stored into the block that was just laid. -/
theorem wpl_newV {P : Program} {ops : Array Oper} {rest : List Oper} {o : Oper} {a : Act} {W w : World} {Q : Exit → Act → World → Prop} (hgd : o.guard = none) (t : TypeId) (x y : Operand) (ho : o.op = .store t x y) {c c' : Array Value}
    (hW : W = w.alloc (.cells c t)) (hx : a.eval x = .pointer (some ⟨w.heap.size, 0, none⟩)) (hy : a.eval y = .agg c') (hi : (P.info? t).map (·.size) = some c'.size) (hc : c.size = c'.size) (h1 : c'.all (·.oneCell') = true)
    (hk : wpList P ops Q rest (a.put o.dst undef) (w.alloc (.cells c' t))) : wpList P ops Q (o :: rest) a W := by
  subst hW
  refine wpList_plain hgd fun K hK => wp_store_row t x y ho w.heap.size c' hx hy t c (World.alloc_heap_new w _) hi hc h1 (hK _ _ ?_)
  rw [World.setRow_alloc_new]
  exact hk
theorem tab_ret {fn : Func} {p : Tmp} (hf : fn.results = #[.cell p 79]) {tmps : Array Value} {w : World} {b : Nat} (k : w.heap[b]? = some (.cells tabC.toArray 79 (0, 0))) (hp : tmps.getD p undef = .pointer (some ⟨b, 0, none⟩)) : (results fn tmps).run Tryz.prog w = .ok (.agg tabC.toArray) w := by
  have hp' : tmps[p]?.getD undef = .pointer (some ⟨b, 0, none⟩) := by simpa using hp
  simp [results, hf, hp', asAddr, run_loadVar_row w b 79 79 tabC.toArray (0, 0) _ k Tryz.underlying79 rfl tab_size]
set_option maxRecDepth 100000 in
set_option maxHeartbeats 4000000 in
theorem table_any (w : World) : Calls Tryz.prog 24 #[] w fun e w' => e = .returned (.agg tabC.toArray) ∧ Below w.heap.size w w' := by
  go_enter Tryz.func24, Tryz.ntmps24
  go_wp2_with (with_reducible refine wpl_any ?_; refine wpl_newV (c' := tabC.toArray) rfl 79 _ _ rfl rfl rfl (by kernel_rfl) tab_size (by kernel_rfl) tab_one ?_)
  refine bodyPost_ret (tab_ret rfl (World.alloc_heap_new w _) rfl) rfl ⟨rfl, (Below.refl _ _).alloc (Nat.le_refl _) _⟩
end Go.Proofs.YtklldmidcmfbdaaGreatDoor
