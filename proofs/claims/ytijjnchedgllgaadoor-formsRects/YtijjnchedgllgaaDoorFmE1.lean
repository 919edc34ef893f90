/-
  The answer's plain, by kinds (made by plaingen2.py).
-/
import Derived.Test.YtijjnchedgllgaaDoorFmE0b
import Derived.Deep.RegionHeld3
namespace Go.Proofs.YtijjnchedgllgaaDoor
open Go.RowKit Go.Shelf

set_option maxRecDepth 100000 in
set_option maxHeartbeats 8000000 in
theorem plain_1 (vk : Int) (vn : Int) (vs : List UInt8) (vb : Bool) (vc : Int) (row : Int) (col : Int) (fr : Bool) (fc : Bool) (row2 : Int) (col2 : Int) (fr2 : Bool) (fc2 : Bool) (txt : List UInt8) (a : Option Addr) (n cap : Nat) (w : World) :
    Calls Tryd.prog 57 #[.agg (hdC (⟨1, vk, vn, vs, vb, vc, row, col, fr, fc, row2, col2, fr2, fc2, txt⟩ : Hd) (.slice a n cap)).toArray] w fun e w' => e = .returned (.bool (plainB (⟨1, vk, vn, vs, vb, vc, row, col, fr, fc, row2, col2, fr2, fc2, txt⟩ : Hd))) ∧ Below w.heap.size w w' := by
  have key : ((row == 0) = false) ∨ (row = 0 ∧ (col == 0) = false) ∨ (row = 0 ∧ col = 0 ∧ fr = true) ∨ (row = 0 ∧ col = 0 ∧ fr = false ∧ fc = true) ∨ (row = 0 ∧ col = 0 ∧ fr = false ∧ fc = false ∧ (row2 == 0) = false) ∨ (row = 0 ∧ col = 0 ∧ fr = false ∧ fc = false ∧ row2 = 0 ∧ (col2 == 0) = false) ∨ (row = 0 ∧ col = 0 ∧ fr = false ∧ fc = false ∧ row2 = 0 ∧ col2 = 0 ∧ fr2 = true) ∨ (row = 0 ∧ col = 0 ∧ fr = false ∧ fc = false ∧ row2 = 0 ∧ col2 = 0 ∧ fr2 = false ∧ fc2 = true) ∨ (row = 0 ∧ col = 0 ∧ fr = false ∧ fc = false ∧ row2 = 0 ∧ col2 = 0 ∧ fr2 = false ∧ fc2 = false ∧ (txt == []) = false) ∨ (row = 0 ∧ col = 0 ∧ fr = false ∧ fc = false ∧ row2 = 0 ∧ col2 = 0 ∧ fr2 = false ∧ fc2 = false ∧ txt = []) := by
    by_cases h0 : row = 0
    case neg => exact .inl (by simpa using h0)
    by_cases h1 : col = 0
    case neg => exact .inr (.inl ⟨h0, (by simpa using h1)⟩)
    by_cases h2 : fr = false
    case neg => exact .inr (.inr (.inl ⟨h0, h1, (by simpa using h2)⟩))
    by_cases h3 : fc = false
    case neg => exact .inr (.inr (.inr (.inl ⟨h0, h1, h2, (by simpa using h3)⟩)))
    by_cases h4 : row2 = 0
    case neg => exact .inr (.inr (.inr (.inr (.inl ⟨h0, h1, h2, h3, (by simpa using h4)⟩))))
    by_cases h5 : col2 = 0
    case neg => exact .inr (.inr (.inr (.inr (.inr (.inl ⟨h0, h1, h2, h3, h4, (by simpa using h5)⟩)))))
    by_cases h6 : fr2 = false
    case neg => exact .inr (.inr (.inr (.inr (.inr (.inr (.inl ⟨h0, h1, h2, h3, h4, h5, (by simpa using h6)⟩))))))
    by_cases h7 : fc2 = false
    case neg => exact .inr (.inr (.inr (.inr (.inr (.inr (.inr (.inl ⟨h0, h1, h2, h3, h4, h5, h6, (by simpa using h7)⟩)))))))
    by_cases h8 : txt = []
    case neg => exact .inr (.inr (.inr (.inr (.inr (.inr (.inr (.inr (.inl ⟨h0, h1, h2, h3, h4, h5, h6, h7, (by simpa using h8)⟩))))))))
    exact .inr (.inr (.inr (.inr (.inr (.inr (.inr (.inr (.inr (⟨h0, h1, h2, h3, h4, h5, h6, h7, h8⟩)))))))))
  have HX := hide (Box.new w (hdC (⟨1, vk, vn, vs, vb, vc, row, col, fr, fc, row2, col2, fr2, fc2, txt⟩ : Hd) (.slice a n cap)))
  have p0 := HX.out.cell 0 (.int .i64 1) rfl
  have HB := hide ((Below.refl w.heap.size w).alloc (Nat.le_refl _) (.cells (hdC (⟨1, vk, vn, vs, vb, vc, row, col, fr, fc, row2, col2, fr2, fc2, txt⟩ : Hd) (.slice a n cap)).toArray 44))
  have hz0 : (w.alloc (.cells (hdC (⟨1, vk, vn, vs, vb, vc, row, col, fr, fc, row2, col2, fr2, fc2, txt⟩ : Hd) (.slice a n cap)).toArray 44)).heap.size = w.heap.size + 1 := by simp
  rcases key with q | ⟨rfl, q⟩ | ⟨rfl, rfl, rfl⟩ | ⟨rfl, rfl, rfl, rfl⟩ | ⟨rfl, rfl, rfl, rfl, q⟩ | ⟨rfl, rfl, rfl, rfl, rfl, q⟩ | ⟨rfl, rfl, rfl, rfl, rfl, rfl, rfl⟩ | ⟨rfl, rfl, rfl, rfl, rfl, rfl, rfl, rfl⟩ | ⟨rfl, rfl, rfl, rfl, rfl, rfl, rfl, rfl, q⟩ | ⟨rfl, rfl, rfl, rfl, rfl, rfl, rfl, rfl, rfl⟩
  all_goals
    go_enter Tryd.func57, Tryd.ntmps57
    go_wp2_with (first | (with_reducible refine wpl_id ?_; refine wpl_buildN rfl 44 _ rfl (qs := #[(0, .int .i64 1)]) rfl (run_kind 1 _) ?_) | (with_reducible refine wpl_id ?_; refine wpl_newG rfl _ _ rfl rfl hz0 rfl rfl HX.out HB.out ?_; intro W2 k1 k2 hB2 hz2; obtain ⟨d0, d1, d2, d3, d4, d5, d6, d7, d8, d9, d10, d11, d12, d13, d14⟩ := node_cells k1; obtain ⟨g0, g1, g2, g3, g4, g5, g6, g7, g8, g9, g10, g11, g12, g13, g14⟩ := node_cells k2; have fz := k2.froz; clear k1 k2 p0 hz0 HX HB))
    go_ret
    refine ⟨congrArg (fun b => Ending.returned (Value.bool b)) (Eq.symm ?_), (((((hB2.setCell (Nat.le_succ _) _).setCell (Nat.le_succ _) _).setCell (Nat.le_succ _) _).setCell (Nat.le_succ _) _).setCell (Nat.le_succ _) _)⟩
    unfold plainB; (try unfold noVal); (try unfold noCell); (try unfold noTo)
    first | (simp at q; simp [q]; done) | (simp; done)
set_option maxRecDepth 100000 in
set_option maxHeartbeats 8000000 in
theorem plain_2 (vk : Int) (vn : Int) (vs : List UInt8) (vb : Bool) (vc : Int) (row : Int) (col : Int) (fr : Bool) (fc : Bool) (row2 : Int) (col2 : Int) (fr2 : Bool) (fc2 : Bool) (txt : List UInt8) (a : Option Addr) (n cap : Nat) (w : World) :
    Calls Tryd.prog 57 #[.agg (hdC (⟨2, vk, vn, vs, vb, vc, row, col, fr, fc, row2, col2, fr2, fc2, txt⟩ : Hd) (.slice a n cap)).toArray] w fun e w' => e = .returned (.bool (plainB (⟨2, vk, vn, vs, vb, vc, row, col, fr, fc, row2, col2, fr2, fc2, txt⟩ : Hd))) ∧ Below w.heap.size w w' := by
  have key : ((vk == 0) = false) ∨ (vk = 0 ∧ (vn == 0) = false) ∨ (vk = 0 ∧ vn = 0 ∧ (vs == []) = false) ∨ (vk = 0 ∧ vn = 0 ∧ vs = [] ∧ vb = true) ∨ (vk = 0 ∧ vn = 0 ∧ vs = [] ∧ vb = false ∧ (vc == 0) = false) ∨ (vk = 0 ∧ vn = 0 ∧ vs = [] ∧ vb = false ∧ vc = 0 ∧ (row2 == 0) = false) ∨ (vk = 0 ∧ vn = 0 ∧ vs = [] ∧ vb = false ∧ vc = 0 ∧ row2 = 0 ∧ (col2 == 0) = false) ∨ (vk = 0 ∧ vn = 0 ∧ vs = [] ∧ vb = false ∧ vc = 0 ∧ row2 = 0 ∧ col2 = 0 ∧ fr2 = true) ∨ (vk = 0 ∧ vn = 0 ∧ vs = [] ∧ vb = false ∧ vc = 0 ∧ row2 = 0 ∧ col2 = 0 ∧ fr2 = false ∧ fc2 = true) ∨ (vk = 0 ∧ vn = 0 ∧ vs = [] ∧ vb = false ∧ vc = 0 ∧ row2 = 0 ∧ col2 = 0 ∧ fr2 = false ∧ fc2 = false ∧ (txt == []) = false) ∨ (vk = 0 ∧ vn = 0 ∧ vs = [] ∧ vb = false ∧ vc = 0 ∧ row2 = 0 ∧ col2 = 0 ∧ fr2 = false ∧ fc2 = false ∧ txt = []) := by
    by_cases h0 : vk = 0
    case neg => exact .inl (by simpa using h0)
    by_cases h1 : vn = 0
    case neg => exact .inr (.inl ⟨h0, (by simpa using h1)⟩)
    by_cases h2 : vs = []
    case neg => exact .inr (.inr (.inl ⟨h0, h1, (by simpa using h2)⟩))
    by_cases h3 : vb = false
    case neg => exact .inr (.inr (.inr (.inl ⟨h0, h1, h2, (by simpa using h3)⟩)))
    by_cases h4 : vc = 0
    case neg => exact .inr (.inr (.inr (.inr (.inl ⟨h0, h1, h2, h3, (by simpa using h4)⟩))))
    by_cases h5 : row2 = 0
    case neg => exact .inr (.inr (.inr (.inr (.inr (.inl ⟨h0, h1, h2, h3, h4, (by simpa using h5)⟩)))))
    by_cases h6 : col2 = 0
    case neg => exact .inr (.inr (.inr (.inr (.inr (.inr (.inl ⟨h0, h1, h2, h3, h4, h5, (by simpa using h6)⟩))))))
    by_cases h7 : fr2 = false
    case neg => exact .inr (.inr (.inr (.inr (.inr (.inr (.inr (.inl ⟨h0, h1, h2, h3, h4, h5, h6, (by simpa using h7)⟩)))))))
    by_cases h8 : fc2 = false
    case neg => exact .inr (.inr (.inr (.inr (.inr (.inr (.inr (.inr (.inl ⟨h0, h1, h2, h3, h4, h5, h6, h7, (by simpa using h8)⟩))))))))
    by_cases h9 : txt = []
    case neg => exact .inr (.inr (.inr (.inr (.inr (.inr (.inr (.inr (.inr (.inl ⟨h0, h1, h2, h3, h4, h5, h6, h7, h8, (by simpa using h9)⟩)))))))))
    exact .inr (.inr (.inr (.inr (.inr (.inr (.inr (.inr (.inr (.inr (⟨h0, h1, h2, h3, h4, h5, h6, h7, h8, h9⟩))))))))))
  have HX := hide (Box.new w (hdC (⟨2, vk, vn, vs, vb, vc, row, col, fr, fc, row2, col2, fr2, fc2, txt⟩ : Hd) (.slice a n cap)))
  have p0 := HX.out.cell 0 (.int .i64 2) rfl
  have HB := hide ((Below.refl w.heap.size w).alloc (Nat.le_refl _) (.cells (hdC (⟨2, vk, vn, vs, vb, vc, row, col, fr, fc, row2, col2, fr2, fc2, txt⟩ : Hd) (.slice a n cap)).toArray 44))
  have hz0 : (w.alloc (.cells (hdC (⟨2, vk, vn, vs, vb, vc, row, col, fr, fc, row2, col2, fr2, fc2, txt⟩ : Hd) (.slice a n cap)).toArray 44)).heap.size = w.heap.size + 1 := by simp
  rcases key with q | ⟨rfl, q⟩ | ⟨rfl, rfl, q⟩ | ⟨rfl, rfl, rfl, rfl⟩ | ⟨rfl, rfl, rfl, rfl, q⟩ | ⟨rfl, rfl, rfl, rfl, rfl, q⟩ | ⟨rfl, rfl, rfl, rfl, rfl, rfl, q⟩ | ⟨rfl, rfl, rfl, rfl, rfl, rfl, rfl, rfl⟩ | ⟨rfl, rfl, rfl, rfl, rfl, rfl, rfl, rfl, rfl⟩ | ⟨rfl, rfl, rfl, rfl, rfl, rfl, rfl, rfl, rfl, q⟩ | ⟨rfl, rfl, rfl, rfl, rfl, rfl, rfl, rfl, rfl, rfl⟩
  all_goals
    go_enter Tryd.func57, Tryd.ntmps57
    go_wp2_with (first | (with_reducible refine wpl_id ?_; refine wpl_buildN rfl 44 _ rfl (qs := #[(0, .int .i64 2)]) rfl (run_kind 2 _) ?_) | (with_reducible refine wpl_id ?_; refine wpl_newG rfl _ _ rfl rfl hz0 rfl rfl HX.out HB.out ?_; intro W2 k1 k2 hB2 hz2; obtain ⟨d0, d1, d2, d3, d4, d5, d6, d7, d8, d9, d10, d11, d12, d13, d14⟩ := node_cells k1; obtain ⟨g0, g1, g2, g3, g4, g5, g6, g7, g8, g9, g10, g11, g12, g13, g14⟩ := node_cells k2; have fz := k2.froz; clear k1 k2 p0 hz0 HX HB))
    go_ret
    refine ⟨congrArg (fun b => Ending.returned (Value.bool b)) (Eq.symm ?_), ((((hB2.setCell (Nat.le_succ _) _).setCell (Nat.le_succ _) _).setCell (Nat.le_succ _) _).setCell (Nat.le_succ _) _)⟩
    unfold plainB; (try unfold noVal); (try unfold noCell); (try unfold noTo)
    first | (simp at q; simp [q]; done) | (simp; done)
set_option maxRecDepth 100000 in
set_option maxHeartbeats 8000000 in
theorem plain_3 (vk : Int) (vn : Int) (vs : List UInt8) (vb : Bool) (vc : Int) (row : Int) (col : Int) (fr : Bool) (fc : Bool) (row2 : Int) (col2 : Int) (fr2 : Bool) (fc2 : Bool) (txt : List UInt8) (a : Option Addr) (n cap : Nat) (w : World) :
    Calls Tryd.prog 57 #[.agg (hdC (⟨3, vk, vn, vs, vb, vc, row, col, fr, fc, row2, col2, fr2, fc2, txt⟩ : Hd) (.slice a n cap)).toArray] w fun e w' => e = .returned (.bool (plainB (⟨3, vk, vn, vs, vb, vc, row, col, fr, fc, row2, col2, fr2, fc2, txt⟩ : Hd))) ∧ Below w.heap.size w w' := by
  have key : ((vk == 0) = false) ∨ (vk = 0 ∧ (vn == 0) = false) ∨ (vk = 0 ∧ vn = 0 ∧ (vs == []) = false) ∨ (vk = 0 ∧ vn = 0 ∧ vs = [] ∧ vb = true) ∨ (vk = 0 ∧ vn = 0 ∧ vs = [] ∧ vb = false ∧ (vc == 0) = false) ∨ (vk = 0 ∧ vn = 0 ∧ vs = [] ∧ vb = false ∧ vc = 0 ∧ (txt == []) = false) ∨ (vk = 0 ∧ vn = 0 ∧ vs = [] ∧ vb = false ∧ vc = 0 ∧ txt = []) := by
    by_cases h0 : vk = 0
    case neg => exact .inl (by simpa using h0)
    by_cases h1 : vn = 0
    case neg => exact .inr (.inl ⟨h0, (by simpa using h1)⟩)
    by_cases h2 : vs = []
    case neg => exact .inr (.inr (.inl ⟨h0, h1, (by simpa using h2)⟩))
    by_cases h3 : vb = false
    case neg => exact .inr (.inr (.inr (.inl ⟨h0, h1, h2, (by simpa using h3)⟩)))
    by_cases h4 : vc = 0
    case neg => exact .inr (.inr (.inr (.inr (.inl ⟨h0, h1, h2, h3, (by simpa using h4)⟩))))
    by_cases h5 : txt = []
    case neg => exact .inr (.inr (.inr (.inr (.inr (.inl ⟨h0, h1, h2, h3, h4, (by simpa using h5)⟩)))))
    exact .inr (.inr (.inr (.inr (.inr (.inr (⟨h0, h1, h2, h3, h4, h5⟩))))))
  have HX := hide (Box.new w (hdC (⟨3, vk, vn, vs, vb, vc, row, col, fr, fc, row2, col2, fr2, fc2, txt⟩ : Hd) (.slice a n cap)))
  have p0 := HX.out.cell 0 (.int .i64 3) rfl
  have HB := hide ((Below.refl w.heap.size w).alloc (Nat.le_refl _) (.cells (hdC (⟨3, vk, vn, vs, vb, vc, row, col, fr, fc, row2, col2, fr2, fc2, txt⟩ : Hd) (.slice a n cap)).toArray 44))
  have hz0 : (w.alloc (.cells (hdC (⟨3, vk, vn, vs, vb, vc, row, col, fr, fc, row2, col2, fr2, fc2, txt⟩ : Hd) (.slice a n cap)).toArray 44)).heap.size = w.heap.size + 1 := by simp
  rcases key with q | ⟨rfl, q⟩ | ⟨rfl, rfl, q⟩ | ⟨rfl, rfl, rfl, rfl⟩ | ⟨rfl, rfl, rfl, rfl, q⟩ | ⟨rfl, rfl, rfl, rfl, rfl, q⟩ | ⟨rfl, rfl, rfl, rfl, rfl, rfl⟩
  all_goals
    go_enter Tryd.func57, Tryd.ntmps57
    go_wp2_with (first | (with_reducible refine wpl_id ?_; refine wpl_buildN rfl 44 _ rfl (qs := #[(0, .int .i64 3)]) rfl (run_kind 3 _) ?_) | (with_reducible refine wpl_id ?_; refine wpl_newG rfl _ _ rfl rfl hz0 rfl rfl HX.out HB.out ?_; intro W2 k1 k2 hB2 hz2; obtain ⟨d0, d1, d2, d3, d4, d5, d6, d7, d8, d9, d10, d11, d12, d13, d14⟩ := node_cells k1; obtain ⟨g0, g1, g2, g3, g4, g5, g6, g7, g8, g9, g10, g11, g12, g13, g14⟩ := node_cells k2; have fz := k2.froz; clear k1 k2 p0 hz0 HX HB))
    have HK : Hid (∀ (W : World) (j : Nat) (u : Value), (W.cell? ⟨w.heap.size, 6, none⟩ = some (.int .i64 row) ∧ W.cell? ⟨w.heap.size, 7, none⟩ = some (.int .i64 col) ∧ W.cell? ⟨w.heap.size, 8, none⟩ = some (.bool fr) ∧ W.cell? ⟨w.heap.size, 9, none⟩ = some (.bool fc) ∧ W.cell? ⟨w.heap.size, 10, none⟩ = some (.int .i64 row2) ∧ W.cell? ⟨w.heap.size, 11, none⟩ = some (.int .i64 col2) ∧ W.cell? ⟨w.heap.size, 12, none⟩ = some (.bool fr2) ∧ W.cell? ⟨w.heap.size, 13, none⟩ = some (.bool fc2)) → ((W.setCell ⟨w.heap.size + 1, j, none⟩ u).cell? ⟨w.heap.size, 6, none⟩ = some (.int .i64 row) ∧ (W.setCell ⟨w.heap.size + 1, j, none⟩ u).cell? ⟨w.heap.size, 7, none⟩ = some (.int .i64 col) ∧ (W.setCell ⟨w.heap.size + 1, j, none⟩ u).cell? ⟨w.heap.size, 8, none⟩ = some (.bool fr) ∧ (W.setCell ⟨w.heap.size + 1, j, none⟩ u).cell? ⟨w.heap.size, 9, none⟩ = some (.bool fc) ∧ (W.setCell ⟨w.heap.size + 1, j, none⟩ u).cell? ⟨w.heap.size, 10, none⟩ = some (.int .i64 row2) ∧ (W.setCell ⟨w.heap.size + 1, j, none⟩ u).cell? ⟨w.heap.size, 11, none⟩ = some (.int .i64 col2) ∧ (W.setCell ⟨w.heap.size + 1, j, none⟩ u).cell? ⟨w.heap.size, 12, none⟩ = some (.bool fr2) ∧ (W.setCell ⟨w.heap.size + 1, j, none⟩ u).cell? ⟨w.heap.size, 13, none⟩ = some (.bool fc2))) := fun W j u ⟨c0, c1, c2, c3, c4, c5, c6, c7⟩ => ⟨(World.cell?_setCell_other _ _ _ _ (by intro e; have := congrArg Addr.block e; simp at this)).trans c0, (World.cell?_setCell_other _ _ _ _ (by intro e; have := congrArg Addr.block e; simp at this)).trans c1, (World.cell?_setCell_other _ _ _ _ (by intro e; have := congrArg Addr.block e; simp at this)).trans c2, (World.cell?_setCell_other _ _ _ _ (by intro e; have := congrArg Addr.block e; simp at this)).trans c3, (World.cell?_setCell_other _ _ _ _ (by intro e; have := congrArg Addr.block e; simp at this)).trans c4, (World.cell?_setCell_other _ _ _ _ (by intro e; have := congrArg Addr.block e; simp at this)).trans c5, (World.cell?_setCell_other _ _ _ _ (by intro e; have := congrArg Addr.block e; simp at this)).trans c6, (World.cell?_setCell_other _ _ _ _ (by intro e; have := congrArg Addr.block e; simp at this)).trans c7⟩
    have HD : Hid (∀ W : World, (W.cell? ⟨w.heap.size, 6, none⟩ = some (.int .i64 row) ∧ W.cell? ⟨w.heap.size, 7, none⟩ = some (.int .i64 col) ∧ W.cell? ⟨w.heap.size, 8, none⟩ = some (.bool fr) ∧ W.cell? ⟨w.heap.size, 9, none⟩ = some (.bool fc) ∧ W.cell? ⟨w.heap.size, 10, none⟩ = some (.int .i64 row2) ∧ W.cell? ⟨w.heap.size, 11, none⟩ = some (.int .i64 col2) ∧ W.cell? ⟨w.heap.size, 12, none⟩ = some (.bool fr2) ∧ W.cell? ⟨w.heap.size, 13, none⟩ = some (.bool fc2)) → (fun W : World => W.cell? ⟨w.heap.size, 6, none⟩ = some (.int .i64 row) ∧ W.cell? ⟨w.heap.size, 7, none⟩ = some (.int .i64 col) ∧ W.cell? ⟨w.heap.size, 8, none⟩ = some (.bool fr) ∧ W.cell? ⟨w.heap.size, 9, none⟩ = some (.bool fc) ∧ W.cell? ⟨w.heap.size, 10, none⟩ = some (.int .i64 row2) ∧ W.cell? ⟨w.heap.size, 11, none⟩ = some (.int .i64 col2) ∧ W.cell? ⟨w.heap.size, 12, none⟩ = some (.bool fr2) ∧ W.cell? ⟨w.heap.size, 13, none⟩ = some (.bool fc2)) W.drew) := fun W h => h
    have hs0 : W2.cell? ⟨w.heap.size, 6, none⟩ = some (.int .i64 row) ∧ W2.cell? ⟨w.heap.size, 7, none⟩ = some (.int .i64 col) ∧ W2.cell? ⟨w.heap.size, 8, none⟩ = some (.bool fr) ∧ W2.cell? ⟨w.heap.size, 9, none⟩ = some (.bool fc) ∧ W2.cell? ⟨w.heap.size, 10, none⟩ = some (.int .i64 row2) ∧ W2.cell? ⟨w.heap.size, 11, none⟩ = some (.int .i64 col2) ∧ W2.cell? ⟨w.heap.size, 12, none⟩ = some (.bool fr2) ∧ W2.cell? ⟨w.heap.size, 13, none⟩ = some (.bool fc2) := ⟨d6, d7, d8, d9, d10, d11, d12, d13⟩
    refine wp_region_held_drew (S := fun W => W.cell? ⟨w.heap.size, 6, none⟩ = some (.int .i64 row) ∧ W.cell? ⟨w.heap.size, 7, none⟩ = some (.int .i64 col) ∧ W.cell? ⟨w.heap.size, 8, none⟩ = some (.bool fr) ∧ W.cell? ⟨w.heap.size, 9, none⟩ = some (.bool fc) ∧ W.cell? ⟨w.heap.size, 10, none⟩ = some (.int .i64 row2) ∧ W.cell? ⟨w.heap.size, 11, none⟩ = some (.int .i64 col2) ∧ W.cell? ⟨w.heap.size, 12, none⟩ = some (.bool fr2) ∧ W.cell? ⟨w.heap.size, 13, none⟩ = some (.bool fc2)) (by kernel_rfl) (HD.out _ hs0) (fun hHeld => ?_)
    (refine takeD (i := 0) (some 21) rfl rfl (by kernel_rfl) (by kernel_rfl) (by kernel_rfl) (fun _ _ _ h => h) (v := ?_) rfl ?_ (by assumption) ?_; rotate_left; (focus (intro w hSw; (try dsimp only at hSw); first | (go_simp; done) | (go_simp; with_reducible rfl))); try simp only [Act.put, List.setIfInBounds_toArray, List.set_cons_zero, List.set_cons_succ]); (refine takeD (i := 1) (some 22) rfl rfl (by kernel_rfl) (by kernel_rfl) (by kernel_rfl) (fun _ _ _ h => h) (v := ?_) rfl ?_ (by assumption) ?_; rotate_left; (focus (intro w hSw; (try dsimp only at hSw); first | (go_simp; done) | (go_simp; with_reducible rfl))); try simp only [Act.put, List.setIfInBounds_toArray, List.set_cons_zero, List.set_cons_succ]); (refine takeD (i := 2) (some 23) rfl rfl (by kernel_rfl) (by kernel_rfl) (by kernel_rfl) (fun _ _ _ h => h) (v := ?_) rfl ?_ (by assumption) ?_; rotate_left; (focus (intro w hSw; (try dsimp only at hSw); first | (go_simp; done) | (go_simp; with_reducible rfl))); try simp only [Act.put, List.setIfInBounds_toArray, List.set_cons_zero, List.set_cons_succ]); (refine takeD (i := 3) (some 24) rfl rfl (by kernel_rfl) (by kernel_rfl) (by kernel_rfl) (fun _ _ _ h => h) (v := ?_) rfl ?_ (by assumption) ?_; rotate_left; (focus (intro w hSw; (try dsimp only at hSw); first | (go_simp; done) | (go_simp; with_reducible rfl))); try simp only [Act.put, List.setIfInBounds_toArray, List.set_cons_zero, List.set_cons_succ]); (refine takeD (i := 4) (some 25) rfl rfl (by kernel_rfl) (by kernel_rfl) (by kernel_rfl) (fun _ _ _ h => h) (v := ?_) rfl ?_ (by assumption) ?_; rotate_left; (focus (intro w hSw; (try dsimp only at hSw); first | (go_simp; done) | (go_simp; with_reducible rfl))); try simp only [Act.put, List.setIfInBounds_toArray, List.set_cons_zero, List.set_cons_succ])
    refine wpAnyH_ready (rs := [5]) (by kernel_rfl) (by simp) ?_
    refine readyP (o := _) rfl rfl (fun K hK => ?_) AllReadyH.nil
    go_simp
    refine hK.out _ _ (HD.out _ (HK.out _ _ _ (HK.out _ _ _ (HK.out _ _ _ (HK.out _ _ _ hs0))))) (fun hHeld => ?_)
    clear hK K
    (refine takeD (i := 6) (some 26) rfl rfl (by kernel_rfl) (by kernel_rfl) (by kernel_rfl) (fun _ _ _ h => h) (v := ?_) rfl ?_ (by assumption) ?_; rotate_left; (focus (intro w hSw; (try dsimp only at hSw); first | (go_simp; done) | (go_simp; with_reducible rfl))); try simp only [Act.put, List.setIfInBounds_toArray, List.set_cons_zero, List.set_cons_succ])
    refine wpAnyH_ready (rs := [7]) (by kernel_rfl) (by simp) ?_
    refine readyP (o := _) rfl rfl (fun K hK => ?_) AllReadyH.nil
    go_simp
    refine hK.out _ _ (HD.out _ (HK.out _ _ _ (HK.out _ _ _ (HK.out _ _ _ (HK.out _ _ _ (HK.out _ _ _ (HK.out _ _ _ (HK.out _ _ _ (HK.out _ _ _ hs0))))))))) (fun hHeld => ?_)
    clear hK K
    refine wpAnyH_done (by kernel_rfl) ?_ _
    go_wp2
    go_ret
    refine ⟨congrArg (fun b => Ending.returned (Value.bool b)) (Eq.symm ?_), by repeat' (first | with_reducible exact Below.refl _ _ | with_reducible refine Below.setCell ?_ ?_ _ | with_reducible refine Below.alloc ?_ ?_ _ | with_reducible refine below_drewN ?_ _ | with_reducible refine Below.drew ?_ | with_reducible refine Below.trans ?_ (Below.mono (by assumption) ?_) | with_reducible exact Nat.le_refl _ | with_reducible refine Nat.le_trans ?_ (Below.size (by assumption)) | with_reducible refine Nat.le_trans ?_ (size_alloc _ _) | with_reducible refine Nat.le_trans ?_ (size_set _ _ _) | with_reducible refine Nat.le_trans ?_ (size_drewN _ _) | with_reducible refine Nat.le_trans ?_ (size_drew _) | (simp; done) | (simp; omega) | omega)⟩
    unfold plainB; (try unfold noVal); (try unfold noCell); (try unfold noTo)
    first | (simp at q; simp [q]; done) | (simp; done)
end Go.Proofs.YtijjnchedgllgaaDoor
