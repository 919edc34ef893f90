/-
  Out of FmE1, FmE2, FmE3, FmE4, what is asked for (laid by pack9.py).
-/
import Derived.Test.YtfpmmckpobpokaaGreatMZE
import Derived.DeepKeys4
import Derived.WideKeyEntry
set_option maxRecDepth 100000
set_option maxHeartbeats 4000000
namespace Go.Proofs.YtfpmmckpobpokaaGreat
section
open Go.RowKit Go.Shelf
theorem plain_1 (vk : Int) (vn : Int) (vs : List UInt8) (vb : Bool) (vc : Int) (row : Int) (col : Int) (fr : Bool) (fc : Bool) (row2 : Int) (col2 : Int) (fr2 : Bool) (fc2 : Bool) (txt : List UInt8) (a : Option Addr) (n cap : Nat) (w : World) :
  Calls Tryz.prog 79 #[.agg (hdC (⟨1, vk, vn, vs, vb, vc, row, col, fr, fc, row2, col2, fr2, fc2, txt⟩ : Hd) (.slice a n cap)).toArray] w fun e w' => e = .returned (.bool (plainB (⟨1, vk, vn, vs, vb, vc, row, col, fr, fc, row2, col2, fr2, fc2, txt⟩ : Hd))) ∧ Below w.heap.size w w' := by
 have key : ((row == 0) = false) ∨ (row = 0 ∧ (col == 0) = false) ∨ (row = 0 ∧ col = 0 ∧ fr = true) ∨ (row = 0 ∧ col = 0 ∧ fr = false ∧ fc = true) ∨ (row = 0 ∧ col = 0 ∧ fr = false ∧ fc = false ∧ (row2 == 0) = false) ∨ (row = 0 ∧ col = 0 ∧ fr = false ∧ fc = false ∧ row2 = 0 ∧ (col2 == 0) = false) ∨ (row = 0 ∧ col = 0 ∧ fr = false ∧ fc = false ∧ row2 = 0 ∧ col2 = 0 ∧ fr2 = true) ∨ (row = 0 ∧ col = 0 ∧ fr = false ∧ fc = false ∧ row2 = 0 ∧ col2 = 0 ∧ fr2 = false ∧ fc2 = true) ∨ (row = 0 ∧ col = 0 ∧ fr = false ∧ fc = false ∧ row2 = 0 ∧ col2 = 0 ∧ fr2 = false ∧ fc2 = false ∧ (txt == []) = false) ∨ (row = 0 ∧ col = 0 ∧ fr = false ∧ fc = false ∧ row2 = 0 ∧ col2 = 0 ∧ fr2 = false ∧ fc2 = false ∧ txt = []) := by
  by_cases h0 : row = 0
  case neg => exact .inl (by simpa using h0)
  by_cases h1 : col = 0
  case neg => exact .inr (.inl ⟨h0, (by simpa using h1)⟩)
  by_cases h2 : fr = false
  case neg => exact .inr (.inr (.inl ⟨h0, h1, (by simpa using h2)⟩))
  by_cases h3 : fc = false
  case neg => exact .inr (.inr (.inr (.inl ⟨h0, h1, h2, (by simpa using h3)⟩)))
  by_cases h4 : row2 = 0
  case neg => exact .inr (.inr (.inr (.inr (.inl ⟨h0, h1, h2, h3, (by simpa using h4)⟩))))
  by_cases h5 : col2 = 0
  case neg => exact .inr (.inr (.inr (.inr (.inr (.inl ⟨h0, h1, h2, h3, h4, (by simpa using h5)⟩)))))
  by_cases h6 : fr2 = false
  case neg => exact .inr (.inr (.inr (.inr (.inr (.inr (.inl ⟨h0, h1, h2, h3, h4, h5, (by simpa using h6)⟩))))))
  by_cases h7 : fc2 = false
  case neg => exact .inr (.inr (.inr (.inr (.inr (.inr (.inr (.inl ⟨h0, h1, h2, h3, h4, h5, h6, (by simpa using h7)⟩)))))))
  by_cases h8 : txt = []
  case neg => exact .inr (.inr (.inr (.inr (.inr (.inr (.inr (.inr (.inl ⟨h0, h1, h2, h3, h4, h5, h6, h7, (by simpa using h8)⟩))))))))
  exact .inr (.inr (.inr (.inr (.inr (.inr (.inr (.inr (.inr (⟨h0, h1, h2, h3, h4, h5, h6, h7, h8⟩)))))))))
 have HX := hide (Box.new w (hdC (⟨1, vk, vn, vs, vb, vc, row, col, fr, fc, row2, col2, fr2, fc2, txt⟩ : Hd) (.slice a n cap)))
 have p0 := HX.out.cell 0 (.int .i64 1) rfl
 have HB := hide ((Below.refl w.heap.size w).alloc (Nat.le_refl _) (.cells (hdC (⟨1, vk, vn, vs, vb, vc, row, col, fr, fc, row2, col2, fr2, fc2, txt⟩ : Hd) (.slice a n cap)).toArray 33))
 have hz0 : (w.alloc (.cells (hdC (⟨1, vk, vn, vs, vb, vc, row, col, fr, fc, row2, col2, fr2, fc2, txt⟩ : Hd) (.slice a n cap)).toArray 33)).heap.size = w.heap.size + 1 := by simp
 rcases key with q | ⟨rfl, q⟩ | ⟨rfl, rfl, rfl⟩ | ⟨rfl, rfl, rfl, rfl⟩ | ⟨rfl, rfl, rfl, rfl, q⟩ | ⟨rfl, rfl, rfl, rfl, rfl, q⟩ | ⟨rfl, rfl, rfl, rfl, rfl, rfl, rfl⟩ | ⟨rfl, rfl, rfl, rfl, rfl, rfl, rfl, rfl⟩ | ⟨rfl, rfl, rfl, rfl, rfl, rfl, rfl, rfl, q⟩ | ⟨rfl, rfl, rfl, rfl, rfl, rfl, rfl, rfl, rfl⟩
 all_goals
  go_enter Tryz.func79, Tryz.ntmps79
  go_wp2_with (first | (with_reducible refine wpl_id ?_; refine wpl_buildN rfl 33 _ rfl (qs := #[(0, .int .i64 1)]) rfl (run_kind 1 _) ?_) | (with_reducible refine wpl_id ?_; refine wpl_newG rfl _ _ rfl rfl hz0 rfl rfl HX.out HB.out ?_; intro W2 k1 k2 hB2 hz2; obtain ⟨d0, d1, d2, d3, d4, d5, d6, d7, d8, d9, d10, d11, d12, d13, d14⟩ := node_cells k1; obtain ⟨g0, g1, g2, g3, g4, g5, g6, g7, g8, g9, g10, g11, g12, g13, g14⟩ := node_cells k2; have fz := k2.froz; clear k1 k2 p0 hz0 HX HB))
  go_ret
  refine ⟨congrArg (fun b => Ending.returned (Value.bool b)) (Eq.symm ?_), (((((hB2.setCell (Nat.le_succ _) _).setCell (Nat.le_succ _) _).setCell (Nat.le_succ _) _).setCell (Nat.le_succ _) _).setCell (Nat.le_succ _) _)⟩
  unfold plainB; (try unfold noVal); (try unfold noCell); (try unfold noTo)
  first | (simp at q; simp [q]; done) | (simp; done)
theorem plain_2 (vk : Int) (vn : Int) (vs : List UInt8) (vb : Bool) (vc : Int) (row : Int) (col : Int) (fr : Bool) (fc : Bool) (row2 : Int) (col2 : Int) (fr2 : Bool) (fc2 : Bool) (txt : List UInt8) (a : Option Addr) (n cap : Nat) (w : World) :
  Calls Tryz.prog 79 #[.agg (hdC (⟨2, vk, vn, vs, vb, vc, row, col, fr, fc, row2, col2, fr2, fc2, txt⟩ : Hd) (.slice a n cap)).toArray] w fun e w' => e = .returned (.bool (plainB (⟨2, vk, vn, vs, vb, vc, row, col, fr, fc, row2, col2, fr2, fc2, txt⟩ : Hd))) ∧ Below w.heap.size w w' := by
 have key : ((vk == 0) = false) ∨ (vk = 0 ∧ (vn == 0) = false) ∨ (vk = 0 ∧ vn = 0 ∧ (vs == []) = false) ∨ (vk = 0 ∧ vn = 0 ∧ vs = [] ∧ vb = true) ∨ (vk = 0 ∧ vn = 0 ∧ vs = [] ∧ vb = false ∧ (vc == 0) = false) ∨ (vk = 0 ∧ vn = 0 ∧ vs = [] ∧ vb = false ∧ vc = 0 ∧ (row2 == 0) = false) ∨ (vk = 0 ∧ vn = 0 ∧ vs = [] ∧ vb = false ∧ vc = 0 ∧ row2 = 0 ∧ (col2 == 0) = false) ∨ (vk = 0 ∧ vn = 0 ∧ vs = [] ∧ vb = false ∧ vc = 0 ∧ row2 = 0 ∧ col2 = 0 ∧ fr2 = true) ∨ (vk = 0 ∧ vn = 0 ∧ vs = [] ∧ vb = false ∧ vc = 0 ∧ row2 = 0 ∧ col2 = 0 ∧ fr2 = false ∧ fc2 = true) ∨ (vk = 0 ∧ vn = 0 ∧ vs = [] ∧ vb = false ∧ vc = 0 ∧ row2 = 0 ∧ col2 = 0 ∧ fr2 = false ∧ fc2 = false ∧ (txt == []) = false) ∨ (vk = 0 ∧ vn = 0 ∧ vs = [] ∧ vb = false ∧ vc = 0 ∧ row2 = 0 ∧ col2 = 0 ∧ fr2 = false ∧ fc2 = false ∧ txt = []) := by
  by_cases h0 : vk = 0
  case neg => exact .inl (by simpa using h0)
  by_cases h1 : vn = 0
  case neg => exact .inr (.inl ⟨h0, (by simpa using h1)⟩)
  by_cases h2 : vs = []
  case neg => exact .inr (.inr (.inl ⟨h0, h1, (by simpa using h2)⟩))
  by_cases h3 : vb = false
  case neg => exact .inr (.inr (.inr (.inl ⟨h0, h1, h2, (by simpa using h3)⟩)))
  by_cases h4 : vc = 0
  case neg => exact .inr (.inr (.inr (.inr (.inl ⟨h0, h1, h2, h3, (by simpa using h4)⟩))))
  by_cases h5 : row2 = 0
  case neg => exact .inr (.inr (.inr (.inr (.inr (.inl ⟨h0, h1, h2, h3, h4, (by simpa using h5)⟩)))))
  by_cases h6 : col2 = 0
  case neg => exact .inr (.inr (.inr (.inr (.inr (.inr (.inl ⟨h0, h1, h2, h3, h4, h5, (by simpa using h6)⟩))))))
  by_cases h7 : fr2 = false
  case neg => exact .inr (.inr (.inr (.inr (.inr (.inr (.inr (.inl ⟨h0, h1, h2, h3, h4, h5, h6, (by simpa using h7)⟩)))))))
  by_cases h8 : fc2 = false
  case neg => exact .inr (.inr (.inr (.inr (.inr (.inr (.inr (.inr (.inl ⟨h0, h1, h2, h3, h4, h5, h6, h7, (by simpa using h8)⟩))))))))
  by_cases h9 : txt = []
  case neg => exact .inr (.inr (.inr (.inr (.inr (.inr (.inr (.inr (.inr (.inl ⟨h0, h1, h2, h3, h4, h5, h6, h7, h8, (by simpa using h9)⟩)))))))))
  exact .inr (.inr (.inr (.inr (.inr (.inr (.inr (.inr (.inr (.inr (⟨h0, h1, h2, h3, h4, h5, h6, h7, h8, h9⟩))))))))))
 have HX := hide (Box.new w (hdC (⟨2, vk, vn, vs, vb, vc, row, col, fr, fc, row2, col2, fr2, fc2, txt⟩ : Hd) (.slice a n cap)))
 have p0 := HX.out.cell 0 (.int .i64 2) rfl
 have HB := hide ((Below.refl w.heap.size w).alloc (Nat.le_refl _) (.cells (hdC (⟨2, vk, vn, vs, vb, vc, row, col, fr, fc, row2, col2, fr2, fc2, txt⟩ : Hd) (.slice a n cap)).toArray 33))
 have hz0 : (w.alloc (.cells (hdC (⟨2, vk, vn, vs, vb, vc, row, col, fr, fc, row2, col2, fr2, fc2, txt⟩ : Hd) (.slice a n cap)).toArray 33)).heap.size = w.heap.size + 1 := by simp
 rcases key with q | ⟨rfl, q⟩ | ⟨rfl, rfl, q⟩ | ⟨rfl, rfl, rfl, rfl⟩ | ⟨rfl, rfl, rfl, rfl, q⟩ | ⟨rfl, rfl, rfl, rfl, rfl, q⟩ | ⟨rfl, rfl, rfl, rfl, rfl, rfl, q⟩ | ⟨rfl, rfl, rfl, rfl, rfl, rfl, rfl, rfl⟩ | ⟨rfl, rfl, rfl, rfl, rfl, rfl, rfl, rfl, rfl⟩ | ⟨rfl, rfl, rfl, rfl, rfl, rfl, rfl, rfl, rfl, q⟩ | ⟨rfl, rfl, rfl, rfl, rfl, rfl, rfl, rfl, rfl, rfl⟩
 all_goals
  go_enter Tryz.func79, Tryz.ntmps79
  go_wp2_with (first | (with_reducible refine wpl_id ?_; refine wpl_buildN rfl 33 _ rfl (qs := #[(0, .int .i64 2)]) rfl (run_kind 2 _) ?_) | (with_reducible refine wpl_id ?_; refine wpl_newG rfl _ _ rfl rfl hz0 rfl rfl HX.out HB.out ?_; intro W2 k1 k2 hB2 hz2; obtain ⟨d0, d1, d2, d3, d4, d5, d6, d7, d8, d9, d10, d11, d12, d13, d14⟩ := node_cells k1; obtain ⟨g0, g1, g2, g3, g4, g5, g6, g7, g8, g9, g10, g11, g12, g13, g14⟩ := node_cells k2; have fz := k2.froz; clear k1 k2 p0 hz0 HX HB))
  go_ret
  refine ⟨congrArg (fun b => Ending.returned (Value.bool b)) (Eq.symm ?_), ((((hB2.setCell (Nat.le_succ _) _).setCell (Nat.le_succ _) _).setCell (Nat.le_succ _) _).setCell (Nat.le_succ _) _)⟩
  unfold plainB; (try unfold noVal); (try unfold noCell); (try unfold noTo)
  first | (simp at q; simp [q]; done) | (simp; done)
theorem plain_3 (vk : Int) (vn : Int) (vs : List UInt8) (vb : Bool) (vc : Int) (row : Int) (col : Int) (fr : Bool) (fc : Bool) (row2 : Int) (col2 : Int) (fr2 : Bool) (fc2 : Bool) (txt : List UInt8) (a : Option Addr) (n cap : Nat) (w : World) :
  Calls Tryz.prog 79 #[.agg (hdC (⟨3, vk, vn, vs, vb, vc, row, col, fr, fc, row2, col2, fr2, fc2, txt⟩ : Hd) (.slice a n cap)).toArray] w fun e w' => e = .returned (.bool (plainB (⟨3, vk, vn, vs, vb, vc, row, col, fr, fc, row2, col2, fr2, fc2, txt⟩ : Hd))) ∧ Below w.heap.size w w' := by
 have key : ((vk == 0) = false) ∨ (vk = 0 ∧ (vn == 0) = false) ∨ (vk = 0 ∧ vn = 0 ∧ (vs == []) = false) ∨ (vk = 0 ∧ vn = 0 ∧ vs = [] ∧ vb = true) ∨ (vk = 0 ∧ vn = 0 ∧ vs = [] ∧ vb = false ∧ (vc == 0) = false) ∨ (vk = 0 ∧ vn = 0 ∧ vs = [] ∧ vb = false ∧ vc = 0 ∧ (txt == []) = false) ∨ (vk = 0 ∧ vn = 0 ∧ vs = [] ∧ vb = false ∧ vc = 0 ∧ txt = []) := by
  by_cases h0 : vk = 0
  case neg => exact .inl (by simpa using h0)
  by_cases h1 : vn = 0
  case neg => exact .inr (.inl ⟨h0, (by simpa using h1)⟩)
  by_cases h2 : vs = []
  case neg => exact .inr (.inr (.inl ⟨h0, h1, (by simpa using h2)⟩))
  by_cases h3 : vb = false
  case neg => exact .inr (.inr (.inr (.inl ⟨h0, h1, h2, (by simpa using h3)⟩)))
  by_cases h4 : vc = 0
  case neg => exact .inr (.inr (.inr (.inr (.inl ⟨h0, h1, h2, h3, (by simpa using h4)⟩))))
  by_cases h5 : txt = []
  case neg => exact .inr (.inr (.inr (.inr (.inr (.inl ⟨h0, h1, h2, h3, h4, (by simpa using h5)⟩)))))
  exact .inr (.inr (.inr (.inr (.inr (.inr (⟨h0, h1, h2, h3, h4, h5⟩))))))
 have HX := hide (Box.new w (hdC (⟨3, vk, vn, vs, vb, vc, row, col, fr, fc, row2, col2, fr2, fc2, txt⟩ : Hd) (.slice a n cap)))
 have p0 := HX.out.cell 0 (.int .i64 3) rfl
 have HB := hide ((Below.refl w.heap.size w).alloc (Nat.le_refl _) (.cells (hdC (⟨3, vk, vn, vs, vb, vc, row, col, fr, fc, row2, col2, fr2, fc2, txt⟩ : Hd) (.slice a n cap)).toArray 33))
 have hz0 : (w.alloc (.cells (hdC (⟨3, vk, vn, vs, vb, vc, row, col, fr, fc, row2, col2, fr2, fc2, txt⟩ : Hd) (.slice a n cap)).toArray 33)).heap.size = w.heap.size + 1 := by simp
 rcases key with q | ⟨rfl, q⟩ | ⟨rfl, rfl, q⟩ | ⟨rfl, rfl, rfl, rfl⟩ | ⟨rfl, rfl, rfl, rfl, q⟩ | ⟨rfl, rfl, rfl, rfl, rfl, q⟩ | ⟨rfl, rfl, rfl, rfl, rfl, rfl⟩
 all_goals
  go_enter Tryz.func79, Tryz.ntmps79
  go_wp2_with (first | (with_reducible refine wpl_id ?_; refine wpl_buildN rfl 33 _ rfl (qs := #[(0, .int .i64 3)]) rfl (run_kind 3 _) ?_) | (with_reducible refine wpl_id ?_; refine wpl_newG rfl _ _ rfl rfl hz0 rfl rfl HX.out HB.out ?_; intro W2 k1 k2 hB2 hz2; obtain ⟨d0, d1, d2, d3, d4, d5, d6, d7, d8, d9, d10, d11, d12, d13, d14⟩ := node_cells k1; obtain ⟨g0, g1, g2, g3, g4, g5, g6, g7, g8, g9, g10, g11, g12, g13, g14⟩ := node_cells k2; have fz := k2.froz; clear k1 k2 p0 hz0 HX HB))
  have HK : Hid (∀ (W : World) (j : Nat) (u : Value), (W.cell? ⟨w.heap.size, 6, none⟩ = some (.int .i64 row) ∧ W.cell? ⟨w.heap.size, 7, none⟩ = some (.int .i64 col) ∧ W.cell? ⟨w.heap.size, 8, none⟩ = some (.bool fr) ∧ W.cell? ⟨w.heap.size, 9, none⟩ = some (.bool fc) ∧ W.cell? ⟨w.heap.size, 10, none⟩ = some (.int .i64 row2) ∧ W.cell? ⟨w.heap.size, 11, none⟩ = some (.int .i64 col2) ∧ W.cell? ⟨w.heap.size, 12, none⟩ = some (.bool fr2) ∧ W.cell? ⟨w.heap.size, 13, none⟩ = some (.bool fc2)) → ((W.setCell ⟨w.heap.size + 1, j, none⟩ u).cell? ⟨w.heap.size, 6, none⟩ = some (.int .i64 row) ∧ (W.setCell ⟨w.heap.size + 1, j, none⟩ u).cell? ⟨w.heap.size, 7, none⟩ = some (.int .i64 col) ∧ (W.setCell ⟨w.heap.size + 1, j, none⟩ u).cell? ⟨w.heap.size, 8, none⟩ = some (.bool fr) ∧ (W.setCell ⟨w.heap.size + 1, j, none⟩ u).cell? ⟨w.heap.size, 9, none⟩ = some (.bool fc) ∧ (W.setCell ⟨w.heap.size + 1, j, none⟩ u).cell? ⟨w.heap.size, 10, none⟩ = some (.int .i64 row2) ∧ (W.setCell ⟨w.heap.size + 1, j, none⟩ u).cell? ⟨w.heap.size, 11, none⟩ = some (.int .i64 col2) ∧ (W.setCell ⟨w.heap.size + 1, j, none⟩ u).cell? ⟨w.heap.size, 12, none⟩ = some (.bool fr2) ∧ (W.setCell ⟨w.heap.size + 1, j, none⟩ u).cell? ⟨w.heap.size, 13, none⟩ = some (.bool fc2))) := fun W j u ⟨c0, c1, c2, c3, c4, c5, c6, c7⟩ => ⟨(World.cell?_setCell_other _ _ _ _ (by intro e; have := congrArg Addr.block e; simp at this)).trans c0, (World.cell?_setCell_other _ _ _ _ (by intro e; have := congrArg Addr.block e; simp at this)).trans c1, (World.cell?_setCell_other _ _ _ _ (by intro e; have := congrArg Addr.block e; simp at this)).trans c2, (World.cell?_setCell_other _ _ _ _ (by intro e; have := congrArg Addr.block e; simp at this)).trans c3, (World.cell?_setCell_other _ _ _ _ (by intro e; have := congrArg Addr.block e; simp at this)).trans c4, (World.cell?_setCell_other _ _ _ _ (by intro e; have := congrArg Addr.block e; simp at this)).trans c5, (World.cell?_setCell_other _ _ _ _ (by intro e; have := congrArg Addr.block e; simp at this)).trans c6, (World.cell?_setCell_other _ _ _ _ (by intro e; have := congrArg Addr.block e; simp at this)).trans c7⟩
  have HD : Hid (∀ W : World, (W.cell? ⟨w.heap.size, 6, none⟩ = some (.int .i64 row) ∧ W.cell? ⟨w.heap.size, 7, none⟩ = some (.int .i64 col) ∧ W.cell? ⟨w.heap.size, 8, none⟩ = some (.bool fr) ∧ W.cell? ⟨w.heap.size, 9, none⟩ = some (.bool fc) ∧ W.cell? ⟨w.heap.size, 10, none⟩ = some (.int .i64 row2) ∧ W.cell? ⟨w.heap.size, 11, none⟩ = some (.int .i64 col2) ∧ W.cell? ⟨w.heap.size, 12, none⟩ = some (.bool fr2) ∧ W.cell? ⟨w.heap.size, 13, none⟩ = some (.bool fc2)) → (fun W : World => W.cell? ⟨w.heap.size, 6, none⟩ = some (.int .i64 row) ∧ W.cell? ⟨w.heap.size, 7, none⟩ = some (.int .i64 col) ∧ W.cell? ⟨w.heap.size, 8, none⟩ = some (.bool fr) ∧ W.cell? ⟨w.heap.size, 9, none⟩ = some (.bool fc) ∧ W.cell? ⟨w.heap.size, 10, none⟩ = some (.int .i64 row2) ∧ W.cell? ⟨w.heap.size, 11, none⟩ = some (.int .i64 col2) ∧ W.cell? ⟨w.heap.size, 12, none⟩ = some (.bool fr2) ∧ W.cell? ⟨w.heap.size, 13, none⟩ = some (.bool fc2)) W.drew) := fun W h => h
  have hs0 : W2.cell? ⟨w.heap.size, 6, none⟩ = some (.int .i64 row) ∧ W2.cell? ⟨w.heap.size, 7, none⟩ = some (.int .i64 col) ∧ W2.cell? ⟨w.heap.size, 8, none⟩ = some (.bool fr) ∧ W2.cell? ⟨w.heap.size, 9, none⟩ = some (.bool fc) ∧ W2.cell? ⟨w.heap.size, 10, none⟩ = some (.int .i64 row2) ∧ W2.cell? ⟨w.heap.size, 11, none⟩ = some (.int .i64 col2) ∧ W2.cell? ⟨w.heap.size, 12, none⟩ = some (.bool fr2) ∧ W2.cell? ⟨w.heap.size, 13, none⟩ = some (.bool fc2) := ⟨d6, d7, d8, d9, d10, d11, d12, d13⟩
  refine wp_region_held_drew (S := fun W => W.cell? ⟨w.heap.size, 6, none⟩ = some (.int .i64 row) ∧ W.cell? ⟨w.heap.size, 7, none⟩ = some (.int .i64 col) ∧ W.cell? ⟨w.heap.size, 8, none⟩ = some (.bool fr) ∧ W.cell? ⟨w.heap.size, 9, none⟩ = some (.bool fc) ∧ W.cell? ⟨w.heap.size, 10, none⟩ = some (.int .i64 row2) ∧ W.cell? ⟨w.heap.size, 11, none⟩ = some (.int .i64 col2) ∧ W.cell? ⟨w.heap.size, 12, none⟩ = some (.bool fr2) ∧ W.cell? ⟨w.heap.size, 13, none⟩ = some (.bool fc2)) (by kernel_rfl) (HD.out _ hs0) (fun hHeld => ?_)
  refine takeF 0 (some 21) ?_; refine takeF 1 (some 22) ?_; refine takeF 2 (some 23) ?_; refine takeF 3 (some 24) ?_; refine takeF 4 (some 25) ?_
  refine wpAnyH_ready (rs := [5]) (by kernel_rfl) (by simp) ?_
  refine readyP (o := _) rfl rfl (fun K hK => ?_) AllReadyH.nil
  go_simp
  refine hK.out _ _ (HD.out _ (HK.out _ _ _ (HK.out _ _ _ (HK.out _ _ _ (HK.out _ _ _ hs0))))) (fun hHeld => ?_)
  clear hK K
  refine takeF 6 (some 26) ?_
  refine wpAnyH_ready (rs := [7]) (by kernel_rfl) (by simp) ?_
  refine readyP (o := _) rfl rfl (fun K hK => ?_) AllReadyH.nil
  go_simp
  refine hK.out _ _ (HD.out _ (HK.out _ _ _ (HK.out _ _ _ (HK.out _ _ _ (HK.out _ _ _ (HK.out _ _ _ (HK.out _ _ _ (HK.out _ _ _ (HK.out _ _ _ hs0))))))))) (fun hHeld => ?_)
  clear hK K
  refine wpAnyH_done (by kernel_rfl) ?_ _
  go_wp2
  go_ret
  refine ⟨congrArg (fun b => Ending.returned (Value.bool b)) (Eq.symm ?_), by repeat' (first | with_reducible (first | exact Below.refl _ _ | refine Below.setCell ?_ ?_ _ | refine Below.alloc ?_ ?_ _ | refine below_drewN ?_ _ | refine Below.drew ?_ | refine Below.trans ?_ (Below.mono (by assumption) ?_) | exact Nat.le_refl _ | refine Nat.le_trans ?_ (Below.size (by assumption)) | refine zzA ?_ | refine zzB ?_ | refine zzC ?_ | refine zzD ?_) | (simp; done) | (simp; omega) | omega)⟩
  unfold plainB; (try unfold noVal); (try unfold noCell); (try unfold noTo)
  first | (simp at q; simp [q]; done) | (simp; done)
end
section
open Go.RowKit Go.Shelf
theorem plain_5 (vk : Int) (vn : Int) (vs : List UInt8) (vb : Bool) (vc : Int) (row : Int) (col : Int) (fr : Bool) (fc : Bool) (row2 : Int) (col2 : Int) (fr2 : Bool) (fc2 : Bool) (txt : List UInt8) (a : Option Addr) (n cap : Nat) (w : World) :
  Calls Tryz.prog 79 #[.agg (hdC (⟨5, vk, vn, vs, vb, vc, row, col, fr, fc, row2, col2, fr2, fc2, txt⟩ : Hd) (.slice a n cap)).toArray] w fun e w' => e = .returned (.bool (plainB (⟨5, vk, vn, vs, vb, vc, row, col, fr, fc, row2, col2, fr2, fc2, txt⟩ : Hd))) ∧ Below w.heap.size w w' := by
 have key : ((vk == 0) = false) ∨ (vk = 0 ∧ (vn == 0) = false) ∨ (vk = 0 ∧ vn = 0 ∧ (vs == []) = false) ∨ (vk = 0 ∧ vn = 0 ∧ vs = [] ∧ vb = true) ∨ (vk = 0 ∧ vn = 0 ∧ vs = [] ∧ vb = false ∧ (vc == 0) = false) ∨ (vk = 0 ∧ vn = 0 ∧ vs = [] ∧ vb = false ∧ vc = 0 ∧ (row == 0) = false) ∨ (vk = 0 ∧ vn = 0 ∧ vs = [] ∧ vb = false ∧ vc = 0 ∧ row = 0 ∧ (col == 0) = false) ∨ (vk = 0 ∧ vn = 0 ∧ vs = [] ∧ vb = false ∧ vc = 0 ∧ row = 0 ∧ col = 0 ∧ fr = true) ∨ (vk = 0 ∧ vn = 0 ∧ vs = [] ∧ vb = false ∧ vc = 0 ∧ row = 0 ∧ col = 0 ∧ fr = false ∧ fc = true) ∨ (vk = 0 ∧ vn = 0 ∧ vs = [] ∧ vb = false ∧ vc = 0 ∧ row = 0 ∧ col = 0 ∧ fr = false ∧ fc = false ∧ (row2 == 0) = false) ∨ (vk = 0 ∧ vn = 0 ∧ vs = [] ∧ vb = false ∧ vc = 0 ∧ row = 0 ∧ col = 0 ∧ fr = false ∧ fc = false ∧ row2 = 0 ∧ (col2 == 0) = false) ∨ (vk = 0 ∧ vn = 0 ∧ vs = [] ∧ vb = false ∧ vc = 0 ∧ row = 0 ∧ col = 0 ∧ fr = false ∧ fc = false ∧ row2 = 0 ∧ col2 = 0 ∧ fr2 = true) ∨ (vk = 0 ∧ vn = 0 ∧ vs = [] ∧ vb = false ∧ vc = 0 ∧ row = 0 ∧ col = 0 ∧ fr = false ∧ fc = false ∧ row2 = 0 ∧ col2 = 0 ∧ fr2 = false ∧ fc2 = true) ∨ (vk = 0 ∧ vn = 0 ∧ vs = [] ∧ vb = false ∧ vc = 0 ∧ row = 0 ∧ col = 0 ∧ fr = false ∧ fc = false ∧ row2 = 0 ∧ col2 = 0 ∧ fr2 = false ∧ fc2 = false) := by
  by_cases h0 : vk = 0
  case neg => exact .inl (by simpa using h0)
  by_cases h1 : vn = 0
  case neg => exact .inr (.inl ⟨h0, (by simpa using h1)⟩)
  by_cases h2 : vs = []
  case neg => exact .inr (.inr (.inl ⟨h0, h1, (by simpa using h2)⟩))
  by_cases h3 : vb = false
  case neg => exact .inr (.inr (.inr (.inl ⟨h0, h1, h2, (by simpa using h3)⟩)))
  by_cases h4 : vc = 0
  case neg => exact .inr (.inr (.inr (.inr (.inl ⟨h0, h1, h2, h3, (by simpa using h4)⟩))))
  by_cases h5 : row = 0
  case neg => exact .inr (.inr (.inr (.inr (.inr (.inl ⟨h0, h1, h2, h3, h4, (by simpa using h5)⟩)))))
  by_cases h6 : col = 0
  case neg => exact .inr (.inr (.inr (.inr (.inr (.inr (.inl ⟨h0, h1, h2, h3, h4, h5, (by simpa using h6)⟩))))))
  by_cases h7 : fr = false
  case neg => exact .inr (.inr (.inr (.inr (.inr (.inr (.inr (.inl ⟨h0, h1, h2, h3, h4, h5, h6, (by simpa using h7)⟩)))))))
  by_cases h8 : fc = false
  case neg => exact .inr (.inr (.inr (.inr (.inr (.inr (.inr (.inr (.inl ⟨h0, h1, h2, h3, h4, h5, h6, h7, (by simpa using h8)⟩))))))))
  by_cases h9 : row2 = 0
  case neg => exact .inr (.inr (.inr (.inr (.inr (.inr (.inr (.inr (.inr (.inl ⟨h0, h1, h2, h3, h4, h5, h6, h7, h8, (by simpa using h9)⟩)))))))))
  by_cases h10 : col2 = 0
  case neg => exact .inr (.inr (.inr (.inr (.inr (.inr (.inr (.inr (.inr (.inr (.inl ⟨h0, h1, h2, h3, h4, h5, h6, h7, h8, h9, (by simpa using h10)⟩))))))))))
  by_cases h11 : fr2 = false
  case neg => exact .inr (.inr (.inr (.inr (.inr (.inr (.inr (.inr (.inr (.inr (.inr (.inl ⟨h0, h1, h2, h3, h4, h5, h6, h7, h8, h9, h10, (by simpa using h11)⟩)))))))))))
  by_cases h12 : fc2 = false
  case neg => exact .inr (.inr (.inr (.inr (.inr (.inr (.inr (.inr (.inr (.inr (.inr (.inr (.inl ⟨h0, h1, h2, h3, h4, h5, h6, h7, h8, h9, h10, h11, (by simpa using h12)⟩))))))))))))
  exact .inr (.inr (.inr (.inr (.inr (.inr (.inr (.inr (.inr (.inr (.inr (.inr (.inr (⟨h0, h1, h2, h3, h4, h5, h6, h7, h8, h9, h10, h11, h12⟩)))))))))))))
 have HX := hide (Box.new w (hdC (⟨5, vk, vn, vs, vb, vc, row, col, fr, fc, row2, col2, fr2, fc2, txt⟩ : Hd) (.slice a n cap)))
 have p0 := HX.out.cell 0 (.int .i64 5) rfl
 have HB := hide ((Below.refl w.heap.size w).alloc (Nat.le_refl _) (.cells (hdC (⟨5, vk, vn, vs, vb, vc, row, col, fr, fc, row2, col2, fr2, fc2, txt⟩ : Hd) (.slice a n cap)).toArray 33))
 have hz0 : (w.alloc (.cells (hdC (⟨5, vk, vn, vs, vb, vc, row, col, fr, fc, row2, col2, fr2, fc2, txt⟩ : Hd) (.slice a n cap)).toArray 33)).heap.size = w.heap.size + 1 := by simp
 rcases key with q | ⟨rfl, q⟩ | ⟨rfl, rfl, q⟩ | ⟨rfl, rfl, rfl, rfl⟩ | ⟨rfl, rfl, rfl, rfl, q⟩ | ⟨rfl, rfl, rfl, rfl, rfl, q⟩ | ⟨rfl, rfl, rfl, rfl, rfl, rfl, q⟩ | ⟨rfl, rfl, rfl, rfl, rfl, rfl, rfl, rfl⟩ | ⟨rfl, rfl, rfl, rfl, rfl, rfl, rfl, rfl, rfl⟩ | ⟨rfl, rfl, rfl, rfl, rfl, rfl, rfl, rfl, rfl, q⟩ | ⟨rfl, rfl, rfl, rfl, rfl, rfl, rfl, rfl, rfl, rfl, q⟩ | ⟨rfl, rfl, rfl, rfl, rfl, rfl, rfl, rfl, rfl, rfl, rfl, rfl⟩ | ⟨rfl, rfl, rfl, rfl, rfl, rfl, rfl, rfl, rfl, rfl, rfl, rfl, rfl⟩ | ⟨rfl, rfl, rfl, rfl, rfl, rfl, rfl, rfl, rfl, rfl, rfl, rfl, rfl⟩
 all_goals
  go_enter Tryz.func79, Tryz.ntmps79
  go_wp2_with (first | (with_reducible refine wpl_id ?_; refine wpl_buildN rfl 33 _ rfl (qs := #[(0, .int .i64 5)]) rfl (run_kind 5 _) ?_) | (with_reducible refine wpl_id ?_; refine wpl_newG rfl _ _ rfl rfl hz0 rfl rfl HX.out HB.out ?_; intro W2 k1 k2 hB2 hz2; obtain ⟨d0, d1, d2, d3, d4, d5, d6, d7, d8, d9, d10, d11, d12, d13, d14⟩ := node_cells k1; obtain ⟨g0, g1, g2, g3, g4, g5, g6, g7, g8, g9, g10, g11, g12, g13, g14⟩ := node_cells k2; have fz := k2.froz; clear k1 k2 p0 hz0 HX HB))
  go_ret
  refine ⟨congrArg (fun b => Ending.returned (Value.bool b)) (Eq.symm ?_), (hB2.setCell (Nat.le_succ _) _)⟩
  unfold plainB; (try unfold noVal); (try unfold noCell); (try unfold noTo)
  first | (simp at q; simp [q]; done) | (simp; done)
theorem plain_6 (vk : Int) (vn : Int) (vs : List UInt8) (vb : Bool) (vc : Int) (row : Int) (col : Int) (fr : Bool) (fc : Bool) (row2 : Int) (col2 : Int) (fr2 : Bool) (fc2 : Bool) (txt : List UInt8) (a : Option Addr) (n cap : Nat) (w : World) :
  Calls Tryz.prog 79 #[.agg (hdC (⟨6, vk, vn, vs, vb, vc, row, col, fr, fc, row2, col2, fr2, fc2, txt⟩ : Hd) (.slice a n cap)).toArray] w fun e w' => e = .returned (.bool (plainB (⟨6, vk, vn, vs, vb, vc, row, col, fr, fc, row2, col2, fr2, fc2, txt⟩ : Hd))) ∧ Below w.heap.size w w' := by
 have key : ((vk == 0) = false) ∨ (vk = 0 ∧ (vn == 0) = false) ∨ (vk = 0 ∧ vn = 0 ∧ (vs == []) = false) ∨ (vk = 0 ∧ vn = 0 ∧ vs = [] ∧ vb = true) ∨ (vk = 0 ∧ vn = 0 ∧ vs = [] ∧ vb = false ∧ (vc == 0) = false) ∨ (vk = 0 ∧ vn = 0 ∧ vs = [] ∧ vb = false ∧ vc = 0 ∧ (row == 0) = false) ∨ (vk = 0 ∧ vn = 0 ∧ vs = [] ∧ vb = false ∧ vc = 0 ∧ row = 0 ∧ (col == 0) = false) ∨ (vk = 0 ∧ vn = 0 ∧ vs = [] ∧ vb = false ∧ vc = 0 ∧ row = 0 ∧ col = 0 ∧ fr = true) ∨ (vk = 0 ∧ vn = 0 ∧ vs = [] ∧ vb = false ∧ vc = 0 ∧ row = 0 ∧ col = 0 ∧ fr = false ∧ fc = true) ∨ (vk = 0 ∧ vn = 0 ∧ vs = [] ∧ vb = false ∧ vc = 0 ∧ row = 0 ∧ col = 0 ∧ fr = false ∧ fc = false ∧ (row2 == 0) = false) ∨ (vk = 0 ∧ vn = 0 ∧ vs = [] ∧ vb = false ∧ vc = 0 ∧ row = 0 ∧ col = 0 ∧ fr = false ∧ fc = false ∧ row2 = 0 ∧ (col2 == 0) = false) ∨ (vk = 0 ∧ vn = 0 ∧ vs = [] ∧ vb = false ∧ vc = 0 ∧ row = 0 ∧ col = 0 ∧ fr = false ∧ fc = false ∧ row2 = 0 ∧ col2 = 0 ∧ fr2 = true) ∨ (vk = 0 ∧ vn = 0 ∧ vs = [] ∧ vb = false ∧ vc = 0 ∧ row = 0 ∧ col = 0 ∧ fr = false ∧ fc = false ∧ row2 = 0 ∧ col2 = 0 ∧ fr2 = false ∧ fc2 = true) ∨ (vk = 0 ∧ vn = 0 ∧ vs = [] ∧ vb = false ∧ vc = 0 ∧ row = 0 ∧ col = 0 ∧ fr = false ∧ fc = false ∧ row2 = 0 ∧ col2 = 0 ∧ fr2 = false ∧ fc2 = false) := by
  by_cases h0 : vk = 0
  case neg => exact .inl (by simpa using h0)
  by_cases h1 : vn = 0
  case neg => exact .inr (.inl ⟨h0, (by simpa using h1)⟩)
  by_cases h2 : vs = []
  case neg => exact .inr (.inr (.inl ⟨h0, h1, (by simpa using h2)⟩))
  by_cases h3 : vb = false
  case neg => exact .inr (.inr (.inr (.inl ⟨h0, h1, h2, (by simpa using h3)⟩)))
  by_cases h4 : vc = 0
  case neg => exact .inr (.inr (.inr (.inr (.inl ⟨h0, h1, h2, h3, (by simpa using h4)⟩))))
  by_cases h5 : row = 0
  case neg => exact .inr (.inr (.inr (.inr (.inr (.inl ⟨h0, h1, h2, h3, h4, (by simpa using h5)⟩)))))
  by_cases h6 : col = 0
  case neg => exact .inr (.inr (.inr (.inr (.inr (.inr (.inl ⟨h0, h1, h2, h3, h4, h5, (by simpa using h6)⟩))))))
  by_cases h7 : fr = false
  case neg => exact .inr (.inr (.inr (.inr (.inr (.inr (.inr (.inl ⟨h0, h1, h2, h3, h4, h5, h6, (by simpa using h7)⟩)))))))
  by_cases h8 : fc = false
  case neg => exact .inr (.inr (.inr (.inr (.inr (.inr (.inr (.inr (.inl ⟨h0, h1, h2, h3, h4, h5, h6, h7, (by simpa using h8)⟩))))))))
  by_cases h9 : row2 = 0
  case neg => exact .inr (.inr (.inr (.inr (.inr (.inr (.inr (.inr (.inr (.inl ⟨h0, h1, h2, h3, h4, h5, h6, h7, h8, (by simpa using h9)⟩)))))))))
  by_cases h10 : col2 = 0
  case neg => exact .inr (.inr (.inr (.inr (.inr (.inr (.inr (.inr (.inr (.inr (.inl ⟨h0, h1, h2, h3, h4, h5, h6, h7, h8, h9, (by simpa using h10)⟩))))))))))
  by_cases h11 : fr2 = false
  case neg => exact .inr (.inr (.inr (.inr (.inr (.inr (.inr (.inr (.inr (.inr (.inr (.inl ⟨h0, h1, h2, h3, h4, h5, h6, h7, h8, h9, h10, (by simpa using h11)⟩)))))))))))
  by_cases h12 : fc2 = false
  case neg => exact .inr (.inr (.inr (.inr (.inr (.inr (.inr (.inr (.inr (.inr (.inr (.inr (.inl ⟨h0, h1, h2, h3, h4, h5, h6, h7, h8, h9, h10, h11, (by simpa using h12)⟩))))))))))))
  exact .inr (.inr (.inr (.inr (.inr (.inr (.inr (.inr (.inr (.inr (.inr (.inr (.inr (⟨h0, h1, h2, h3, h4, h5, h6, h7, h8, h9, h10, h11, h12⟩)))))))))))))
 have HX := hide (Box.new w (hdC (⟨6, vk, vn, vs, vb, vc, row, col, fr, fc, row2, col2, fr2, fc2, txt⟩ : Hd) (.slice a n cap)))
 have p0 := HX.out.cell 0 (.int .i64 6) rfl
 have HB := hide ((Below.refl w.heap.size w).alloc (Nat.le_refl _) (.cells (hdC (⟨6, vk, vn, vs, vb, vc, row, col, fr, fc, row2, col2, fr2, fc2, txt⟩ : Hd) (.slice a n cap)).toArray 33))
 have hz0 : (w.alloc (.cells (hdC (⟨6, vk, vn, vs, vb, vc, row, col, fr, fc, row2, col2, fr2, fc2, txt⟩ : Hd) (.slice a n cap)).toArray 33)).heap.size = w.heap.size + 1 := by simp
 rcases key with q | ⟨rfl, q⟩ | ⟨rfl, rfl, q⟩ | ⟨rfl, rfl, rfl, rfl⟩ | ⟨rfl, rfl, rfl, rfl, q⟩ | ⟨rfl, rfl, rfl, rfl, rfl, q⟩ | ⟨rfl, rfl, rfl, rfl, rfl, rfl, q⟩ | ⟨rfl, rfl, rfl, rfl, rfl, rfl, rfl, rfl⟩ | ⟨rfl, rfl, rfl, rfl, rfl, rfl, rfl, rfl, rfl⟩ | ⟨rfl, rfl, rfl, rfl, rfl, rfl, rfl, rfl, rfl, q⟩ | ⟨rfl, rfl, rfl, rfl, rfl, rfl, rfl, rfl, rfl, rfl, q⟩ | ⟨rfl, rfl, rfl, rfl, rfl, rfl, rfl, rfl, rfl, rfl, rfl, rfl⟩ | ⟨rfl, rfl, rfl, rfl, rfl, rfl, rfl, rfl, rfl, rfl, rfl, rfl, rfl⟩ | ⟨rfl, rfl, rfl, rfl, rfl, rfl, rfl, rfl, rfl, rfl, rfl, rfl, rfl⟩
 all_goals
  go_enter Tryz.func79, Tryz.ntmps79
  go_wp2_with (first | (with_reducible refine wpl_id ?_; refine wpl_buildN rfl 33 _ rfl (qs := #[(0, .int .i64 6)]) rfl (run_kind 6 _) ?_) | (with_reducible refine wpl_id ?_; refine wpl_newG rfl _ _ rfl rfl hz0 rfl rfl HX.out HB.out ?_; intro W2 k1 k2 hB2 hz2; obtain ⟨d0, d1, d2, d3, d4, d5, d6, d7, d8, d9, d10, d11, d12, d13, d14⟩ := node_cells k1; obtain ⟨g0, g1, g2, g3, g4, g5, g6, g7, g8, g9, g10, g11, g12, g13, g14⟩ := node_cells k2; have fz := k2.froz; clear k1 k2 p0 hz0 HX HB))
  go_ret
  refine ⟨congrArg (fun b => Ending.returned (Value.bool b)) (Eq.symm ?_), (hB2.setCell (Nat.le_succ _) _)⟩
  unfold plainB; (try unfold noVal); (try unfold noCell); (try unfold noTo)
  first | (simp at q; simp [q]; done) | (simp; done)
theorem plain_kind (kind : Int) (e1 : (kind == 1) = false) (e2 : (kind == 2) = false) (e3 : (kind == 3) = false) (e5 : (kind == 5) = false) (e6 : (kind == 6) = false) (vk : Int) (vn : Int) (vs : List UInt8) (vb : Bool) (vc : Int) (row : Int) (col : Int) (fr : Bool) (fc : Bool) (row2 : Int) (col2 : Int) (fr2 : Bool) (fc2 : Bool) (txt : List UInt8) (a : Option Addr) (n cap : Nat) (w : World) :
  Calls Tryz.prog 79 #[.agg (hdC (⟨kind, vk, vn, vs, vb, vc, row, col, fr, fc, row2, col2, fr2, fc2, txt⟩ : Hd) (.slice a n cap)).toArray] w fun e w' => e = .returned (.bool (plainB (⟨kind, vk, vn, vs, vb, vc, row, col, fr, fc, row2, col2, fr2, fc2, txt⟩ : Hd))) ∧ Below w.heap.size w w' := by
 have key : ((vk == 0) = false) ∨ (vk = 0 ∧ (vn == 0) = false) ∨ (vk = 0 ∧ vn = 0 ∧ (vs == []) = false) ∨ (vk = 0 ∧ vn = 0 ∧ vs = [] ∧ vb = true) ∨ (vk = 0 ∧ vn = 0 ∧ vs = [] ∧ vb = false ∧ (vc == 0) = false) ∨ (vk = 0 ∧ vn = 0 ∧ vs = [] ∧ vb = false ∧ vc = 0 ∧ (row == 0) = false) ∨ (vk = 0 ∧ vn = 0 ∧ vs = [] ∧ vb = false ∧ vc = 0 ∧ row = 0 ∧ (col == 0) = false) ∨ (vk = 0 ∧ vn = 0 ∧ vs = [] ∧ vb = false ∧ vc = 0 ∧ row = 0 ∧ col = 0 ∧ fr = true) ∨ (vk = 0 ∧ vn = 0 ∧ vs = [] ∧ vb = false ∧ vc = 0 ∧ row = 0 ∧ col = 0 ∧ fr = false ∧ fc = true) ∨ (vk = 0 ∧ vn = 0 ∧ vs = [] ∧ vb = false ∧ vc = 0 ∧ row = 0 ∧ col = 0 ∧ fr = false ∧ fc = false ∧ (row2 == 0) = false) ∨ (vk = 0 ∧ vn = 0 ∧ vs = [] ∧ vb = false ∧ vc = 0 ∧ row = 0 ∧ col = 0 ∧ fr = false ∧ fc = false ∧ row2 = 0 ∧ (col2 == 0) = false) ∨ (vk = 0 ∧ vn = 0 ∧ vs = [] ∧ vb = false ∧ vc = 0 ∧ row = 0 ∧ col = 0 ∧ fr = false ∧ fc = false ∧ row2 = 0 ∧ col2 = 0 ∧ fr2 = true) ∨ (vk = 0 ∧ vn = 0 ∧ vs = [] ∧ vb = false ∧ vc = 0 ∧ row = 0 ∧ col = 0 ∧ fr = false ∧ fc = false ∧ row2 = 0 ∧ col2 = 0 ∧ fr2 = false ∧ fc2 = true) ∨ (vk = 0 ∧ vn = 0 ∧ vs = [] ∧ vb = false ∧ vc = 0 ∧ row = 0 ∧ col = 0 ∧ fr = false ∧ fc = false ∧ row2 = 0 ∧ col2 = 0 ∧ fr2 = false ∧ fc2 = false ∧ (txt == []) = false) ∨ (vk = 0 ∧ vn = 0 ∧ vs = [] ∧ vb = false ∧ vc = 0 ∧ row = 0 ∧ col = 0 ∧ fr = false ∧ fc = false ∧ row2 = 0 ∧ col2 = 0 ∧ fr2 = false ∧ fc2 = false ∧ txt = []) := by
  by_cases h0 : vk = 0
  case neg => exact .inl (by simpa using h0)
  by_cases h1 : vn = 0
  case neg => exact .inr (.inl ⟨h0, (by simpa using h1)⟩)
  by_cases h2 : vs = []
  case neg => exact .inr (.inr (.inl ⟨h0, h1, (by simpa using h2)⟩))
  by_cases h3 : vb = false
  case neg => exact .inr (.inr (.inr (.inl ⟨h0, h1, h2, (by simpa using h3)⟩)))
  by_cases h4 : vc = 0
  case neg => exact .inr (.inr (.inr (.inr (.inl ⟨h0, h1, h2, h3, (by simpa using h4)⟩))))
  by_cases h5 : row = 0
  case neg => exact .inr (.inr (.inr (.inr (.inr (.inl ⟨h0, h1, h2, h3, h4, (by simpa using h5)⟩)))))
  by_cases h6 : col = 0
  case neg => exact .inr (.inr (.inr (.inr (.inr (.inr (.inl ⟨h0, h1, h2, h3, h4, h5, (by simpa using h6)⟩))))))
  by_cases h7 : fr = false
  case neg => exact .inr (.inr (.inr (.inr (.inr (.inr (.inr (.inl ⟨h0, h1, h2, h3, h4, h5, h6, (by simpa using h7)⟩)))))))
  by_cases h8 : fc = false
  case neg => exact .inr (.inr (.inr (.inr (.inr (.inr (.inr (.inr (.inl ⟨h0, h1, h2, h3, h4, h5, h6, h7, (by simpa using h8)⟩))))))))
  by_cases h9 : row2 = 0
  case neg => exact .inr (.inr (.inr (.inr (.inr (.inr (.inr (.inr (.inr (.inl ⟨h0, h1, h2, h3, h4, h5, h6, h7, h8, (by simpa using h9)⟩)))))))))
  by_cases h10 : col2 = 0
  case neg => exact .inr (.inr (.inr (.inr (.inr (.inr (.inr (.inr (.inr (.inr (.inl ⟨h0, h1, h2, h3, h4, h5, h6, h7, h8, h9, (by simpa using h10)⟩))))))))))
  by_cases h11 : fr2 = false
  case neg => exact .inr (.inr (.inr (.inr (.inr (.inr (.inr (.inr (.inr (.inr (.inr (.inl ⟨h0, h1, h2, h3, h4, h5, h6, h7, h8, h9, h10, (by simpa using h11)⟩)))))))))))
  by_cases h12 : fc2 = false
  case neg => exact .inr (.inr (.inr (.inr (.inr (.inr (.inr (.inr (.inr (.inr (.inr (.inr (.inl ⟨h0, h1, h2, h3, h4, h5, h6, h7, h8, h9, h10, h11, (by simpa using h12)⟩))))))))))))
  by_cases h13 : txt = []
  case neg => exact .inr (.inr (.inr (.inr (.inr (.inr (.inr (.inr (.inr (.inr (.inr (.inr (.inr (.inl ⟨h0, h1, h2, h3, h4, h5, h6, h7, h8, h9, h10, h11, h12, (by simpa using h13)⟩)))))))))))))
  exact .inr (.inr (.inr (.inr (.inr (.inr (.inr (.inr (.inr (.inr (.inr (.inr (.inr (.inr (⟨h0, h1, h2, h3, h4, h5, h6, h7, h8, h9, h10, h11, h12, h13⟩))))))))))))))
 have HX := hide (Box.new w (hdC (⟨kind, vk, vn, vs, vb, vc, row, col, fr, fc, row2, col2, fr2, fc2, txt⟩ : Hd) (.slice a n cap)))
 have p0 := HX.out.cell 0 (.int .i64 kind) rfl
 have HB := hide ((Below.refl w.heap.size w).alloc (Nat.le_refl _) (.cells (hdC (⟨kind, vk, vn, vs, vb, vc, row, col, fr, fc, row2, col2, fr2, fc2, txt⟩ : Hd) (.slice a n cap)).toArray 33))
 have hz0 : (w.alloc (.cells (hdC (⟨kind, vk, vn, vs, vb, vc, row, col, fr, fc, row2, col2, fr2, fc2, txt⟩ : Hd) (.slice a n cap)).toArray 33)).heap.size = w.heap.size + 1 := by simp
 rcases key with q | ⟨rfl, q⟩ | ⟨rfl, rfl, q⟩ | ⟨rfl, rfl, rfl, rfl⟩ | ⟨rfl, rfl, rfl, rfl, q⟩ | ⟨rfl, rfl, rfl, rfl, rfl, q⟩ | ⟨rfl, rfl, rfl, rfl, rfl, rfl, q⟩ | ⟨rfl, rfl, rfl, rfl, rfl, rfl, rfl, rfl⟩ | ⟨rfl, rfl, rfl, rfl, rfl, rfl, rfl, rfl, rfl⟩ | ⟨rfl, rfl, rfl, rfl, rfl, rfl, rfl, rfl, rfl, q⟩ | ⟨rfl, rfl, rfl, rfl, rfl, rfl, rfl, rfl, rfl, rfl, q⟩ | ⟨rfl, rfl, rfl, rfl, rfl, rfl, rfl, rfl, rfl, rfl, rfl, rfl⟩ | ⟨rfl, rfl, rfl, rfl, rfl, rfl, rfl, rfl, rfl, rfl, rfl, rfl, rfl⟩ | ⟨rfl, rfl, rfl, rfl, rfl, rfl, rfl, rfl, rfl, rfl, rfl, rfl, rfl, q⟩ | ⟨rfl, rfl, rfl, rfl, rfl, rfl, rfl, rfl, rfl, rfl, rfl, rfl, rfl, rfl⟩
 all_goals
  go_enter Tryz.func79, Tryz.ntmps79
  go_wp2_with (first | (with_reducible refine wpl_id ?_; refine wpl_buildN rfl 33 _ rfl (qs := #[(0, .int .i64 kind)]) rfl (run_kind kind _) ?_) | (with_reducible refine wpl_id ?_; refine wpl_newG rfl _ _ rfl rfl hz0 rfl rfl HX.out HB.out ?_; intro W2 k1 k2 hB2 hz2; obtain ⟨d0, d1, d2, d3, d4, d5, d6, d7, d8, d9, d10, d11, d12, d13, d14⟩ := node_cells k1; obtain ⟨g0, g1, g2, g3, g4, g5, g6, g7, g8, g9, g10, g11, g12, g13, g14⟩ := node_cells k2; have fz := k2.froz; clear k1 k2 p0 hz0 HX HB))
  go_ret
  refine ⟨congrArg (fun b => Ending.returned (Value.bool b)) (Eq.symm ?_), hB2⟩
  unfold plainB; rw [if_neg (by simpa using e1), if_neg (by simpa using e2), if_neg (by simpa using e3), if_neg (by simp at e5 e6; simp [e5, e6])]; unfold noVal noCell noTo
  first | (simp at q; simp [q]; done) | (simp; done)
end
section
open Go.RowKit Go.Shelf
theorem plain_any (h : Hd) (a : Option Addr) (n cap : Nat) (w : World) :
  Calls Tryz.prog 79 #[.agg (hdC h (.slice a n cap)).toArray] w fun e w' => e = .returned (.bool (plainB h)) ∧ Below w.heap.size w w' := by
 obtain ⟨kind, vk, vn, vs, vb, vc, row, col, fr, fc, row2, col2, fr2, fc2, txt⟩ := h
 by_cases e1 : kind = 1
 ·
  subst e1; exact plain_1 vk vn vs vb vc row col fr fc row2 col2 fr2 fc2 txt a n cap w
 by_cases e2 : kind = 2
 ·
  subst e2; exact plain_2 vk vn vs vb vc row col fr fc row2 col2 fr2 fc2 txt a n cap w
 by_cases e3 : kind = 3
 ·
  subst e3; exact plain_3 vk vn vs vb vc row col fr fc row2 col2 fr2 fc2 txt a n cap w
 by_cases e5 : kind = 5
 ·
  subst e5; exact plain_5 vk vn vs vb vc row col fr fc row2 col2 fr2 fc2 txt a n cap w
 by_cases e6 : kind = 6
 ·
  subst e6; exact plain_6 vk vn vs vb vc row col fr fc row2 col2 fr2 fc2 txt a n cap w
 exact plain_kind kind (by simpa using e1) (by simpa using e2) (by simpa using e3) (by simpa using e5) (by simpa using e6) vk vn vs vb vc row col fr fc row2 col2 fr2 fc2 txt a n cap w
end
section
open Go.RowKit Go.Shelf
theorem rname_all (s : ByteArray) (w : World) (hs : s.size ≤ maxLen) :
  Calls Tryz.prog 83 #[.string s] w fun e w' => e = .returned (.bool (nmB s.data.toList)) ∧ w' = w := by
 by_cases h : s.size ≤ 1024
 ·
  exact rname_any s w h
 ·
  have hl : s.data.toList.length = s.size := by simp
  unfold maxLen at hs
  have g0 : ¬ (s.size : Int) < 1 := by omega
  have g20 : (20 : Int) < s.size := by omega
  rw [show nmB s.data.toList = false by unfold nmB; rw [show decide (s.data.toList.length ≤ 20) = false from decide_eq_false (by omega)]; simp]
  go_enter Tryz.func83, Tryz.ntmps83
  go_wp2
  go_ret
  exact ⟨rfl, rfl⟩
def RRightC (k : Fo) : Prop :=
 ∀ (D : Nat → Prop) (h : Hd) (v : Value) (w : World), (∀ c, D c → c < w.heap.size) → Kv w D v k → h.vs.length ≤ maxLen → h.txt.length ≤ maxLen → okF k →
  Calls Tryz.prog 54 #[.agg (hdC h v).toArray] w fun e w' => e = .returned (.bool (rightN h k)) ∧ Below w.heap.size w w'
def RRightA : Fo → Prop
 | .nil => True
 | .cons _ k r => RRightC k ∧ RRightA r
theorem rright_step (k : Fo) (hA : RRightA k) : RRightC k := by
 intro D h v w hD hk hv ht hok
 obtain ⟨a, n, cap, rfl, hn, hk⟩ := hk
 subst hn
 have HPl : Hid (∀ W : World, Calls Tryz.prog 79 #[.agg (hdC h (.slice a k.len cap)).toArray] W fun e w' => e = .returned (.bool (plainB h)) ∧ Below W.heap.size W w') := fun W => plain_any h a k.len cap W
 have hR : rightN h k = ((plainB h && swB h k.len) && allB k) := by unfold rightN; rw [alone_split]
 have HX0 := hide (Box.new w (hdC h (.slice a k.len cap)))
 have HB0 := hide ((Below.refl w.heap.size w).alloc (Nat.le_refl _) (.cells (hdC h (.slice a k.len cap)).toArray 33))
 have HK1 := hide hk
 have HA := hide hA
 have HOk := hide hok
 have HVS := hide hv
 have HTX := hide ht
 clear hk hA hok hv ht
 cases hp : plainB h with
 | false =>
  rw [hp] at HPl hR
  have HS : Hid (rightN h k = false) := by show _ = _; rw [hR]; simp
  clear hR hp
  go_enter Tryz.func54, Tryz.ntmps54
  go_wp2_with (first | (with_reducible refine wpl_id ?_; refine wpl_load rfl _ rfl _ rfl (by ((repeat' (first | with_reducible (first | exact Hid.out (by assumption) | apply Box.set | exact Box.new _ _ | apply Box.other | apply Box.alloc | apply Box.drew | apply Box.drewN) | omega)); done)) ?_) | (go_at_call 79; refine (HPl.out _).mono ?_; rintro e w1 ⟨rfl, hb1⟩; have HB1 := hide (HB0.out.trans (hb1.mono HB0.out.size)); clear hb1))
  go_ret
  exact ⟨by rw [HS.out]; rfl, HB1.out⟩
 | true =>
  rw [hp] at HPl hR
  have HRA : Hid (rightN h k = (swB h k.len && allB k)) := by show _ = _; rw [hR]; simp
  clear hR hp
  go_enter Tryz.func54, Tryz.ntmps54
  go_wp2_with (first | (with_reducible refine wpl_id ?_; refine wpl_load rfl _ rfl _ rfl (by ((repeat' (first | with_reducible (first | exact Hid.out (by assumption) | apply Box.set | exact Box.new _ _ | apply Box.other | apply Box.alloc | apply Box.drew | apply Box.drewN) | omega)); done)) ?_) | (go_at_call 79; refine (HPl.out _).mono ?_; rintro e w1 ⟨rfl, hb1⟩; have HB1 := hide (HB0.out.trans (hb1.mono HB0.out.size)); have HX1 := hide (HX0.out.below hb1); clear hb1))
  go_loopw [3] (fun u wr => ∃ (i : Nat) (F : Fo), u = .int .i64 (i : Int) ∧ i + F.len = k.len ∧ (F = .nil ∨ ∃ b' o', a = some ⟨b', o', none⟩ ∧ k.len ≤ cap ∧ cap ≤ maxLen ∧ Row w D F b' (o' + i * 16)) ∧ RRightA F ∧ okF F ∧ Below w.heap.size w wr ∧ Box wr w.heap.size (hdC h (.slice a k.len cap)) ∧ allB k = allB F) (fun u _ => k.len - (intOf u).toNat)
  case atStart =>
   refine ⟨0, k, rfl, by omega, ?_, HA.out, HOk.out, HB1.out, HX1.out, rfl⟩
   rcases HK1.out with e | ⟨b', o', e1, e2, e3, e4⟩
   ·
    exact .inl e
   ·
    exact .inr ⟨b', o', e1, e2, e3, by simpa using e4⟩
  case round =>
   obtain ⟨i, F, rfl, hl, hF, hAF, hOF, hB, hX, hq⟩ := hrel
   have HQ := hide hq
   have HB := hide hB
   have HXr := hide hX
   have hsz := hB.size
   have c15 : wr.cell? ⟨w.heap.size, 15, none⟩ = some (.slice a k.len cap) := hX.cell 15 _ rfl
   clear hq hB hX HPl HB1 HX1 HX0
   match F, hl, hF, hAF, hOF, HQ with
   | .nil, hl, _, _, _, HQ =>
    have hli : ¬ (i : Int) < (k.len : Int) := by simp [Fo.len] at hl; omega
    have HRN : Hid (rightN h k = swB h k.len) := by show _ = _; rw [HRA.out, HQ.out]; simp [allB]
    obtain ⟨c0, c1, c2, c3, c4, c5, c6, c7, c8, c9, c10, c11, c12, c13, c14⟩ := node_cells HXr.out
    clear HQ HRA HA HOk HK1 HB0 hl hD
    by_cases ek : h.kind = 1
    ·
     have hs : rightN h k = (decide (k.len = 0) && (rightB h.vk h.vn ⟨h.vs.toArray⟩ h.vb h.vc && decide (h.vk ≠ 0) && decide (0 ≤ h.vn))) := by rw [HRN.out]; unfold swB constB; rw [if_pos ek]
     rw [ek] at c0
     clear HRN ek
     by_cases n0 : k.len = 0
     ·
      have m0 : ((k.len : Int) == 0) = true := by simp [n0]
      have HV : Hid (∀ W : World, Calls Tryz.prog 80 #[.agg #[.int .i64 h.vk, .int .i64 h.vn, .string ⟨h.vs.toArray⟩, .bool h.vb, .int .i64 h.vc]] W fun e w' => e = .returned (.bool (rightB h.vk h.vn ⟨h.vs.toArray⟩ h.vb h.vc)) ∧ Below W.heap.size W w') := fun W => rright_any _ _ _ _ _ W (by simpa [ByteArray.size] using HVS.out)
      cases hr : rightB h.vk h.vn ⟨h.vs.toArray⟩ h.vb h.vc with
      | false =>
       rw [hr] at HV hs
       have HS : Hid (rightN h k = false) := by show _ = _; rw [hs]; simp
       clear hs hr n0
       go_wp2_with (first | (go_at_call 80; refine (HV.out _).mono ?_; rintro e w2 ⟨rfl, hb2⟩; have hbx := HB.out.trans (hb2.mono HB.out.size); obtain ⟨c0, c1, c2, c3, c4, c5, c6, c7, c8, c9, c10, c11, c12, c13, c14⟩ := node_cells (HXr.out.below hb2); clear hb2) | (go_at_call_of 81 [Value.agg #[Value.int IntKind.i64 h.row, Value.int IntKind.i64 h.col]]; refine (HP1.out _).mono ?_; rintro e w2 ⟨rfl, hw2⟩; have hb2 : Below wr.heap.size wr w2 := by { rw [hw2]; exact (Below.refl _ _).alloc (Nat.le_refl _) _ }; clear hw2; have hbx := HB.out.trans (hb2.mono HB.out.size); obtain ⟨c0, c1, c2, c3, c4, c5, c6, c7, c8, c9, c10, c11, c12, c13, c14⟩ := node_cells (HXr.out.below hb2); clear hb2) | (go_at_call_of 81 [Value.agg #[Value.int IntKind.i64 h.row2, Value.int IntKind.i64 h.col2]]; refine (HP2.out _).mono ?_; rintro e w3 ⟨rfl, hw3⟩; have hby := hbx.trans ((show Below w2.heap.size w2 w3 by { rw [hw3]; exact (Below.refl _ _).alloc (Nat.le_refl _) _ }).mono hbx.size); clear hw3) | (go_at_call 82; refine (HLn.out _).mono ?_; rintro e w2 ⟨rfl, hw2⟩; subst w2) | (go_at_call 83; refine (HNm.out _).mono ?_; rintro e w2 ⟨rfl, hw2⟩; subst w2) | (go_at_call 84; refine (HFd.out _).mono ?_; rintro e w3 ⟨rfl, hb3⟩; have hbx := HB.out.trans (hb3.mono HB.out.size); obtain ⟨c0, c1, c2, c3, c4, c5, c6, c7, c8, c9, c10, c11, c12, c13, c14⟩ := node_cells (HXr.out.below hb3); clear hb3))
       go_ret
       exact ⟨by rw [HS.out]; rfl, hbx⟩
      | true =>
       rw [hr] at HV hs
       by_cases v0 : h.vk = 0
       ·
        have q0 : (h.vk != 0) = false := by simp [v0]
        have HS : Hid (rightN h k = false) := by show _ = _; rw [hs]; simp [v0]
        clear hs hr n0 v0
        go_wp2_with (first | (go_at_call 80; refine (HV.out _).mono ?_; rintro e w2 ⟨rfl, hb2⟩; have hbx := HB.out.trans (hb2.mono HB.out.size); obtain ⟨c0, c1, c2, c3, c4, c5, c6, c7, c8, c9, c10, c11, c12, c13, c14⟩ := node_cells (HXr.out.below hb2); clear hb2) | (go_at_call_of 81 [Value.agg #[Value.int IntKind.i64 h.row, Value.int IntKind.i64 h.col]]; refine (HP1.out _).mono ?_; rintro e w2 ⟨rfl, hw2⟩; have hb2 : Below wr.heap.size wr w2 := by { rw [hw2]; exact (Below.refl _ _).alloc (Nat.le_refl _) _ }; clear hw2; have hbx := HB.out.trans (hb2.mono HB.out.size); obtain ⟨c0, c1, c2, c3, c4, c5, c6, c7, c8, c9, c10, c11, c12, c13, c14⟩ := node_cells (HXr.out.below hb2); clear hb2) | (go_at_call_of 81 [Value.agg #[Value.int IntKind.i64 h.row2, Value.int IntKind.i64 h.col2]]; refine (HP2.out _).mono ?_; rintro e w3 ⟨rfl, hw3⟩; have hby := hbx.trans ((show Below w2.heap.size w2 w3 by { rw [hw3]; exact (Below.refl _ _).alloc (Nat.le_refl _) _ }).mono hbx.size); clear hw3) | (go_at_call 82; refine (HLn.out _).mono ?_; rintro e w2 ⟨rfl, hw2⟩; subst w2) | (go_at_call 83; refine (HNm.out _).mono ?_; rintro e w2 ⟨rfl, hw2⟩; subst w2) | (go_at_call 84; refine (HFd.out _).mono ?_; rintro e w3 ⟨rfl, hb3⟩; have hbx := HB.out.trans (hb3.mono HB.out.size); obtain ⟨c0, c1, c2, c3, c4, c5, c6, c7, c8, c9, c10, c11, c12, c13, c14⟩ := node_cells (HXr.out.below hb3); clear hb3))
        go_ret
        exact ⟨by rw [HS.out]; rfl, hbx⟩
       ·
        have q0 : (h.vk != 0) = true := by simpa using v0
        have HS : Hid (rightN h k = decide (0 ≤ h.vn)) := by show _ = _; rw [hs]; simp [v0, n0]
        clear hs hr n0 v0
        go_wp2_with (first | (go_at_call 80; refine (HV.out _).mono ?_; rintro e w2 ⟨rfl, hb2⟩; have hbx := HB.out.trans (hb2.mono HB.out.size); obtain ⟨c0, c1, c2, c3, c4, c5, c6, c7, c8, c9, c10, c11, c12, c13, c14⟩ := node_cells (HXr.out.below hb2); clear hb2) | (go_at_call_of 81 [Value.agg #[Value.int IntKind.i64 h.row, Value.int IntKind.i64 h.col]]; refine (HP1.out _).mono ?_; rintro e w2 ⟨rfl, hw2⟩; have hb2 : Below wr.heap.size wr w2 := by { rw [hw2]; exact (Below.refl _ _).alloc (Nat.le_refl _) _ }; clear hw2; have hbx := HB.out.trans (hb2.mono HB.out.size); obtain ⟨c0, c1, c2, c3, c4, c5, c6, c7, c8, c9, c10, c11, c12, c13, c14⟩ := node_cells (HXr.out.below hb2); clear hb2) | (go_at_call_of 81 [Value.agg #[Value.int IntKind.i64 h.row2, Value.int IntKind.i64 h.col2]]; refine (HP2.out _).mono ?_; rintro e w3 ⟨rfl, hw3⟩; have hby := hbx.trans ((show Below w2.heap.size w2 w3 by { rw [hw3]; exact (Below.refl _ _).alloc (Nat.le_refl _) _ }).mono hbx.size); clear hw3) | (go_at_call 82; refine (HLn.out _).mono ?_; rintro e w2 ⟨rfl, hw2⟩; subst w2) | (go_at_call 83; refine (HNm.out _).mono ?_; rintro e w2 ⟨rfl, hw2⟩; subst w2) | (go_at_call 84; refine (HFd.out _).mono ?_; rintro e w3 ⟨rfl, hb3⟩; have hbx := HB.out.trans (hb3.mono HB.out.size); obtain ⟨c0, c1, c2, c3, c4, c5, c6, c7, c8, c9, c10, c11, c12, c13, c14⟩ := node_cells (HXr.out.below hb3); clear hb3))
        go_ret
        exact ⟨by rw [HS.out]; rfl, hbx⟩
     ·
      have m0 : ((k.len : Int) == 0) = false := by simpa using n0
      have HS : Hid (rightN h k = false) := by show _ = _; rw [hs]; simp [n0]
      clear hs n0
      go_wp2_with (first | (go_at_call 80; refine (HV.out _).mono ?_; rintro e w2 ⟨rfl, hb2⟩; have hbx := HB.out.trans (hb2.mono HB.out.size); obtain ⟨c0, c1, c2, c3, c4, c5, c6, c7, c8, c9, c10, c11, c12, c13, c14⟩ := node_cells (HXr.out.below hb2); clear hb2) | (go_at_call_of 81 [Value.agg #[Value.int IntKind.i64 h.row, Value.int IntKind.i64 h.col]]; refine (HP1.out _).mono ?_; rintro e w2 ⟨rfl, hw2⟩; have hb2 : Below wr.heap.size wr w2 := by { rw [hw2]; exact (Below.refl _ _).alloc (Nat.le_refl _) _ }; clear hw2; have hbx := HB.out.trans (hb2.mono HB.out.size); obtain ⟨c0, c1, c2, c3, c4, c5, c6, c7, c8, c9, c10, c11, c12, c13, c14⟩ := node_cells (HXr.out.below hb2); clear hb2) | (go_at_call_of 81 [Value.agg #[Value.int IntKind.i64 h.row2, Value.int IntKind.i64 h.col2]]; refine (HP2.out _).mono ?_; rintro e w3 ⟨rfl, hw3⟩; have hby := hbx.trans ((show Below w2.heap.size w2 w3 by { rw [hw3]; exact (Below.refl _ _).alloc (Nat.le_refl _) _ }).mono hbx.size); clear hw3) | (go_at_call 82; refine (HLn.out _).mono ?_; rintro e w2 ⟨rfl, hw2⟩; subst w2) | (go_at_call 83; refine (HNm.out _).mono ?_; rintro e w2 ⟨rfl, hw2⟩; subst w2) | (go_at_call 84; refine (HFd.out _).mono ?_; rintro e w3 ⟨rfl, hb3⟩; have hbx := HB.out.trans (hb3.mono HB.out.size); obtain ⟨c0, c1, c2, c3, c4, c5, c6, c7, c8, c9, c10, c11, c12, c13, c14⟩ := node_cells (HXr.out.below hb3); clear hb3))
      go_ret
      exact ⟨by rw [HS.out]; rfl, HB.out⟩
    have k1' := ek
    clear ek
    by_cases ek : h.kind = 2
    ·
     have hs : rightN h k = (decide (k.len = 0) && Pla.placeB h.row h.col) := by rw [HRN.out]; unfold swB; rw [if_neg (by omega), if_pos ek]
     rw [ek] at c0
     clear HRN ek
     by_cases n0 : k.len = 0
     ·
      have m0 : ((k.len : Int) == 0) = true := by simp [n0]
      have HP1 : Hid (∀ W : World, Calls Tryz.prog 81 #[.agg #[.int .i64 h.row, .int .i64 h.col]] W fun e w' => e = .returned (.bool (Pla.placeB h.row h.col)) ∧ w' = W.alloc (.cells #[.int .i64 h.row, .int .i64 h.col] 28)) := fun W => Pla.rplace_any _ _ W
      have HS : Hid (rightN h k = Pla.placeB h.row h.col) := by show _ = _; rw [hs]; simp [n0]
      clear hs n0
      generalize Pla.placeB h.row h.col = pb at *
      go_wp2_with (first | (go_at_call 80; refine (HV.out _).mono ?_; rintro e w2 ⟨rfl, hb2⟩; have hbx := HB.out.trans (hb2.mono HB.out.size); obtain ⟨c0, c1, c2, c3, c4, c5, c6, c7, c8, c9, c10, c11, c12, c13, c14⟩ := node_cells (HXr.out.below hb2); clear hb2) | (go_at_call_of 81 [Value.agg #[Value.int IntKind.i64 h.row, Value.int IntKind.i64 h.col]]; refine (HP1.out _).mono ?_; rintro e w2 ⟨rfl, hw2⟩; have hb2 : Below wr.heap.size wr w2 := by { rw [hw2]; exact (Below.refl _ _).alloc (Nat.le_refl _) _ }; clear hw2; have hbx := HB.out.trans (hb2.mono HB.out.size); obtain ⟨c0, c1, c2, c3, c4, c5, c6, c7, c8, c9, c10, c11, c12, c13, c14⟩ := node_cells (HXr.out.below hb2); clear hb2) | (go_at_call_of 81 [Value.agg #[Value.int IntKind.i64 h.row2, Value.int IntKind.i64 h.col2]]; refine (HP2.out _).mono ?_; rintro e w3 ⟨rfl, hw3⟩; have hby := hbx.trans ((show Below w2.heap.size w2 w3 by { rw [hw3]; exact (Below.refl _ _).alloc (Nat.le_refl _) _ }).mono hbx.size); clear hw3) | (go_at_call 82; refine (HLn.out _).mono ?_; rintro e w2 ⟨rfl, hw2⟩; subst w2) | (go_at_call 83; refine (HNm.out _).mono ?_; rintro e w2 ⟨rfl, hw2⟩; subst w2) | (go_at_call 84; refine (HFd.out _).mono ?_; rintro e w3 ⟨rfl, hb3⟩; have hbx := HB.out.trans (hb3.mono HB.out.size); obtain ⟨c0, c1, c2, c3, c4, c5, c6, c7, c8, c9, c10, c11, c12, c13, c14⟩ := node_cells (HXr.out.below hb3); clear hb3))
      go_ret
      exact ⟨by rw [HS.out]; rfl, hbx⟩
     ·
      have m0 : ((k.len : Int) == 0) = false := by simpa using n0
      have HS : Hid (rightN h k = false) := by show _ = _; rw [hs]; simp [n0]
      clear hs n0
      go_wp2_with (first | (go_at_call 80; refine (HV.out _).mono ?_; rintro e w2 ⟨rfl, hb2⟩; have hbx := HB.out.trans (hb2.mono HB.out.size); obtain ⟨c0, c1, c2, c3, c4, c5, c6, c7, c8, c9, c10, c11, c12, c13, c14⟩ := node_cells (HXr.out.below hb2); clear hb2) | (go_at_call_of 81 [Value.agg #[Value.int IntKind.i64 h.row, Value.int IntKind.i64 h.col]]; refine (HP1.out _).mono ?_; rintro e w2 ⟨rfl, hw2⟩; have hb2 : Below wr.heap.size wr w2 := by { rw [hw2]; exact (Below.refl _ _).alloc (Nat.le_refl _) _ }; clear hw2; have hbx := HB.out.trans (hb2.mono HB.out.size); obtain ⟨c0, c1, c2, c3, c4, c5, c6, c7, c8, c9, c10, c11, c12, c13, c14⟩ := node_cells (HXr.out.below hb2); clear hb2) | (go_at_call_of 81 [Value.agg #[Value.int IntKind.i64 h.row2, Value.int IntKind.i64 h.col2]]; refine (HP2.out _).mono ?_; rintro e w3 ⟨rfl, hw3⟩; have hby := hbx.trans ((show Below w2.heap.size w2 w3 by { rw [hw3]; exact (Below.refl _ _).alloc (Nat.le_refl _) _ }).mono hbx.size); clear hw3) | (go_at_call 82; refine (HLn.out _).mono ?_; rintro e w2 ⟨rfl, hw2⟩; subst w2) | (go_at_call 83; refine (HNm.out _).mono ?_; rintro e w2 ⟨rfl, hw2⟩; subst w2) | (go_at_call 84; refine (HFd.out _).mono ?_; rintro e w3 ⟨rfl, hb3⟩; have hbx := HB.out.trans (hb3.mono HB.out.size); obtain ⟨c0, c1, c2, c3, c4, c5, c6, c7, c8, c9, c10, c11, c12, c13, c14⟩ := node_cells (HXr.out.below hb3); clear hb3))
      go_ret
      exact ⟨by rw [HS.out]; rfl, HB.out⟩
    have k2' := ek
    clear ek
    by_cases ek : h.kind = 3
    ·
     have hs : rightN h k = (decide (k.len = 0) && Pla.placeB h.row h.col && Pla.placeB h.row2 h.col2) := by rw [HRN.out]; unfold swB; rw [if_neg (by omega), if_neg (by omega), if_pos ek]
     rw [ek] at c0
     clear HRN ek
     by_cases n0 : k.len = 0
     ·
      have m0 : ((k.len : Int) == 0) = true := by simp [n0]
      have HP1 : Hid (∀ W : World, Calls Tryz.prog 81 #[.agg #[.int .i64 h.row, .int .i64 h.col]] W fun e w' => e = .returned (.bool (Pla.placeB h.row h.col)) ∧ w' = W.alloc (.cells #[.int .i64 h.row, .int .i64 h.col] 28)) := fun W => Pla.rplace_any _ _ W
      have HP2 : Hid (∀ W : World, Calls Tryz.prog 81 #[.agg #[.int .i64 h.row2, .int .i64 h.col2]] W fun e w' => e = .returned (.bool (Pla.placeB h.row2 h.col2)) ∧ w' = W.alloc (.cells #[.int .i64 h.row2, .int .i64 h.col2] 28)) := fun W => Pla.rplace_any _ _ W
      cases hp : Pla.placeB h.row h.col with
      | false =>
       rw [hp] at HP1 hs
       have HS : Hid (rightN h k = false) := by show _ = _; rw [hs]; simp
       clear hs n0 hp
       go_wp2_with (first | (go_at_call 80; refine (HV.out _).mono ?_; rintro e w2 ⟨rfl, hb2⟩; have hbx := HB.out.trans (hb2.mono HB.out.size); obtain ⟨c0, c1, c2, c3, c4, c5, c6, c7, c8, c9, c10, c11, c12, c13, c14⟩ := node_cells (HXr.out.below hb2); clear hb2) | (go_at_call_of 81 [Value.agg #[Value.int IntKind.i64 h.row, Value.int IntKind.i64 h.col]]; refine (HP1.out _).mono ?_; rintro e w2 ⟨rfl, hw2⟩; have hb2 : Below wr.heap.size wr w2 := by { rw [hw2]; exact (Below.refl _ _).alloc (Nat.le_refl _) _ }; clear hw2; have hbx := HB.out.trans (hb2.mono HB.out.size); obtain ⟨c0, c1, c2, c3, c4, c5, c6, c7, c8, c9, c10, c11, c12, c13, c14⟩ := node_cells (HXr.out.below hb2); clear hb2) | (go_at_call_of 81 [Value.agg #[Value.int IntKind.i64 h.row2, Value.int IntKind.i64 h.col2]]; refine (HP2.out _).mono ?_; rintro e w3 ⟨rfl, hw3⟩; have hby := hbx.trans ((show Below w2.heap.size w2 w3 by { rw [hw3]; exact (Below.refl _ _).alloc (Nat.le_refl _) _ }).mono hbx.size); clear hw3) | (go_at_call 82; refine (HLn.out _).mono ?_; rintro e w2 ⟨rfl, hw2⟩; subst w2) | (go_at_call 83; refine (HNm.out _).mono ?_; rintro e w2 ⟨rfl, hw2⟩; subst w2) | (go_at_call 84; refine (HFd.out _).mono ?_; rintro e w3 ⟨rfl, hb3⟩; have hbx := HB.out.trans (hb3.mono HB.out.size); obtain ⟨c0, c1, c2, c3, c4, c5, c6, c7, c8, c9, c10, c11, c12, c13, c14⟩ := node_cells (HXr.out.below hb3); clear hb3))
       go_ret
       exact ⟨by rw [HS.out]; rfl, hbx⟩
      | true =>
       rw [hp] at HP1 hs
       have HS : Hid (rightN h k = Pla.placeB h.row2 h.col2) := by show _ = _; rw [hs]; simp [n0]
       clear hs n0 hp
       generalize Pla.placeB h.row2 h.col2 = pb at *
       go_wp2_with (first | (go_at_call 80; refine (HV.out _).mono ?_; rintro e w2 ⟨rfl, hb2⟩; have hbx := HB.out.trans (hb2.mono HB.out.size); obtain ⟨c0, c1, c2, c3, c4, c5, c6, c7, c8, c9, c10, c11, c12, c13, c14⟩ := node_cells (HXr.out.below hb2); clear hb2) | (go_at_call_of 81 [Value.agg #[Value.int IntKind.i64 h.row, Value.int IntKind.i64 h.col]]; refine (HP1.out _).mono ?_; rintro e w2 ⟨rfl, hw2⟩; have hb2 : Below wr.heap.size wr w2 := by { rw [hw2]; exact (Below.refl _ _).alloc (Nat.le_refl _) _ }; clear hw2; have hbx := HB.out.trans (hb2.mono HB.out.size); obtain ⟨c0, c1, c2, c3, c4, c5, c6, c7, c8, c9, c10, c11, c12, c13, c14⟩ := node_cells (HXr.out.below hb2); clear hb2) | (go_at_call_of 81 [Value.agg #[Value.int IntKind.i64 h.row2, Value.int IntKind.i64 h.col2]]; refine (HP2.out _).mono ?_; rintro e w3 ⟨rfl, hw3⟩; have hby := hbx.trans ((show Below w2.heap.size w2 w3 by { rw [hw3]; exact (Below.refl _ _).alloc (Nat.le_refl _) _ }).mono hbx.size); clear hw3) | (go_at_call 82; refine (HLn.out _).mono ?_; rintro e w2 ⟨rfl, hw2⟩; subst w2) | (go_at_call 83; refine (HNm.out _).mono ?_; rintro e w2 ⟨rfl, hw2⟩; subst w2) | (go_at_call 84; refine (HFd.out _).mono ?_; rintro e w3 ⟨rfl, hb3⟩; have hbx := HB.out.trans (hb3.mono HB.out.size); obtain ⟨c0, c1, c2, c3, c4, c5, c6, c7, c8, c9, c10, c11, c12, c13, c14⟩ := node_cells (HXr.out.below hb3); clear hb3))
       go_ret
       exact ⟨by rw [HS.out]; rfl, hby⟩
     ·
      have m0 : ((k.len : Int) == 0) = false := by simpa using n0
      have HS : Hid (rightN h k = false) := by show _ = _; rw [hs]; simp [n0]
      clear hs n0
      go_wp2_with (first | (go_at_call 80; refine (HV.out _).mono ?_; rintro e w2 ⟨rfl, hb2⟩; have hbx := HB.out.trans (hb2.mono HB.out.size); obtain ⟨c0, c1, c2, c3, c4, c5, c6, c7, c8, c9, c10, c11, c12, c13, c14⟩ := node_cells (HXr.out.below hb2); clear hb2) | (go_at_call_of 81 [Value.agg #[Value.int IntKind.i64 h.row, Value.int IntKind.i64 h.col]]; refine (HP1.out _).mono ?_; rintro e w2 ⟨rfl, hw2⟩; have hb2 : Below wr.heap.size wr w2 := by { rw [hw2]; exact (Below.refl _ _).alloc (Nat.le_refl _) _ }; clear hw2; have hbx := HB.out.trans (hb2.mono HB.out.size); obtain ⟨c0, c1, c2, c3, c4, c5, c6, c7, c8, c9, c10, c11, c12, c13, c14⟩ := node_cells (HXr.out.below hb2); clear hb2) | (go_at_call_of 81 [Value.agg #[Value.int IntKind.i64 h.row2, Value.int IntKind.i64 h.col2]]; refine (HP2.out _).mono ?_; rintro e w3 ⟨rfl, hw3⟩; have hby := hbx.trans ((show Below w2.heap.size w2 w3 by { rw [hw3]; exact (Below.refl _ _).alloc (Nat.le_refl _) _ }).mono hbx.size); clear hw3) | (go_at_call 82; refine (HLn.out _).mono ?_; rintro e w2 ⟨rfl, hw2⟩; subst w2) | (go_at_call 83; refine (HNm.out _).mono ?_; rintro e w2 ⟨rfl, hw2⟩; subst w2) | (go_at_call 84; refine (HFd.out _).mono ?_; rintro e w3 ⟨rfl, hb3⟩; have hbx := HB.out.trans (hb3.mono HB.out.size); obtain ⟨c0, c1, c2, c3, c4, c5, c6, c7, c8, c9, c10, c11, c12, c13, c14⟩ := node_cells (HXr.out.below hb3); clear hb3))
      go_ret
      exact ⟨by rw [HS.out]; rfl, HB.out⟩
    have k3' := ek
    clear ek
    by_cases ek : h.kind = 4
    ·
     have hs : rightN h k = decide (k.len = 1) := by rw [HRN.out]; unfold swB; rw [if_neg (by omega), if_neg (by omega), if_neg (by omega), if_pos ek]
     rw [ek] at c0
     clear HRN ek
     have HS : Hid (rightN h k = ((k.len : Int) == 1)) := by
      show _ = _
      rw [hs, Bool.eq_iff_iff]
      simp
      omega
     clear hs
     go_wp2_with (first | (go_at_call 80; refine (HV.out _).mono ?_; rintro e w2 ⟨rfl, hb2⟩; have hbx := HB.out.trans (hb2.mono HB.out.size); obtain ⟨c0, c1, c2, c3, c4, c5, c6, c7, c8, c9, c10, c11, c12, c13, c14⟩ := node_cells (HXr.out.below hb2); clear hb2) | (go_at_call_of 81 [Value.agg #[Value.int IntKind.i64 h.row, Value.int IntKind.i64 h.col]]; refine (HP1.out _).mono ?_; rintro e w2 ⟨rfl, hw2⟩; have hb2 : Below wr.heap.size wr w2 := by { rw [hw2]; exact (Below.refl _ _).alloc (Nat.le_refl _) _ }; clear hw2; have hbx := HB.out.trans (hb2.mono HB.out.size); obtain ⟨c0, c1, c2, c3, c4, c5, c6, c7, c8, c9, c10, c11, c12, c13, c14⟩ := node_cells (HXr.out.below hb2); clear hb2) | (go_at_call_of 81 [Value.agg #[Value.int IntKind.i64 h.row2, Value.int IntKind.i64 h.col2]]; refine (HP2.out _).mono ?_; rintro e w3 ⟨rfl, hw3⟩; have hby := hbx.trans ((show Below w2.heap.size w2 w3 by { rw [hw3]; exact (Below.refl _ _).alloc (Nat.le_refl _) _ }).mono hbx.size); clear hw3) | (go_at_call 82; refine (HLn.out _).mono ?_; rintro e w2 ⟨rfl, hw2⟩; subst w2) | (go_at_call 83; refine (HNm.out _).mono ?_; rintro e w2 ⟨rfl, hw2⟩; subst w2) | (go_at_call 84; refine (HFd.out _).mono ?_; rintro e w3 ⟨rfl, hb3⟩; have hbx := HB.out.trans (hb3.mono HB.out.size); obtain ⟨c0, c1, c2, c3, c4, c5, c6, c7, c8, c9, c10, c11, c12, c13, c14⟩ := node_cells (HXr.out.below hb3); clear hb3))
     go_ret
     exact ⟨by rw [HS.out]; rfl, HB.out⟩
    have k4' := ek
    clear ek
    by_cases ek : h.kind = 5
    ·
     have hs : rightN h k = (decide (k.len = 2) && decide (0 < bindN h.txt)) := by rw [HRN.out]; unfold swB; rw [if_neg (by omega), if_neg (by omega), if_neg (by omega), if_neg (by omega), if_pos ek]
     rw [ek] at c0
     clear HRN ek
     have HLn : Hid (∀ W : World, Calls Tryz.prog 82 #[.string ⟨h.txt.toArray⟩] W fun e w' => e = .returned (.int .i64 ((bindN h.txt : Int) - 1)) ∧ w' = W) := fun W => line_any ⟨h.txt.toArray⟩ W
     by_cases n0 : k.len = 2
     ·
      have m0 : ((k.len : Int) == 2) = true := by simp [n0]
      have HS : Hid (rightN h k = decide ((0 : Int) ≤ (bindN h.txt : Int) - 1)) := by
       show _ = _
       rw [hs, Bool.eq_iff_iff]
       simp [n0]
       omega
      clear hs n0
      generalize (bindN h.txt : Int) - 1 = bb at *
      go_wp2_with (first | (go_at_call 80; refine (HV.out _).mono ?_; rintro e w2 ⟨rfl, hb2⟩; have hbx := HB.out.trans (hb2.mono HB.out.size); obtain ⟨c0, c1, c2, c3, c4, c5, c6, c7, c8, c9, c10, c11, c12, c13, c14⟩ := node_cells (HXr.out.below hb2); clear hb2) | (go_at_call_of 81 [Value.agg #[Value.int IntKind.i64 h.row, Value.int IntKind.i64 h.col]]; refine (HP1.out _).mono ?_; rintro e w2 ⟨rfl, hw2⟩; have hb2 : Below wr.heap.size wr w2 := by { rw [hw2]; exact (Below.refl _ _).alloc (Nat.le_refl _) _ }; clear hw2; have hbx := HB.out.trans (hb2.mono HB.out.size); obtain ⟨c0, c1, c2, c3, c4, c5, c6, c7, c8, c9, c10, c11, c12, c13, c14⟩ := node_cells (HXr.out.below hb2); clear hb2) | (go_at_call_of 81 [Value.agg #[Value.int IntKind.i64 h.row2, Value.int IntKind.i64 h.col2]]; refine (HP2.out _).mono ?_; rintro e w3 ⟨rfl, hw3⟩; have hby := hbx.trans ((show Below w2.heap.size w2 w3 by { rw [hw3]; exact (Below.refl _ _).alloc (Nat.le_refl _) _ }).mono hbx.size); clear hw3) | (go_at_call 82; refine (HLn.out _).mono ?_; rintro e w2 ⟨rfl, hw2⟩; subst w2) | (go_at_call 83; refine (HNm.out _).mono ?_; rintro e w2 ⟨rfl, hw2⟩; subst w2) | (go_at_call 84; refine (HFd.out _).mono ?_; rintro e w3 ⟨rfl, hb3⟩; have hbx := HB.out.trans (hb3.mono HB.out.size); obtain ⟨c0, c1, c2, c3, c4, c5, c6, c7, c8, c9, c10, c11, c12, c13, c14⟩ := node_cells (HXr.out.below hb3); clear hb3))
      go_ret
      exact ⟨by rw [HS.out]; rfl, HB.out⟩
     ·
      have m0 : ((k.len : Int) == 2) = false := by simp; omega
      have HS : Hid (rightN h k = false) := by show _ = _; rw [hs]; simp [n0]
      clear hs n0
      go_wp2_with (first | (go_at_call 80; refine (HV.out _).mono ?_; rintro e w2 ⟨rfl, hb2⟩; have hbx := HB.out.trans (hb2.mono HB.out.size); obtain ⟨c0, c1, c2, c3, c4, c5, c6, c7, c8, c9, c10, c11, c12, c13, c14⟩ := node_cells (HXr.out.below hb2); clear hb2) | (go_at_call_of 81 [Value.agg #[Value.int IntKind.i64 h.row, Value.int IntKind.i64 h.col]]; refine (HP1.out _).mono ?_; rintro e w2 ⟨rfl, hw2⟩; have hb2 : Below wr.heap.size wr w2 := by { rw [hw2]; exact (Below.refl _ _).alloc (Nat.le_refl _) _ }; clear hw2; have hbx := HB.out.trans (hb2.mono HB.out.size); obtain ⟨c0, c1, c2, c3, c4, c5, c6, c7, c8, c9, c10, c11, c12, c13, c14⟩ := node_cells (HXr.out.below hb2); clear hb2) | (go_at_call_of 81 [Value.agg #[Value.int IntKind.i64 h.row2, Value.int IntKind.i64 h.col2]]; refine (HP2.out _).mono ?_; rintro e w3 ⟨rfl, hw3⟩; have hby := hbx.trans ((show Below w2.heap.size w2 w3 by { rw [hw3]; exact (Below.refl _ _).alloc (Nat.le_refl _) _ }).mono hbx.size); clear hw3) | (go_at_call 82; refine (HLn.out _).mono ?_; rintro e w2 ⟨rfl, hw2⟩; subst w2) | (go_at_call 83; refine (HNm.out _).mono ?_; rintro e w2 ⟨rfl, hw2⟩; subst w2) | (go_at_call 84; refine (HFd.out _).mono ?_; rintro e w3 ⟨rfl, hb3⟩; have hbx := HB.out.trans (hb3.mono HB.out.size); obtain ⟨c0, c1, c2, c3, c4, c5, c6, c7, c8, c9, c10, c11, c12, c13, c14⟩ := node_cells (HXr.out.below hb3); clear hb3))
      go_ret
      exact ⟨by rw [HS.out]; rfl, HB.out⟩
    have k5' := ek
    clear ek
    by_cases ek : h.kind = 6
    ·
     have hs : rightN h k = (nmB h.txt && decide (foldL h.txt = h.txt)) := by rw [HRN.out]; unfold swB; rw [if_neg (by omega), if_neg (by omega), if_neg (by omega), if_neg (by omega), if_neg (by omega), if_pos ek]
     rw [ek] at c0
     clear HRN ek
     have HNm : Hid (∀ W : World, Calls Tryz.prog 83 #[.string ⟨h.txt.toArray⟩] W fun e w' => e = .returned (.bool (nmB h.txt)) ∧ w' = W) := fun W => rname_all ⟨h.txt.toArray⟩ W (by simpa [ByteArray.size] using HTX.out)
     have HFd : Hid (∀ W : World, Calls Tryz.prog 84 #[.string ⟨h.txt.toArray⟩] W fun e w' => e = .returned (.string ⟨(foldL h.txt).toArray⟩) ∧ Below W.heap.size W w') := fun W => rfold_any ⟨h.txt.toArray⟩ W (by simpa [ByteArray.size] using HTX.out)
     cases hn : nmB h.txt with
     | false =>
      rw [hn] at HNm hs
      have HS : Hid (rightN h k = false) := by show _ = _; rw [hs]; simp
      clear hs hn
      have hsd : wr.drew.cell? ⟨w.heap.size, 14, none⟩ = some (.string ⟨h.txt.toArray⟩) := c14
      go_wp2
      refine wp_region_held_drew (S := fun W => W.cell? ⟨w.heap.size, 14, none⟩ = some (.string ⟨h.txt.toArray⟩)) (by kernel_rfl) hsd (fun hHeld => ?_)
      refine takeF 0 (some 96) ?_; refine takeF 1 (some 97) ?_
      (refine wpAnyH_ready (rs := [2]) (by kernel_rfl) (by simp) ?_; refine AllReadyH.cons (o := _) rfl (fun K hK => ?_) AllReadyH.nil; go_simp; go_at_call 83; refine (HNm.out _).mono ?_; rintro e w2 ⟨rfl, hw2⟩; subst w2; refine hK.out _ _ hsd (fun hHeld => ?_); clear hK K; try simp only [Act.put, pA, pB, pC])
      refine takeF 3 (some 99) ?_
      (refine skipE (i := 4) (some 100) rfl rfl (by kernel_rfl) rfl (by assumption) ?_; try simp only [Act.put, pA, pB, pC]); (refine skipE (i := 5) (some 101) rfl rfl (by kernel_rfl) rfl (by assumption) ?_; try simp only [Act.put, pA, pB, pC]); (refine skipE (i := 6) (some 102) rfl rfl (by kernel_rfl) rfl (by assumption) ?_; try simp only [Act.put, pA, pB, pC]); (refine skipE (i := 7) (some 103) rfl rfl (by kernel_rfl) rfl (by assumption) ?_; try simp only [Act.put, pA, pB, pC]); (refine skipE (i := 8) (some 104) rfl rfl (by kernel_rfl) rfl (by assumption) ?_; try simp only [Act.put, pA, pB, pC]); (refine skipE (i := 9) (some 105) rfl rfl (by kernel_rfl) rfl (by assumption) ?_; try simp only [Act.put, pA, pB, pC])
      refine takeF 10 (some 106) ?_; refine takeF 11 (some 2) ?_
      refine wpAnyH_done (by kernel_rfl) ?_ _
      go_wp2
      go_ret
      exact ⟨by rw [HS.out]; rfl, HB.out.drew⟩
     | true =>
      rw [hn] at HNm hs
      have HS : Hid (rightN h k = (foldL h.txt == h.txt)) := by
       show _ = _
       rw [hs, Bool.eq_iff_iff]
       simp
      clear hs hn
      generalize foldL h.txt = fl at *
      have HS6 : Hid (∀ W, Below wr.heap.size wr W → Below wr.heap.size wr W ∧ W.cell? ⟨w.heap.size, 14, none⟩ = some (.string ⟨h.txt.toArray⟩)) := fun W hW => ⟨hW, (hW.cell (p := ⟨w.heap.size, 14, none⟩) HXr.out.lt).trans c14⟩
      have hs0 := HS6.out wr (Below.refl _ _)
      have hs1 : Below wr.heap.size wr wr.drew ∧ wr.drew.cell? ⟨w.heap.size, 14, none⟩ = some (.string ⟨h.txt.toArray⟩) := HS6.out wr.drew (Below.refl _ _).drew
      go_wp2
      go_region_held3 (fun W => Below wr.heap.size wr W ∧ W.cell? ⟨w.heap.size, 14, none⟩ = some (.string ⟨h.txt.toArray⟩)) (first | assumption | (refine HS6.out _ ?_; repeat' (first | with_reducible (first | exact Below.refl _ _ | refine Below.setCell ?_ ?_ _ | refine Below.alloc ?_ ?_ _ | refine below_drewN ?_ _ | refine Below.drew ?_ | refine Below.trans ?_ (Below.mono (by assumption) ?_) | exact Nat.le_refl _ | refine Nat.le_trans ?_ (Below.size (by assumption)) | refine zzA ?_ | refine zzB ?_ | refine zzC ?_ | refine zzD ?_) | (simp; done) | (simp; omega) | omega))) (first | (go_at_call 83; refine (HNm.out _).mono ?_; rintro e w2 ⟨rfl, hw2⟩; subst w2) | (go_at_call 84; refine (HFd.out _).mono ?_; rintro e w3 ⟨rfl, hb3⟩; have HB3 := hide hb3))
      all_goals go_wp2
      go_ret
      exact ⟨by rw [HS.out]; rfl, HB.out.drew.trans (HB3.out.mono HB.out.drew.size)⟩
    have k6' := ek
    clear ek
    have hs : rightN h k = false := by
     rw [HRN.out]; unfold swB
     rw [if_neg k1', if_neg k2', if_neg k3', if_neg k4', if_neg k5', if_neg k6']
    have e1 : (h.kind == 1) = false := by simpa using k1'
    have e2 : (h.kind == 2) = false := by simpa using k2'
    have e3 : (h.kind == 3) = false := by simpa using k3'
    have e4 : (h.kind == 4) = false := by simpa using k4'
    have e5 : (h.kind == 5) = false := by simpa using k5'
    have e6 : (h.kind == 6) = false := by simpa using k6'
    have HS := hide hs
    clear HRN hs k1' k2' k3' k4' k5' k6'
    go_wp2_with (first | (go_at_call 80; refine (HV.out _).mono ?_; rintro e w2 ⟨rfl, hb2⟩; have hbx := HB.out.trans (hb2.mono HB.out.size); obtain ⟨c0, c1, c2, c3, c4, c5, c6, c7, c8, c9, c10, c11, c12, c13, c14⟩ := node_cells (HXr.out.below hb2); clear hb2) | (go_at_call_of 81 [Value.agg #[Value.int IntKind.i64 h.row, Value.int IntKind.i64 h.col]]; refine (HP1.out _).mono ?_; rintro e w2 ⟨rfl, hw2⟩; have hb2 : Below wr.heap.size wr w2 := by { rw [hw2]; exact (Below.refl _ _).alloc (Nat.le_refl _) _ }; clear hw2; have hbx := HB.out.trans (hb2.mono HB.out.size); obtain ⟨c0, c1, c2, c3, c4, c5, c6, c7, c8, c9, c10, c11, c12, c13, c14⟩ := node_cells (HXr.out.below hb2); clear hb2) | (go_at_call_of 81 [Value.agg #[Value.int IntKind.i64 h.row2, Value.int IntKind.i64 h.col2]]; refine (HP2.out _).mono ?_; rintro e w3 ⟨rfl, hw3⟩; have hby := hbx.trans ((show Below w2.heap.size w2 w3 by { rw [hw3]; exact (Below.refl _ _).alloc (Nat.le_refl _) _ }).mono hbx.size); clear hw3) | (go_at_call 82; refine (HLn.out _).mono ?_; rintro e w2 ⟨rfl, hw2⟩; subst w2) | (go_at_call 83; refine (HNm.out _).mono ?_; rintro e w2 ⟨rfl, hw2⟩; subst w2) | (go_at_call 84; refine (HFd.out _).mono ?_; rintro e w3 ⟨rfl, hb3⟩; have hbx := HB.out.trans (hb3.mono HB.out.size); obtain ⟨c0, c1, c2, c3, c4, c5, c6, c7, c8, c9, c10, c11, c12, c13, c14⟩ := node_cells (HXr.out.below hb3); clear hb3))
    go_ret
    exact ⟨by rw [HS.out]; rfl, HB.out⟩
   | .cons h1 k1 r1, hl, hF, hAF, hOF, HQ =>
    have hli : (i : Int) < (k.len : Int) := by simp [Fo.len] at hl; omega
    have hl2 : i + 1 + r1.len = k.len := by simp [Fo.len] at hl; omega
    obtain ⟨b1, o1, rfl, hcap1, hcap2, hrw⟩ : ∃ b' o', a = some ⟨b', o', none⟩ ∧ k.len ≤ cap ∧ cap ≤ maxLen ∧ Row w D (.cons h1 k1 r1) b' (o' + i * 16) := by
     rcases hF with e | e
     ·
      cases e
     ·
      exact e
    obtain ⟨d1, ⟨v1, x1, y1⟩, z1⟩ := row_cons.1 hrw
    have HR1 : Hid (Row w D r1 b1 (o1 + (i + 1) * 16)) := by rw [show o1 + (i + 1) * 16 = o1 + i * 16 + 16 by omega]; exact z1
    have HX : Hid (∀ j, j < 16 → wr.cell? ⟨b1, o1 + i * 16 + j, none⟩ = (hdC h1 v1)[j]?) := fun j hj => by rw [HB.out.cell (p := ⟨b1, o1 + i * 16 + j, none⟩) (hD b1 d1)]; exact x1 j hj
    obtain ⟨hA1, hA2⟩ := hAF
    obtain ⟨hO1, hO2, hO3⟩ := hOF
    have HA2 := hide hA2
    have HO3 := hide hO3
    have HC : Hid (∀ W : World, Below w.heap.size w W → Calls Tryz.prog 54 #[.agg (hdC h1 v1).toArray] W fun e w' => e = .returned (.bool (rightN h1 k1)) ∧ Below W.heap.size W w') := fun W hW =>
     hA1 D h1 v1 W (fun c hc => Nat.lt_of_lt_of_le (hD c hc) hW.size) (kv_to y1 (fun c hc => ⟨hc, hW.block c (hD c hc)⟩)) hO1.1 hO1.2 hO2
    have HN : Hid (allB k = (rightN h1 k1 && allB r1)) := HQ.out
    have HM := hide hcap2
    unfold maxLen at hcap2
    clear HQ hrw d1 x1 y1 z1 hA1 hA2 hO1 hO2 hO3 hF hl
    cases hrn : rightN h1 k1 with
    | false =>
     rw [hrn] at HC HN
     have HS : Hid (rightN h k = false) := by show _ = _; rw [HRA.out, HN.out]; simp
     clear hrn HN
     go_wp2_with (first | (with_reducible refine wpl_id ?_; refine wpl_loadAt rfl _ rfl _ _ rfl HX.out ?_) | (go_at_call 54; refine (HC.out _ HB.out).mono ?_; rintro e w1 ⟨rfl, hb1⟩; have HB1 := hide (HB.out.trans (hb1.mono hsz)); clear hb1))
     go_ret
     exact ⟨by rw [HS.out]; rfl, HB1.out⟩
    | true =>
     rw [hrn] at HC HN
     have HN2 : Hid (allB k = allB r1) := by show _ = _; rw [HN.out]; simp
     clear hrn HN
     go_wp2_with (first | (with_reducible refine wpl_id ?_; refine wpl_loadAt rfl _ rfl _ _ rfl HX.out ?_) | (go_at_call 54; refine (HC.out _ HB.out).mono ?_; rintro e w1 ⟨rfl, hb1⟩; have HB1 := hide (HB.out.trans (hb1.mono hsz)); have HX1 := hide (HXr.out.below hb1); clear hb1))
     go_roundw
     case rel => exact ⟨i + 1, r1, by go_num, by omega, .inr ⟨b1, o1, rfl, hcap1, HM.out, HR1.out⟩, HA2.out, HO3.out, HB1.out, HX1.out, HN2.out⟩
     case measure => simp [intOf]; omega
theorem rright_all : ∀ (F : Fo), RRightA F
 | .nil => trivial
 | .cons _ k r => ⟨rright_step k (rright_all k), rright_all r⟩
theorem cnt_fits (k : Fo) (hm : k.many + 1 ≤ 4096) (hd : k.deep + 1 ≤ 160) : cntN k 4096 160 = (k.many + 1, k.deep + 1) := by
 rw [cntN_yes (by omega), cntF_fits k 4096 160 1 0 (by omega) (by omega)]
 refine Prod.ext ?_ ?_ <;> simp only <;> omega
theorem rcheck08_any (D : Nat → Prop) (h : Hd) (k : Fo) (a : Option Addr) (n cap : Nat) (w : World) (hD : ∀ c, D c → c < w.heap.size) (hk : Kv w D (.slice a n cap) k) (hm : k.many + 1 ≤ 4096) (hd : k.deep + 1 ≤ 160) (hv : h.vs.length ≤ maxLen) (ht : h.txt.length ≤ maxLen) (ho : okF k) :
  Calls Tryz.prog 24 #[.agg (hdC h (.slice a n cap)).toArray] w fun e w' => e = .returned (.int .i64 (checkN h k)) ∧ Below w.heap.size w w' := by
 have HC : Hid (∀ W : World, Below w.heap.size w W → Calls Tryz.prog 53 #[.agg (hdC h (.slice a n cap)).toArray, .int .i64 4096, .int .i64 160] W fun e w' => e = .returned (.tuple #[.int .i64 ((k.many + 1 : Nat) : Int), .int .i64 ((k.deep + 1 : Nat) : Int)]) ∧ Below W.heap.size W w') := fun W hW => by
  have := count_step k (count_all k) D h (.slice a n cap) W 4096 160 (by omega) (by omega) (fun c hc => Nat.lt_of_lt_of_le (hD c hc) hW.size) (kv_to hk (fun b hb => ⟨hb, hW.block b (hD b hb)⟩))
  rw [cnt_fits k hm hd] at this
  exact this
 have HR : Hid (∀ W : World, Below w.heap.size w W → Calls Tryz.prog 54 #[.agg (hdC h (.slice a n cap)).toArray] W fun e w' => e = .returned (.bool (rightN h k)) ∧ Below W.heap.size W w') := fun W hW =>
  rright_step k (rright_all k) D h (.slice a n cap) W (fun c hc => Nat.lt_of_lt_of_le (hD c hc) hW.size) (kv_to hk (fun b hb => ⟨hb, hW.block b (hD b hb)⟩)) hv ht ho
 have HB := hide ((Below.refl w.heap.size w).alloc (Nat.le_refl _) (.cells (hdC h (.slice a n cap)).toArray 33))
 have HX := hide (Box.new w (hdC h (.slice a n cap)))
 have q1 : ¬ (160 : Int) < ((k.deep + 1 : Nat) : Int) := by omega
 have q2 : ¬ (4096 : Int) < ((k.many + 1 : Nat) : Int) := by omega
 unfold checkN
 rw [if_neg (by omega)]
 clear hk hv ht ho hm hd
 generalize k.deep + 1 = dd at *
 generalize k.many + 1 = mm at *
 cases hr : rightN h k with
 | false =>
  rw [hr] at HR
  rw [if_pos rfl]
  clear hr
  go_enter Tryz.func24, Tryz.ntmps24
  go_wp2_with (first | (with_reducible refine wpl_id ?_; refine wpl_load rfl _ rfl _ rfl (by ((repeat' (first | with_reducible (first | exact Hid.out (by assumption) | apply Box.set | exact Box.new _ _ | apply Box.other | apply Box.alloc | apply Box.drew | apply Box.drewN) | omega)); done)) ?_) | (go_at_call 53; refine (HC.out _ HB.out).mono ?_; rintro e w1 ⟨rfl, hb1⟩; have HB1 := hide (HB.out.trans (hb1.mono HB.out.size)); have HX1 := hide (HX.out.below hb1); clear hb1) | (go_at_call 54; refine (HR.out _ HB1.out).mono ?_; rintro e w2 ⟨rfl, hb2⟩; have HB2 := hide (HB1.out.trans (hb2.mono HB1.out.size)); clear hb2))
  go_ret
  exact ⟨rfl, HB2.out⟩
 | true =>
  rw [hr] at HR
  rw [if_neg (by simp)]
  clear hr
  by_cases h3 : 40 < dd
  ·
   have h3' : (40 : Int) < (dd : Int) := by omega
   rw [if_pos h3]
   go_enter Tryz.func24, Tryz.ntmps24
   go_wp2_with (first | (with_reducible refine wpl_id ?_; refine wpl_load rfl _ rfl _ rfl (by ((repeat' (first | with_reducible (first | exact Hid.out (by assumption) | apply Box.set | exact Box.new _ _ | apply Box.other | apply Box.alloc | apply Box.drew | apply Box.drewN) | omega)); done)) ?_) | (go_at_call 53; refine (HC.out _ HB.out).mono ?_; rintro e w1 ⟨rfl, hb1⟩; have HB1 := hide (HB.out.trans (hb1.mono HB.out.size)); have HX1 := hide (HX.out.below hb1); clear hb1) | (go_at_call 54; refine (HR.out _ HB1.out).mono ?_; rintro e w2 ⟨rfl, hb2⟩; have HB2 := hide (HB1.out.trans (hb2.mono HB1.out.size)); clear hb2))
   go_ret
   exact ⟨rfl, HB2.out⟩
  ·
   have h3' : ¬ (40 : Int) < (dd : Int) := by omega
   rw [if_neg h3]
   go_enter Tryz.func24, Tryz.ntmps24
   go_wp2_with (first | (with_reducible refine wpl_id ?_; refine wpl_load rfl _ rfl _ rfl (by ((repeat' (first | with_reducible (first | exact Hid.out (by assumption) | apply Box.set | exact Box.new _ _ | apply Box.other | apply Box.alloc | apply Box.drew | apply Box.drewN) | omega)); done)) ?_) | (go_at_call 53; refine (HC.out _ HB.out).mono ?_; rintro e w1 ⟨rfl, hb1⟩; have HB1 := hide (HB.out.trans (hb1.mono HB.out.size)); have HX1 := hide (HX.out.below hb1); clear hb1) | (go_at_call 54; refine (HR.out _ HB1.out).mono ?_; rintro e w2 ⟨rfl, hb2⟩; have HB2 := hide (HB1.out.trans (hb2.mono HB1.out.size)); clear hb2))
   go_ret
   exact ⟨rfl, HB2.out⟩
end
end Go.Proofs.YtfpmmckpobpokaaGreat
