/-
  The answer's plain, by kinds (made by plaingen2.py).
-/
import Derived.Test.YtijjnchedgllgaaDoorFmE0b
import Derived.Deep.RegionHeld3
namespace Go.Proofs.YtijjnchedgllgaaDoor
open Go.RowKit Go.Shelf

set_option maxRecDepth 100000 in
set_option maxHeartbeats 8000000 in
theorem plain_5 (vk : Int) (vn : Int) (vs : List UInt8) (vb : Bool) (vc : Int) (row : Int) (col : Int) (fr : Bool) (fc : Bool) (row2 : Int) (col2 : Int) (fr2 : Bool) (fc2 : Bool) (txt : List UInt8) (a : Option Addr) (n cap : Nat) (w : World) :
    Calls Tryd.prog 57 #[.agg (hdC (⟨5, vk, vn, vs, vb, vc, row, col, fr, fc, row2, col2, fr2, fc2, txt⟩ : Hd) (.slice a n cap)).toArray] w fun e w' => e = .returned (.bool (plainB (⟨5, vk, vn, vs, vb, vc, row, col, fr, fc, row2, col2, fr2, fc2, txt⟩ : Hd))) ∧ Below w.heap.size w w' := by
  have key : ((vk == 0) = false) ∨ (vk = 0 ∧ (vn == 0) = false) ∨ (vk = 0 ∧ vn = 0 ∧ (vs == []) = false) ∨ (vk = 0 ∧ vn = 0 ∧ vs = [] ∧ vb = true) ∨ (vk = 0 ∧ vn = 0 ∧ vs = [] ∧ vb = false ∧ (vc == 0) = false) ∨ (vk = 0 ∧ vn = 0 ∧ vs = [] ∧ vb = false ∧ vc = 0 ∧ (row == 0) = false) ∨ (vk = 0 ∧ vn = 0 ∧ vs = [] ∧ vb = false ∧ vc = 0 ∧ row = 0 ∧ (col == 0) = false) ∨ (vk = 0 ∧ vn = 0 ∧ vs = [] ∧ vb = false ∧ vc = 0 ∧ row = 0 ∧ col = 0 ∧ fr = true) ∨ (vk = 0 ∧ vn = 0 ∧ vs = [] ∧ vb = false ∧ vc = 0 ∧ row = 0 ∧ col = 0 ∧ fr = false ∧ fc = true) ∨ (vk = 0 ∧ vn = 0 ∧ vs = [] ∧ vb = false ∧ vc = 0 ∧ row = 0 ∧ col = 0 ∧ fr = false ∧ fc = false ∧ (row2 == 0) = false) ∨ (vk = 0 ∧ vn = 0 ∧ vs = [] ∧ vb = false ∧ vc = 0 ∧ row = 0 ∧ col = 0 ∧ fr = false ∧ fc = false ∧ row2 = 0 ∧ (col2 == 0) = false) ∨ (vk = 0 ∧ vn = 0 ∧ vs = [] ∧ vb = false ∧ vc = 0 ∧ row = 0 ∧ col = 0 ∧ fr = false ∧ fc = false ∧ row2 = 0 ∧ col2 = 0 ∧ fr2 = true) ∨ (vk = 0 ∧ vn = 0 ∧ vs = [] ∧ vb = false ∧ vc = 0 ∧ row = 0 ∧ col = 0 ∧ fr = false ∧ fc = false ∧ row2 = 0 ∧ col2 = 0 ∧ fr2 = false ∧ fc2 = true) ∨ (vk = 0 ∧ vn = 0 ∧ vs = [] ∧ vb = false ∧ vc = 0 ∧ row = 0 ∧ col = 0 ∧ fr = false ∧ fc = false ∧ row2 = 0 ∧ col2 = 0 ∧ fr2 = false ∧ fc2 = false) := by
    by_cases h0 : vk = 0
    case neg => exact .inl (by simpa using h0)
    by_cases h1 : vn = 0
    case neg => exact .inr (.inl ⟨h0, (by simpa using h1)⟩)
    by_cases h2 : vs = []
    case neg => exact .inr (.inr (.inl ⟨h0, h1, (by simpa using h2)⟩))
    by_cases h3 : vb = false
    case neg => exact .inr (.inr (.inr (.inl ⟨h0, h1, h2, (by simpa using h3)⟩)))
    by_cases h4 : vc = 0
    case neg => exact .inr (.inr (.inr (.inr (.inl ⟨h0, h1, h2, h3, (by simpa using h4)⟩))))
    by_cases h5 : row = 0
    case neg => exact .inr (.inr (.inr (.inr (.inr (.inl ⟨h0, h1, h2, h3, h4, (by simpa using h5)⟩)))))
    by_cases h6 : col = 0
    case neg => exact .inr (.inr (.inr (.inr (.inr (.inr (.inl ⟨h0, h1, h2, h3, h4, h5, (by simpa using h6)⟩))))))
    by_cases h7 : fr = false
    case neg => exact .inr (.inr (.inr (.inr (.inr (.inr (.inr (.inl ⟨h0, h1, h2, h3, h4, h5, h6, (by simpa using h7)⟩)))))))
    by_cases h8 : fc = false
    case neg => exact .inr (.inr (.inr (.inr (.inr (.inr (.inr (.inr (.inl ⟨h0, h1, h2, h3, h4, h5, h6, h7, (by simpa using h8)⟩))))))))
    by_cases h9 : row2 = 0
    case neg => exact .inr (.inr (.inr (.inr (.inr (.inr (.inr (.inr (.inr (.inl ⟨h0, h1, h2, h3, h4, h5, h6, h7, h8, (by simpa using h9)⟩)))))))))
    by_cases h10 : col2 = 0
    case neg => exact .inr (.inr (.inr (.inr (.inr (.inr (.inr (.inr (.inr (.inr (.inl ⟨h0, h1, h2, h3, h4, h5, h6, h7, h8, h9, (by simpa using h10)⟩))))))))))
    by_cases h11 : fr2 = false
    case neg => exact .inr (.inr (.inr (.inr (.inr (.inr (.inr (.inr (.inr (.inr (.inr (.inl ⟨h0, h1, h2, h3, h4, h5, h6, h7, h8, h9, h10, (by simpa using h11)⟩)))))))))))
    by_cases h12 : fc2 = false
    case neg => exact .inr (.inr (.inr (.inr (.inr (.inr (.inr (.inr (.inr (.inr (.inr (.inr (.inl ⟨h0, h1, h2, h3, h4, h5, h6, h7, h8, h9, h10, h11, (by simpa using h12)⟩))))))))))))
    exact .inr (.inr (.inr (.inr (.inr (.inr (.inr (.inr (.inr (.inr (.inr (.inr (.inr (⟨h0, h1, h2, h3, h4, h5, h6, h7, h8, h9, h10, h11, h12⟩)))))))))))))
  have HX := hide (Box.new w (hdC (⟨5, vk, vn, vs, vb, vc, row, col, fr, fc, row2, col2, fr2, fc2, txt⟩ : Hd) (.slice a n cap)))
  have p0 := HX.out.cell 0 (.int .i64 5) rfl
  have HB := hide ((Below.refl w.heap.size w).alloc (Nat.le_refl _) (.cells (hdC (⟨5, vk, vn, vs, vb, vc, row, col, fr, fc, row2, col2, fr2, fc2, txt⟩ : Hd) (.slice a n cap)).toArray 44))
  have hz0 : (w.alloc (.cells (hdC (⟨5, vk, vn, vs, vb, vc, row, col, fr, fc, row2, col2, fr2, fc2, txt⟩ : Hd) (.slice a n cap)).toArray 44)).heap.size = w.heap.size + 1 := by simp
  rcases key with q | ⟨rfl, q⟩ | ⟨rfl, rfl, q⟩ | ⟨rfl, rfl, rfl, rfl⟩ | ⟨rfl, rfl, rfl, rfl, q⟩ | ⟨rfl, rfl, rfl, rfl, rfl, q⟩ | ⟨rfl, rfl, rfl, rfl, rfl, rfl, q⟩ | ⟨rfl, rfl, rfl, rfl, rfl, rfl, rfl, rfl⟩ | ⟨rfl, rfl, rfl, rfl, rfl, rfl, rfl, rfl, rfl⟩ | ⟨rfl, rfl, rfl, rfl, rfl, rfl, rfl, rfl, rfl, q⟩ | ⟨rfl, rfl, rfl, rfl, rfl, rfl, rfl, rfl, rfl, rfl, q⟩ | ⟨rfl, rfl, rfl, rfl, rfl, rfl, rfl, rfl, rfl, rfl, rfl, rfl⟩ | ⟨rfl, rfl, rfl, rfl, rfl, rfl, rfl, rfl, rfl, rfl, rfl, rfl, rfl⟩ | ⟨rfl, rfl, rfl, rfl, rfl, rfl, rfl, rfl, rfl, rfl, rfl, rfl, rfl⟩
  all_goals
    go_enter Tryd.func57, Tryd.ntmps57
    go_wp2_with (first | (with_reducible refine wpl_id ?_; refine wpl_buildN rfl 44 _ rfl (qs := #[(0, .int .i64 5)]) rfl (run_kind 5 _) ?_) | (with_reducible refine wpl_id ?_; refine wpl_newG rfl _ _ rfl rfl hz0 rfl rfl HX.out HB.out ?_; intro W2 k1 k2 hB2 hz2; obtain ⟨d0, d1, d2, d3, d4, d5, d6, d7, d8, d9, d10, d11, d12, d13, d14⟩ := node_cells k1; obtain ⟨g0, g1, g2, g3, g4, g5, g6, g7, g8, g9, g10, g11, g12, g13, g14⟩ := node_cells k2; have fz := k2.froz; clear k1 k2 p0 hz0 HX HB))
    go_ret
    refine ⟨congrArg (fun b => Ending.returned (Value.bool b)) (Eq.symm ?_), (hB2.setCell (Nat.le_succ _) _)⟩
    unfold plainB; (try unfold noVal); (try unfold noCell); (try unfold noTo)
    first | (simp at q; simp [q]; done) | (simp; done)
set_option maxRecDepth 100000 in
set_option maxHeartbeats 8000000 in
theorem plain_6 (vk : Int) (vn : Int) (vs : List UInt8) (vb : Bool) (vc : Int) (row : Int) (col : Int) (fr : Bool) (fc : Bool) (row2 : Int) (col2 : Int) (fr2 : Bool) (fc2 : Bool) (txt : List UInt8) (a : Option Addr) (n cap : Nat) (w : World) :
    Calls Tryd.prog 57 #[.agg (hdC (⟨6, vk, vn, vs, vb, vc, row, col, fr, fc, row2, col2, fr2, fc2, txt⟩ : Hd) (.slice a n cap)).toArray] w fun e w' => e = .returned (.bool (plainB (⟨6, vk, vn, vs, vb, vc, row, col, fr, fc, row2, col2, fr2, fc2, txt⟩ : Hd))) ∧ Below w.heap.size w w' := by
  have key : ((vk == 0) = false) ∨ (vk = 0 ∧ (vn == 0) = false) ∨ (vk = 0 ∧ vn = 0 ∧ (vs == []) = false) ∨ (vk = 0 ∧ vn = 0 ∧ vs = [] ∧ vb = true) ∨ (vk = 0 ∧ vn = 0 ∧ vs = [] ∧ vb = false ∧ (vc == 0) = false) ∨ (vk = 0 ∧ vn = 0 ∧ vs = [] ∧ vb = false ∧ vc = 0 ∧ (row == 0) = false) ∨ (vk = 0 ∧ vn = 0 ∧ vs = [] ∧ vb = false ∧ vc = 0 ∧ row = 0 ∧ (col == 0) = false) ∨ (vk = 0 ∧ vn = 0 ∧ vs = [] ∧ vb = false ∧ vc = 0 ∧ row = 0 ∧ col = 0 ∧ fr = true) ∨ (vk = 0 ∧ vn = 0 ∧ vs = [] ∧ vb = false ∧ vc = 0 ∧ row = 0 ∧ col = 0 ∧ fr = false ∧ fc = true) ∨ (vk = 0 ∧ vn = 0 ∧ vs = [] ∧ vb = false ∧ vc = 0 ∧ row = 0 ∧ col = 0 ∧ fr = false ∧ fc = false ∧ (row2 == 0) = false) ∨ (vk = 0 ∧ vn = 0 ∧ vs = [] ∧ vb = false ∧ vc = 0 ∧ row = 0 ∧ col = 0 ∧ fr = false ∧ fc = false ∧ row2 = 0 ∧ (col2 == 0) = false) ∨ (vk = 0 ∧ vn = 0 ∧ vs = [] ∧ vb = false ∧ vc = 0 ∧ row = 0 ∧ col = 0 ∧ fr = false ∧ fc = false ∧ row2 = 0 ∧ col2 = 0 ∧ fr2 = true) ∨ (vk = 0 ∧ vn = 0 ∧ vs = [] ∧ vb = false ∧ vc = 0 ∧ row = 0 ∧ col = 0 ∧ fr = false ∧ fc = false ∧ row2 = 0 ∧ col2 = 0 ∧ fr2 = false ∧ fc2 = true) ∨ (vk = 0 ∧ vn = 0 ∧ vs = [] ∧ vb = false ∧ vc = 0 ∧ row = 0 ∧ col = 0 ∧ fr = false ∧ fc = false ∧ row2 = 0 ∧ col2 = 0 ∧ fr2 = false ∧ fc2 = false) := by
    by_cases h0 : vk = 0
    case neg => exact .inl (by simpa using h0)
    by_cases h1 : vn = 0
    case neg => exact .inr (.inl ⟨h0, (by simpa using h1)⟩)
    by_cases h2 : vs = []
    case neg => exact .inr (.inr (.inl ⟨h0, h1, (by simpa using h2)⟩))
    by_cases h3 : vb = false
    case neg => exact .inr (.inr (.inr (.inl ⟨h0, h1, h2, (by simpa using h3)⟩)))
    by_cases h4 : vc = 0
    case neg => exact .inr (.inr (.inr (.inr (.inl ⟨h0, h1, h2, h3, (by simpa using h4)⟩))))
    by_cases h5 : row = 0
    case neg => exact .inr (.inr (.inr (.inr (.inr (.inl ⟨h0, h1, h2, h3, h4, (by simpa using h5)⟩)))))
    by_cases h6 : col = 0
    case neg => exact .inr (.inr (.inr (.inr (.inr (.inr (.inl ⟨h0, h1, h2, h3, h4, h5, (by simpa using h6)⟩))))))
    by_cases h7 : fr = false
    case neg => exact .inr (.inr (.inr (.inr (.inr (.inr (.inr (.inl ⟨h0, h1, h2, h3, h4, h5, h6, (by simpa using h7)⟩)))))))
    by_cases h8 : fc = false
    case neg => exact .inr (.inr (.inr (.inr (.inr (.inr (.inr (.inr (.inl ⟨h0, h1, h2, h3, h4, h5, h6, h7, (by simpa using h8)⟩))))))))
    by_cases h9 : row2 = 0
    case neg => exact .inr (.inr (.inr (.inr (.inr (.inr (.inr (.inr (.inr (.inl ⟨h0, h1, h2, h3, h4, h5, h6, h7, h8, (by simpa using h9)⟩)))))))))
    by_cases h10 : col2 = 0
    case neg => exact .inr (.inr (.inr (.inr (.inr (.inr (.inr (.inr (.inr (.inr (.inl ⟨h0, h1, h2, h3, h4, h5, h6, h7, h8, h9, (by simpa using h10)⟩))))))))))
    by_cases h11 : fr2 = false
    case neg => exact .inr (.inr (.inr (.inr (.inr (.inr (.inr (.inr (.inr (.inr (.inr (.inl ⟨h0, h1, h2, h3, h4, h5, h6, h7, h8, h9, h10, (by simpa using h11)⟩)))))))))))
    by_cases h12 : fc2 = false
    case neg => exact .inr (.inr (.inr (.inr (.inr (.inr (.inr (.inr (.inr (.inr (.inr (.inr (.inl ⟨h0, h1, h2, h3, h4, h5, h6, h7, h8, h9, h10, h11, (by simpa using h12)⟩))))))))))))
    exact .inr (.inr (.inr (.inr (.inr (.inr (.inr (.inr (.inr (.inr (.inr (.inr (.inr (⟨h0, h1, h2, h3, h4, h5, h6, h7, h8, h9, h10, h11, h12⟩)))))))))))))
  have HX := hide (Box.new w (hdC (⟨6, vk, vn, vs, vb, vc, row, col, fr, fc, row2, col2, fr2, fc2, txt⟩ : Hd) (.slice a n cap)))
  have p0 := HX.out.cell 0 (.int .i64 6) rfl
  have HB := hide ((Below.refl w.heap.size w).alloc (Nat.le_refl _) (.cells (hdC (⟨6, vk, vn, vs, vb, vc, row, col, fr, fc, row2, col2, fr2, fc2, txt⟩ : Hd) (.slice a n cap)).toArray 44))
  have hz0 : (w.alloc (.cells (hdC (⟨6, vk, vn, vs, vb, vc, row, col, fr, fc, row2, col2, fr2, fc2, txt⟩ : Hd) (.slice a n cap)).toArray 44)).heap.size = w.heap.size + 1 := by simp
  rcases key with q | ⟨rfl, q⟩ | ⟨rfl, rfl, q⟩ | ⟨rfl, rfl, rfl, rfl⟩ | ⟨rfl, rfl, rfl, rfl, q⟩ | ⟨rfl, rfl, rfl, rfl, rfl, q⟩ | ⟨rfl, rfl, rfl, rfl, rfl, rfl, q⟩ | ⟨rfl, rfl, rfl, rfl, rfl, rfl, rfl, rfl⟩ | ⟨rfl, rfl, rfl, rfl, rfl, rfl, rfl, rfl, rfl⟩ | ⟨rfl, rfl, rfl, rfl, rfl, rfl, rfl, rfl, rfl, q⟩ | ⟨rfl, rfl, rfl, rfl, rfl, rfl, rfl, rfl, rfl, rfl, q⟩ | ⟨rfl, rfl, rfl, rfl, rfl, rfl, rfl, rfl, rfl, rfl, rfl, rfl⟩ | ⟨rfl, rfl, rfl, rfl, rfl, rfl, rfl, rfl, rfl, rfl, rfl, rfl, rfl⟩ | ⟨rfl, rfl, rfl, rfl, rfl, rfl, rfl, rfl, rfl, rfl, rfl, rfl, rfl⟩
  all_goals
    go_enter Tryd.func57, Tryd.ntmps57
    go_wp2_with (first | (with_reducible refine wpl_id ?_; refine wpl_buildN rfl 44 _ rfl (qs := #[(0, .int .i64 6)]) rfl (run_kind 6 _) ?_) | (with_reducible refine wpl_id ?_; refine wpl_newG rfl _ _ rfl rfl hz0 rfl rfl HX.out HB.out ?_; intro W2 k1 k2 hB2 hz2; obtain ⟨d0, d1, d2, d3, d4, d5, d6, d7, d8, d9, d10, d11, d12, d13, d14⟩ := node_cells k1; obtain ⟨g0, g1, g2, g3, g4, g5, g6, g7, g8, g9, g10, g11, g12, g13, g14⟩ := node_cells k2; have fz := k2.froz; clear k1 k2 p0 hz0 HX HB))
    go_ret
    refine ⟨congrArg (fun b => Ending.returned (Value.bool b)) (Eq.symm ?_), (hB2.setCell (Nat.le_succ _) _)⟩
    unfold plainB; (try unfold noVal); (try unfold noCell); (try unfold noTo)
    first | (simp at q; simp [q]; done) | (simp; done)
set_option maxRecDepth 100000 in
set_option maxHeartbeats 8000000 in
theorem plain_kind (kind : Int) (e1 : (kind == 1) = false) (e2 : (kind == 2) = false) (e3 : (kind == 3) = false) (e5 : (kind == 5) = false) (e6 : (kind == 6) = false) (vk : Int) (vn : Int) (vs : List UInt8) (vb : Bool) (vc : Int) (row : Int) (col : Int) (fr : Bool) (fc : Bool) (row2 : Int) (col2 : Int) (fr2 : Bool) (fc2 : Bool) (txt : List UInt8) (a : Option Addr) (n cap : Nat) (w : World) :
    Calls Tryd.prog 57 #[.agg (hdC (⟨kind, vk, vn, vs, vb, vc, row, col, fr, fc, row2, col2, fr2, fc2, txt⟩ : Hd) (.slice a n cap)).toArray] w fun e w' => e = .returned (.bool (plainB (⟨kind, vk, vn, vs, vb, vc, row, col, fr, fc, row2, col2, fr2, fc2, txt⟩ : Hd))) ∧ Below w.heap.size w w' := by
  have key : ((vk == 0) = false) ∨ (vk = 0 ∧ (vn == 0) = false) ∨ (vk = 0 ∧ vn = 0 ∧ (vs == []) = false) ∨ (vk = 0 ∧ vn = 0 ∧ vs = [] ∧ vb = true) ∨ (vk = 0 ∧ vn = 0 ∧ vs = [] ∧ vb = false ∧ (vc == 0) = false) ∨ (vk = 0 ∧ vn = 0 ∧ vs = [] ∧ vb = false ∧ vc = 0 ∧ (row == 0) = false) ∨ (vk = 0 ∧ vn = 0 ∧ vs = [] ∧ vb = false ∧ vc = 0 ∧ row = 0 ∧ (col == 0) = false) ∨ (vk = 0 ∧ vn = 0 ∧ vs = [] ∧ vb = false ∧ vc = 0 ∧ row = 0 ∧ col = 0 ∧ fr = true) ∨ (vk = 0 ∧ vn = 0 ∧ vs = [] ∧ vb = false ∧ vc = 0 ∧ row = 0 ∧ col = 0 ∧ fr = false ∧ fc = true) ∨ (vk = 0 ∧ vn = 0 ∧ vs = [] ∧ vb = false ∧ vc = 0 ∧ row = 0 ∧ col = 0 ∧ fr = false ∧ fc = false ∧ (row2 == 0) = false) ∨ (vk = 0 ∧ vn = 0 ∧ vs = [] ∧ vb = false ∧ vc = 0 ∧ row = 0 ∧ col = 0 ∧ fr = false ∧ fc = false ∧ row2 = 0 ∧ (col2 == 0) = false) ∨ (vk = 0 ∧ vn = 0 ∧ vs = [] ∧ vb = false ∧ vc = 0 ∧ row = 0 ∧ col = 0 ∧ fr = false ∧ fc = false ∧ row2 = 0 ∧ col2 = 0 ∧ fr2 = true) ∨ (vk = 0 ∧ vn = 0 ∧ vs = [] ∧ vb = false ∧ vc = 0 ∧ row = 0 ∧ col = 0 ∧ fr = false ∧ fc = false ∧ row2 = 0 ∧ col2 = 0 ∧ fr2 = false ∧ fc2 = true) ∨ (vk = 0 ∧ vn = 0 ∧ vs = [] ∧ vb = false ∧ vc = 0 ∧ row = 0 ∧ col = 0 ∧ fr = false ∧ fc = false ∧ row2 = 0 ∧ col2 = 0 ∧ fr2 = false ∧ fc2 = false ∧ (txt == []) = false) ∨ (vk = 0 ∧ vn = 0 ∧ vs = [] ∧ vb = false ∧ vc = 0 ∧ row = 0 ∧ col = 0 ∧ fr = false ∧ fc = false ∧ row2 = 0 ∧ col2 = 0 ∧ fr2 = false ∧ fc2 = false ∧ txt = []) := by
    by_cases h0 : vk = 0
    case neg => exact .inl (by simpa using h0)
    by_cases h1 : vn = 0
    case neg => exact .inr (.inl ⟨h0, (by simpa using h1)⟩)
    by_cases h2 : vs = []
    case neg => exact .inr (.inr (.inl ⟨h0, h1, (by simpa using h2)⟩))
    by_cases h3 : vb = false
    case neg => exact .inr (.inr (.inr (.inl ⟨h0, h1, h2, (by simpa using h3)⟩)))
    by_cases h4 : vc = 0
    case neg => exact .inr (.inr (.inr (.inr (.inl ⟨h0, h1, h2, h3, (by simpa using h4)⟩))))
    by_cases h5 : row = 0
    case neg => exact .inr (.inr (.inr (.inr (.inr (.inl ⟨h0, h1, h2, h3, h4, (by simpa using h5)⟩)))))
    by_cases h6 : col = 0
    case neg => exact .inr (.inr (.inr (.inr (.inr (.inr (.inl ⟨h0, h1, h2, h3, h4, h5, (by simpa using h6)⟩))))))
    by_cases h7 : fr = false
    case neg => exact .inr (.inr (.inr (.inr (.inr (.inr (.inr (.inl ⟨h0, h1, h2, h3, h4, h5, h6, (by simpa using h7)⟩)))))))
    by_cases h8 : fc = false
    case neg => exact .inr (.inr (.inr (.inr (.inr (.inr (.inr (.inr (.inl ⟨h0, h1, h2, h3, h4, h5, h6, h7, (by simpa using h8)⟩))))))))
    by_cases h9 : row2 = 0
    case neg => exact .inr (.inr (.inr (.inr (.inr (.inr (.inr (.inr (.inr (.inl ⟨h0, h1, h2, h3, h4, h5, h6, h7, h8, (by simpa using h9)⟩)))))))))
    by_cases h10 : col2 = 0
    case neg => exact .inr (.inr (.inr (.inr (.inr (.inr (.inr (.inr (.inr (.inr (.inl ⟨h0, h1, h2, h3, h4, h5, h6, h7, h8, h9, (by simpa using h10)⟩))))))))))
    by_cases h11 : fr2 = false
    case neg => exact .inr (.inr (.inr (.inr (.inr (.inr (.inr (.inr (.inr (.inr (.inr (.inl ⟨h0, h1, h2, h3, h4, h5, h6, h7, h8, h9, h10, (by simpa using h11)⟩)))))))))))
    by_cases h12 : fc2 = false
    case neg => exact .inr (.inr (.inr (.inr (.inr (.inr (.inr (.inr (.inr (.inr (.inr (.inr (.inl ⟨h0, h1, h2, h3, h4, h5, h6, h7, h8, h9, h10, h11, (by simpa using h12)⟩))))))))))))
    by_cases h13 : txt = []
    case neg => exact .inr (.inr (.inr (.inr (.inr (.inr (.inr (.inr (.inr (.inr (.inr (.inr (.inr (.inl ⟨h0, h1, h2, h3, h4, h5, h6, h7, h8, h9, h10, h11, h12, (by simpa using h13)⟩)))))))))))))
    exact .inr (.inr (.inr (.inr (.inr (.inr (.inr (.inr (.inr (.inr (.inr (.inr (.inr (.inr (⟨h0, h1, h2, h3, h4, h5, h6, h7, h8, h9, h10, h11, h12, h13⟩))))))))))))))
  have HX := hide (Box.new w (hdC (⟨kind, vk, vn, vs, vb, vc, row, col, fr, fc, row2, col2, fr2, fc2, txt⟩ : Hd) (.slice a n cap)))
  have p0 := HX.out.cell 0 (.int .i64 kind) rfl
  have HB := hide ((Below.refl w.heap.size w).alloc (Nat.le_refl _) (.cells (hdC (⟨kind, vk, vn, vs, vb, vc, row, col, fr, fc, row2, col2, fr2, fc2, txt⟩ : Hd) (.slice a n cap)).toArray 44))
  have hz0 : (w.alloc (.cells (hdC (⟨kind, vk, vn, vs, vb, vc, row, col, fr, fc, row2, col2, fr2, fc2, txt⟩ : Hd) (.slice a n cap)).toArray 44)).heap.size = w.heap.size + 1 := by simp
  rcases key with q | ⟨rfl, q⟩ | ⟨rfl, rfl, q⟩ | ⟨rfl, rfl, rfl, rfl⟩ | ⟨rfl, rfl, rfl, rfl, q⟩ | ⟨rfl, rfl, rfl, rfl, rfl, q⟩ | ⟨rfl, rfl, rfl, rfl, rfl, rfl, q⟩ | ⟨rfl, rfl, rfl, rfl, rfl, rfl, rfl, rfl⟩ | ⟨rfl, rfl, rfl, rfl, rfl, rfl, rfl, rfl, rfl⟩ | ⟨rfl, rfl, rfl, rfl, rfl, rfl, rfl, rfl, rfl, q⟩ | ⟨rfl, rfl, rfl, rfl, rfl, rfl, rfl, rfl, rfl, rfl, q⟩ | ⟨rfl, rfl, rfl, rfl, rfl, rfl, rfl, rfl, rfl, rfl, rfl, rfl⟩ | ⟨rfl, rfl, rfl, rfl, rfl, rfl, rfl, rfl, rfl, rfl, rfl, rfl, rfl⟩ | ⟨rfl, rfl, rfl, rfl, rfl, rfl, rfl, rfl, rfl, rfl, rfl, rfl, rfl, q⟩ | ⟨rfl, rfl, rfl, rfl, rfl, rfl, rfl, rfl, rfl, rfl, rfl, rfl, rfl, rfl⟩
  all_goals
    go_enter Tryd.func57, Tryd.ntmps57
    go_wp2_with (first | (with_reducible refine wpl_id ?_; refine wpl_buildN rfl 44 _ rfl (qs := #[(0, .int .i64 kind)]) rfl (run_kind kind _) ?_) | (with_reducible refine wpl_id ?_; refine wpl_newG rfl _ _ rfl rfl hz0 rfl rfl HX.out HB.out ?_; intro W2 k1 k2 hB2 hz2; obtain ⟨d0, d1, d2, d3, d4, d5, d6, d7, d8, d9, d10, d11, d12, d13, d14⟩ := node_cells k1; obtain ⟨g0, g1, g2, g3, g4, g5, g6, g7, g8, g9, g10, g11, g12, g13, g14⟩ := node_cells k2; have fz := k2.froz; clear k1 k2 p0 hz0 HX HB))
    go_ret
    refine ⟨congrArg (fun b => Ending.returned (Value.bool b)) (Eq.symm ?_), hB2⟩
    unfold plainB; rw [if_neg (by simpa using e1), if_neg (by simpa using e2), if_neg (by simpa using e3), if_neg (by simp at e5 e6; simp [e5, e6])]; unfold noVal noCell noTo
    first | (simp at q; simp [q]; done) | (simp; done)
end Go.Proofs.YtijjnchedgllgaaDoor
