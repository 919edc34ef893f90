/-
  The chapter's examples, in plain words.
-/
import Derived.Test.YtfpmmckpobpokaaGreatMRwT5
import Derived.Test.YtfpmmckpobpokaaGreatMRw6
namespace Go.Proofs.YtfpmmckpobpokaaGreat
open Go.RowKit
def plusH : Hd := ⟨5, 0, 0, [], false, 0, 0, 0, false, false, 0, 0, false, false, [43]⟩
def sumH : Hd := ⟨6, 0, 0, [], false, 0, 0, 0, false, false, 0, 0, false, false, [83, 85, 77]⟩
def exA (h : Hd) (r : Int) : Fo := .cons h .nil (.cons sumH (.cons (rangeN 2 2 false false r 2 false false) .nil .nil) .nil)
def exB (h : Hd) (g : Hd) : Fo := .cons plusH (.cons h .nil (.cons (cellN 1 1 true true) .nil .nil)) (.cons g .nil .nil)
theorem ex_a : parseN [65, 51, 43, 83, 85, 77, 40, 66, 50, 58, 66, 53, 41] = .ok plusH (exA (cellN 3 1 false false) 5) := by kernel_rfl
theorem ex_b : parseN [65, 49, 43, 36, 65, 36, 49, 43, 65, 36, 49] = .ok plusH (exB (cellN 1 1 false false) (cellN 1 1 true false)) := by kernel_rfl
theorem ex_a1 : remH (moveD 1 3 1) plusH = plusH ∧ remK (moveD 1 3 1) plusH (exA (cellN 3 1 false false) 5) = exA (cellN 4 1 false false) 6 := ⟨by kernel_rfl, by kernel_rfl⟩
theorem ex_a2 : remH (moveD 2 3 1) plusH = plusH ∧ remK (moveD 2 3 1) plusH (exA (cellN 3 1 false false) 5) = exA lostH 4 := ⟨by kernel_rfl, by kernel_rfl⟩
theorem ex_b1 : remH (shiftD 1 1) plusH = plusH ∧ remK (shiftD 1 1) plusH (exB (cellN 1 1 false false) (cellN 1 1 true false)) = exB (cellN 2 2 false false) (cellN 1 2 true false) := ⟨by kernel_rfl, by kernel_rfl⟩
theorem ex_b2 : remH (shiftD (-1) 0) plusH = plusH ∧ remK (shiftD (-1) 0) plusH (exB (cellN 1 1 false false) (cellN 1 1 true false)) = exB lostH (cellN 1 1 true false) := ⟨by kernel_rfl, by kernel_rfl⟩
theorem text_cellS (h : Hd) (k : Fo) (hk : h.kind = 2) (s : List UInt8) (hs : (Pla.printR h.row h.col h.fr h.fc).1 = s) : TextC h k s := hs ▸ text_cell h k hk
theorem text_lost (k : Fo) : TextC lostH k [35, 82, 69, 70, 33] := by
 have := text_show lostH k rfl rfl (by decide)
 rwa [show (showV 4 lostH.vn ⟨lostH.vs.toArray⟩ lostH.vb lostH.vc).1 = [35, 82, 69, 70, 33] by kernel_rfl] at this
theorem text_sum (r : Int) (s : List UInt8) (hs : (Pla.printR r 2 false false).1 = s) (hl : s.length ≤ 10) : TextC sumH (.cons (rangeN 2 2 false false r 2 false false) .nil .nil) ([83, 85, 77] ++ [40] ++ ([66, 50] ++ 58 :: s) ++ [41]) :=
 text_one sumH _ _ _ rfl (text_range (rangeN 2 2 false false r 2 false false) .nil rfl [66, 50] s (by kernel_rfl) hs (by decide) (by omega)) (by simp; omega) (by decide)
theorem text_exA (h : Hd) (t : List UInt8) (ht : TextC h .nil t) (hl : lvl h = 5) (hz : t.length ≤ 10) (r : Int) (s : List UInt8) (hs : (Pla.printR r 2 false false).1 = s) (hls : s.length ≤ 10) : TextC plusH (exA h r) (t ++ [43] ++ ([83, 85, 77] ++ [40] ++ ([66, 50] ++ 58 :: s) ++ [41])) :=
 text_two plusH h sumH .nil _ t _ rfl 2 (by kernel_rfl) (by omega) ht (text_sum r s hs hls) (by omega) (by decide) (by omega) (by simp; omega) (by decide)
theorem text_exB (h g : Hd) (t u : List UInt8) (ht : TextC h .nil t) (hl : lvl h = 5) (hz : t.length ≤ 10) (hu : TextC g .nil u) (hl2 : lvl g = 5) (hz2 : u.length ≤ 10) : TextC plusH (exB h g) ((t ++ [43] ++ [36, 65, 36, 49]) ++ [43] ++ u) :=
 text_two plusH plusH g _ .nil _ u rfl 2 (by kernel_rfl) (by omega) (text_two plusH h (cellN 1 1 true true) .nil .nil t _ rfl 2 (by kernel_rfl) (by omega) ht (text_cellS _ _ rfl _ (by kernel_rfl)) (by omega) (by decide) (by omega) (by decide) (by decide)) hu (by decide) (by omega) (by simp; omega) (by omega) (by decide)
theorem tx_a1 : Texted plusH (exA (cellN 4 1 false false) 6) [65, 52, 43, 83, 85, 77, 40, 66, 50, 58, 66, 54, 41] :=
 ⟨text_exA _ [65, 52] (text_cellS _ _ rfl _ (by kernel_rfl)) rfl (by decide) 6 [66, 54] (by kernel_rfl) (by decide), by decide, by kernel_rfl, by decide, by decide, by decide, by simp [plusH], by simp [plusH, maxLen], by simp [okF, exA, cellN, sumH, rangeN, maxLen]⟩
theorem tx_a2 : Texted plusH (exA lostH 4) [35, 82, 69, 70, 33, 43, 83, 85, 77, 40, 66, 50, 58, 66, 52, 41] :=
 ⟨text_exA _ [35, 82, 69, 70, 33] (text_lost _) rfl (by decide) 4 [66, 52] (by kernel_rfl) (by decide), by decide, by kernel_rfl, by decide, by decide, by decide, by simp [plusH], by simp [plusH, maxLen], by simp [okF, exA, lostH, sumH, rangeN, maxLen]⟩
theorem tx_b1 : Texted plusH (exB (cellN 2 2 false false) (cellN 1 2 true false)) [66, 50, 43, 36, 65, 36, 49, 43, 66, 36, 49] :=
 ⟨text_exB _ _ [66, 50] [66, 36, 49] (text_cellS _ _ rfl _ (by kernel_rfl)) rfl (by decide) (text_cellS _ _ rfl _ (by kernel_rfl)) rfl (by decide), by decide, by kernel_rfl, by decide, by decide, by decide, by simp [plusH], by simp [plusH, maxLen], by simp [okF, exB, cellN, plusH, maxLen]⟩
theorem tx_b2 : Texted plusH (exB lostH (cellN 1 1 true false)) [35, 82, 69, 70, 33, 43, 36, 65, 36, 49, 43, 65, 36, 49] :=
 ⟨text_exB _ _ [35, 82, 69, 70, 33] [65, 36, 49] (text_lost _) rfl (by decide) (text_cellS _ _ rfl _ (by kernel_rfl)) rfl (by decide), by decide, by kernel_rfl, by decide, by decide, by decide, by simp [plusH], by simp [plusH, maxLen], by simp [okF, exB, lostH, cellN, plusH, maxLen]⟩
theorem fine_a {w : World} {D : Nat → Prop} {v : Value} (hD : ∀ c, D c → c < w.heap.size) (hk : Kv w D v (exA (cellN 3 1 false false) 5)) : Fine w D plusH (exA (cellN 3 1 false false) 5) v := ⟨hD, hk, by decide, by simp [plusH], by simp [plusH, maxLen], by simp [okF, exA, cellN, sumH, rangeN, maxLen]⟩
theorem fine_b {w : World} {D : Nat → Prop} {v : Value} (hD : ∀ c, D c → c < w.heap.size) (hk : Kv w D v (exB (cellN 1 1 false false) (cellN 1 1 true false))) : Fine w D plusH (exB (cellN 1 1 false false) (cellN 1 1 true false)) v := ⟨hD, hk, by decide, by simp [plusH], by simp [plusH, maxLen], by simp [okF, exB, cellN, plusH, maxLen]⟩
end Go.Proofs.YtfpmmckpobpokaaGreat
