/-
  The contracts of a function's form, and of forms.Find.
-/
import Derived.Test.YtklldmidcmfbdaaGreatDoorFmC2
import Derived.Test.YtklldmidcmfbdaaGreatDoorFmW
import Derived.Test.YtklldmidcmfbdaaGreatDoorFmO
namespace Go.Proofs.YtklldmidcmfbdaaGreatDoor
open Go.RowKit Go.Shelf

noncomputable def wtI : TypeInfo := (Tryz.prog.info? 28).get (by kernel_rfl)
theorem wtI_info : Tryz.prog.info? 28 = some wtI := by kernel_rfl
theorem wtI_zero : wtI.zero = some (.int .i64 0) := by kernel_rfl
theorem wtI_size : wtI.size = 1 := by kernel_rfl
theorem wtI_bytes : wtI.bytes = 8 := by kernel_rfl
theorem wts_under : Tryz.prog.underlying 25 = some (.slice 28) := by kernel_rfl
/-- What is wanted of each argument. -/
def wantsL (ws : ByteArray) (n : Nat) : List Value := (List.range n).map fun j => .int .i64 (wantAt ws j)
theorem wantsL_snoc (ws : ByteArray) (n : Nat) : wantsL ws (n + 1) = wantsL ws n ++ [.int .i64 (wantAt ws n)] := by simp [wantsL, List.range_succ]
theorem row_set {W : World} {base : Nat} {e : TypeId} {size : Nat} {v : Value} {n : Nat} {xs : List Value} (h : W.ownsRow base e size v n xs) {b i : Nat} {u : Value} (hb : b < base) : (W.setCell ⟨b, i, none⟩ u).ownsRow base e size v n xs := by
  refine ⟨h.1, ?_⟩
  rcases h.2 with h2 | ⟨g, cap, cur, e1, e2, e3, e4⟩
  · exact .inl h2
  · exact .inr ⟨g, cap, cur, e1, e2, (Below.heap_setCell W ⟨b, i, none⟩ u g (by show g ≠ b; omega)).trans e3, e4⟩
set_option maxRecDepth 100000 in
set_option maxHeartbeats 4000000 in
theorem form_any (f : Fu) (w : World) (h4 : f.wants.size ≤ 4) : Calls Tryz.prog 11 #[.agg (fnC f).toArray] w fun e w' => ∃ v, e = .returned (.agg #[.string f.name, .int .i64 f.least, .int .i64 f.most, v]) ∧ w'.ownsRow w.heap.size 28 1 v f.wants.size (wantsL f.wants f.wants.size) ∧ Below w.heap.size w w' := by
  obtain ⟨fn, x, y, ws⟩ := f
  simp only [fnC] at h4 ⊢
  have HW : Hid (∀ (i : Nat) (W : World), 1 ≤ ws.size → Calls Tryz.prog 26 #[.agg #[.int .i64 x, .int .i64 y, .string ws], .int .i64 (i : Int)] W fun e w' => e = .returned (.int .i64 (wantAt ws i)) ∧ Below W.heap.size W w') := fun i W h => want_any x y ws i W h h4
  have n0 := bcells_new w #[.string fn, .int .i64 x, .int .i64 y, .string ws] 42
  have HN : Hid (∀ W, Below (w.alloc (.cells #[.string fn, .int .i64 x, .int .i64 y, .string ws] 42)).heap.size (w.alloc (.cells #[.string fn, .int .i64 x, .int .i64 y, .string ws] 42)) W → W.cell? ⟨w.heap.size, 0, none⟩ = some (.string fn) ∧ W.cell? ⟨w.heap.size, 1, none⟩ = some (.int .i64 x) ∧ W.cell? ⟨w.heap.size, 2, none⟩ = some (.int .i64 y) ∧ W.cell? ⟨w.heap.size, 3, none⟩ = some (.string ws)) := fun W hW => by
    have hl : w.heap.size < (w.alloc (.cells #[.string fn, .int .i64 x, .int .i64 y, .string ws] 42)).heap.size := by simp
    exact ⟨(hW.cell (p := ⟨w.heap.size, 0, none⟩) hl).trans (n0 0), (hW.cell (p := ⟨w.heap.size, 1, none⟩) hl).trans (n0 1), (hW.cell (p := ⟨w.heap.size, 2, none⟩) hl).trans (n0 2), (hW.cell (p := ⟨w.heap.size, 3, none⟩) hl).trans (n0 3)⟩
  clear n0
  go_enter Tryz.func11, Tryz.ntmps11
  go_wp2
  have hB0 : Below (w.alloc (.cells #[.string fn, .int .i64 x, .int .i64 y, .string ws] 42)).heap.size (w.alloc (.cells #[.string fn, .int .i64 x, .int .i64 y, .string ws] 42)) ((w.alloc (.cells #[.string fn, .int .i64 x, .int .i64 y, .string ws] 42)).alloc (.cells #[.string ⟨#[]⟩, .int .i64 0, .int .i64 0, .slice none 0 0] 27)) := (Below.refl _ _).alloc (Nat.le_refl _) _
  have hz0 : ((w.alloc (.cells #[.string fn, .int .i64 x, .int .i64 y, .string ws] 42)).alloc (.cells #[.string ⟨#[]⟩, .int .i64 0, .int .i64 0, .slice none 0 0] 27)).heap.size = w.heap.size + 2 := by simp
  have hh0 : ((w.alloc (.cells #[.string fn, .int .i64 x, .int .i64 y, .string ws] 42)).alloc (.cells #[.string ⟨#[]⟩, .int .i64 0, .int .i64 0, .slice none 0 0] 27)).heap[w.heap.size + 1]? = some (.cells #[.string ⟨#[]⟩, .int .i64 0, .int .i64 0, .slice none 0 0] 27 (0, 0)) := by
    have := World.alloc_heap_new (w.alloc (.cells #[.string fn, .int .i64 x, .int .i64 y, .string ws] 42)) (.cells #[.string ⟨#[]⟩, .int .i64 0, .int .i64 0, .slice none 0 0] 27)
    rwa [World.size_alloc] at this
  have bw0 : Below w.heap.size w (w.alloc (.cells #[.string fn, .int .i64 x, .int .i64 y, .string ws] 42)) := (Below.refl _ _).alloc (Nat.le_refl _) _
  have bw1 : Below w.heap.size w ((w.alloc (.cells #[.string fn, .int .i64 x, .int .i64 y, .string ws] 42)).alloc (.cells #[.string ⟨#[]⟩, .int .i64 0, .int .i64 0, .slice none 0 0] 27)) := bw0.alloc bw0.size _
  generalize hW1 : (w.alloc (.cells #[.string fn, .int .i64 x, .int .i64 y, .string ws] 42)).alloc (.cells #[.string ⟨#[]⟩, .int .i64 0, .int .i64 0, .slice none 0 0] 27) = W1 at *
  have HN1 : Hid (∀ W, Below W1.heap.size W1 W → W.cell? ⟨w.heap.size, 0, none⟩ = some (.string fn) ∧ W.cell? ⟨w.heap.size, 1, none⟩ = some (.int .i64 x) ∧ W.cell? ⟨w.heap.size, 2, none⟩ = some (.int .i64 y) ∧ W.cell? ⟨w.heap.size, 3, none⟩ = some (.string ws)) := fun W hW => HN.out W (hB0.trans (hW.mono hB0.size))
  clear hW1 HN hB0 bw0
  have hc0 := HN1.out W1 (Below.refl _ _)
  clear hc0
  go_loopw [3, 9] (fun ov iv wr => ∃ i : Nat, iv = .int .i64 i ∧ i ≤ ws.size ∧ wr.ownsRow W1.heap.size 28 1 ov i (wantsL ws i) ∧ Below W1.heap.size W1 wr) (fun _ iv _ => ws.size - (intOf iv).toNat)
  case atStart => exact ⟨0, rfl, Nat.zero_le _, World.ownsRow_nil _ _ _ _, Below.refl _ _⟩
  case round =>
    obtain ⟨i, rfl, hi, hown, hB⟩ := hrel
    have hbs := hB.size
    have HOW := hide hown
    have hc := HN1.out wr hB
    by_cases hlt : i < ws.size
    · have g1 : (i : Int) < ws.size := by omega
      clear hown
      go_wp2_with (first | (go_at_call 26; refine (HW.out _ _ (by omega)).mono ?_; rintro e w1 ⟨rfl, hb1⟩; have HO1 := hide (World.ownsRow.kept HOW.out ⟨hb1.os, hb1.tape, hb1.output, hb1.size, fun i hi _ => hb1.block i hi⟩ (row := none) (by cases u3.ownBlock <;> simp)); have hB1 := hB.trans (hb1.mono hbs); have hbs1 := hB1.size; clear hb1) | (at_builtin; refine wpList_append_own _ rfl _ _ 25 rfl W1.heap.size 28 wtI (.int .i64 0) 1 8 wts_under wtI_info wtI_zero wtI_size wtI_bytes rfl (by decide) _ _ _ rfl (HO1.out.alloc _) ⟨w1.heap.size, 0, none⟩ 1 1 [.int .i64 (wantAt ws i)] rfl rfl (fun j u hj => cells_newW w1 _ _ j u hj) (by simp [Value.oneCell']) (by unfold maxLen; omega) (by omega) (by simp; omega) ?_; intro v' w2 hown' hgrow _; have hB2 := hide (((hB1.alloc hbs1 (.cells #[.int .i64 (wantAt ws i)] 28)).grown hgrow (by simp; omega) (fun j hj => (HO1.out.lt j hj).1))); obtain ⟨gv, capv, rfl⟩ := ownsRow_succ hown'; have HR := hide hown'; clear hown' hgrow) | go_in)
      go_roundw
      case rel => exact ⟨i + 1, by go_num, by omega, by rw [wantsL_snoc]; exact HR.out, hB2.out⟩
      case measure => simp [intOf]; omega
    · have g1 : ¬ (i : Int) < ws.size := by omega
      obtain rfl : i = ws.size := by omega
      have hfr : ∀ j, wr.frozen? ⟨w.heap.size + 1, j, none⟩ = false := fun j => by
        have := (hB.block (w.heap.size + 1) (by omega)).trans hh0
        simp [World.frozen?, this]
      have hce : ∀ j, wr.cell? ⟨w.heap.size + 1, j, none⟩ = (#[.string ⟨#[]⟩, .int .i64 0, .int .i64 0, .slice none 0 0] : Array Value)[j]? := fun j => by
        have := (hB.block (w.heap.size + 1) (by omega)).trans hh0
        simp [World.cell?, this]
      have hvs : ∃ pa na ca, u3 = .slice pa na ca := by
        rcases HOW.out.2 with ⟨h, _⟩ | ⟨g, cp, cur, h, _⟩
        · exact ⟨_, _, _, h⟩
        · exact ⟨_, _, _, h⟩
      obtain ⟨pa, na, ca, rfl⟩ := hvs
      clear hown
      go_wp2
      refine bodyPost_ret (v := .agg #[.string fn, .int .i64 x, .int .i64 y, .slice pa na ca]) (by simp [results, Tryz.results11, go_sem, hce]) rfl ⟨_, rfl, ?_, ?_⟩
      · exact (row_set (row_set (row_set (row_set HOW.out (by omega)) (by omega)) (by omega)) (by omega)).mono (by omega)
      · have hb := bw1.trans (hB.mono bw1.size)
        exact (((hb.setCell (p := ⟨w.heap.size + 1, 0, none⟩) (by simp) _).setCell (p := ⟨w.heap.size + 1, 1, none⟩) (by simp) _).setCell (p := ⟨w.heap.size + 1, 2, none⟩) (by simp) _).setCell (p := ⟨w.heap.size + 1, 3, none⟩) (by simp) _
/-- What forms.Find tells. -/
def findE (o : Option Fu) : Int := if o.isSome = true then 0 else 8
set_option maxRecDepth 100000 in
set_option maxHeartbeats 4000000 in
theorem formsFind_any (s : ByteArray) (w : World) : Calls Tryz.prog 9 #[.string s] w fun e w' => ∃ v, e = .returned (.tuple #[.agg #[.string ((findF s).getD zf).name, .int .i64 ((findF s).getD zf).least, .int .i64 ((findF s).getD zf).most, v], .int .i64 (findE (findF s))]) ∧ w'.ownsRow w.heap.size 28 1 v ((findF s).getD zf).wants.size (wantsL ((findF s).getD zf).wants ((findF s).getD zf).wants.size) ∧ Below w.heap.size w w' := by
  have HFd : Hid (∀ W : World, Calls Tryz.prog 22 #[.string s] W fun e w' => e = .returned (foundV (findF s)) ∧ Below W.heap.size W w') := fun W => find_any s W
  have n0 := World.alloc_heap_new w (.cells #[.string ⟨#[]⟩, .int .i64 0, .int .i64 0, .slice none 0 0] 27)
  have HN : Hid (∀ W, Below (w.alloc (.cells #[.string ⟨#[]⟩, .int .i64 0, .int .i64 0, .slice none 0 0] 27)).heap.size (w.alloc (.cells #[.string ⟨#[]⟩, .int .i64 0, .int .i64 0, .slice none 0 0] 27)) W → w.heap.size < W.heap.size ∧ (∀ j, W.cell? ⟨w.heap.size, j, none⟩ = (#[.string ⟨#[]⟩, .int .i64 0, .int .i64 0, .slice none 0 0] : Array Value)[j]?) ∧ (∀ j, W.frozen? ⟨w.heap.size, j, none⟩ = false) ∧ Below w.heap.size w W) := fun W hW => by
    have hl : w.heap.size < (w.alloc (.cells #[.string ⟨#[]⟩, .int .i64 0, .int .i64 0, .slice none 0 0] 27)).heap.size := by simp
    have := (hW.block _ hl).trans n0
    exact ⟨Nat.lt_of_lt_of_le hl hW.size, fun j => by simp [World.cell?, this], fun j => by simp [World.frozen?, this], ((Below.refl _ w).alloc (Nat.le_refl _) _).trans (hW.mono (by simp))⟩
  clear n0
  cases hf : findF s with
  | none =>
    rw [hf] at HFd
    simp only [Option.getD, foundV, Option.isSome, zf, fnC] at HFd ⊢
    go_enter Tryz.func9, Tryz.ntmps9
    go_wp2_with (first | (go_at_call 22; refine (HFd.out _).mono ?_; rintro e w1 ⟨rfl, hb1⟩; obtain ⟨l1, c1, p1, b1⟩ := HN.out w1 hb1; have HB1 := hide b1; have HBx := hide hb1; clear hb1 b1))
    refine bodyPost_ret (v := .tuple #[.agg #[.string ⟨#[]⟩, .int .i64 0, .int .i64 0, .slice none 0 0], .int .i64 8]) (by simp [results, Tryz.results9, go_sem, c1, l1]) rfl ⟨_, rfl, World.ownsRow_nil _ _ _ _, ?_⟩
    have hb := HB1.out
    repeat' (first | with_reducible exact Below.refl _ _ | with_reducible refine Below.setCell ?_ ?_ _ | with_reducible refine Below.alloc ?_ ?_ _ | with_reducible refine below_drewN ?_ _ | with_reducible refine Below.drew ?_ | with_reducible refine Below.trans ?_ (Below.mono (by assumption) ?_) | with_reducible exact Nat.le_refl _ | with_reducible refine Nat.le_trans ?_ (Below.size (by assumption)) | with_reducible refine Nat.le_trans ?_ (size_alloc _ _) | with_reducible refine Nat.le_trans ?_ (size_set _ _ _) | with_reducible refine Nat.le_trans ?_ (size_drewN _ _) | with_reducible refine Nat.le_trans ?_ (size_drew _) | (simp; done) | (simp; omega) | omega)
  | some f =>
    have hfw : f.wants.size ≤ 4 := (fn_fine (find_mem hf)).1
    have HFm : Hid (∀ W : World, Calls Tryz.prog 11 #[.agg (fnC f).toArray] W fun e w' => ∃ v, e = .returned (.agg #[.string f.name, .int .i64 f.least, .int .i64 f.most, v]) ∧ w'.ownsRow W.heap.size 28 1 v f.wants.size (wantsL f.wants f.wants.size) ∧ Below W.heap.size W w') := fun W => form_any f W hfw
    rw [hf] at HFd
    simp only [Option.getD, foundV, Option.isSome, fnC] at HFd HFm ⊢
    obtain ⟨fn, x, y, ws⟩ := f
    simp only at HFd HFm hfw ⊢
    go_enter Tryz.func9, Tryz.ntmps9
    go_wp2_with (first | (go_at_call 22; refine (HFd.out _).mono ?_; rintro e w1 ⟨rfl, hb1⟩; have HBx := hide hb1; clear hb1) | (go_at_call 11; refine (HFm.out _).mono ?_; rintro e w2 ⟨v, rfl, hown, hb2⟩; obtain ⟨l1, c1, p1, b1⟩ := HN.out w2 (HBx.out.trans (((Below.refl _ w1).alloc (Nat.le_refl _) (.cells #[.string fn, .int .i64 x, .int .i64 y, .string ws] 42)).trans (hb2.mono (by simp)) |>.mono HBx.out.size)); have HB1 := hide b1; have HOW := hide hown; have hz : w.heap.size < w1.heap.size := Nat.lt_of_lt_of_le (by simp) HBx.out.size; obtain ⟨pa, na, ca, rfl⟩ : ∃ pa na ca, v = .slice pa na ca := (by rcases hown.2 with ⟨h, _⟩ | ⟨g, cp, cur, h, _⟩ <;> exact ⟨_, _, _, h⟩); clear hb2 b1 hown))
    refine bodyPost_ret (v := .tuple #[.agg #[.string fn, .int .i64 x, .int .i64 y, .slice pa na ca], .int .i64 0]) (by simp [results, Tryz.results9, go_sem, c1]) rfl ⟨_, rfl, ?_, ?_⟩
    · have hz2 : w.heap.size < (w1.alloc (.cells #[.string fn, .int .i64 x, .int .i64 y, .string ws] 42)).heap.size := by simp; omega
      exact (row_set (row_set (row_set (row_set HOW.out hz2) hz2) hz2) hz2).mono (by omega)
    · exact (((HB1.out.setCell (p := ⟨w.heap.size, 0, none⟩) (by simp) _).setCell (p := ⟨w.heap.size, 1, none⟩) (by simp) _).setCell (p := ⟨w.heap.size, 2, none⟩) (by simp) _).setCell (p := ⟨w.heap.size, 3, none⟩) (by simp) _
end Go.Proofs.YtklldmidcmfbdaaGreatDoor
