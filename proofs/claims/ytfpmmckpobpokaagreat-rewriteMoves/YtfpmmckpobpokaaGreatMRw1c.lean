/-
  What another place does with a cell and with a range: the contracts of the closures.
-/
import Derived.Test.YtfpmmckpobpokaaGreatMRw1b
set_option maxRecDepth 100000
set_option maxHeartbeats 4000000
namespace Go.Proofs.YtfpmmckpobpokaaGreat
open Go.RowKit
theorem scell0 (r c dr dc R C : Int) (x y : Bool) (br bc : Nat) (w : World) (h1 : br < w.heap.size) (h2 : w.cell? ⟨br, 0, none⟩ = some (.int .i64 dr)) (h3 : bc < w.heap.size) (h4 : w.cell? ⟨bc, 0, none⟩ = some (.int .i64 dc)) (hx : (x = false ∧ IntKind.i64.wrap (r + dr) = R) ∨ (x = true ∧ r = R)) (hy : (y = false ∧ IntKind.i64.wrap (c + dc) = C) ∨ (y = true ∧ c = C)) :
  Calls Tryz.prog 70 #[.agg #[.int .i64 r, .int .i64 c, .bool x, .bool y], .pointer (some ⟨br, 0, none⟩), .pointer (some ⟨bc, 0, none⟩)] w fun e w' => e = .returned (.tuple #[.agg #[.int .i64 R, .int .i64 C, .bool x, .bool y], .bool (Pla.placeB R C)]) ∧ Below w.heap.size w w' := by
 have HO : Hid (∀ W : World, Calls Tryz.prog 40 #[.agg #[.int .i64 R, .int .i64 C], .agg #[.int .i64 R, .int .i64 C]] W fun e w' => e = .returned (.tuple #[.agg #[.int .i64 (Pla.ofR R C R C).1, .int .i64 (Pla.ofR R C R C).2.1, .int .i64 (Pla.ofR R C R C).2.2.1, .int .i64 (Pla.ofR R C R C).2.2.2.1], .int .i64 (Pla.ofR R C R C).2.2.2.2]) ∧ Below W.heap.size W w') := fun W => Pla.of_any _ _ _ _ W
 have hq : Pla.placeB R C = ((Pla.ofR R C R C).2.2.2.2 == 0) := by
  unfold Pla.ofR
  cases Pla.placeB R C <;> simp
 rw [hq]
 clear hq
 generalize Pla.ofR R C R C = o at *
 obtain ⟨o1, o2, o3, o4, o5⟩ := o
 dsimp only at HO ⊢
 have HC := hide (CelAt.two w R C x y 0 0 false false 30 30)
 have HB := hide (((Below.refl _ w).alloc (Nat.le_refl _) (.cells #[.int .i64 R, .int .i64 C, .bool x, .bool y] 30)).alloc (by simp) (.cells #[.int .i64 0, .int .i64 0, .bool false, .bool false] 30))
 have hk : (x = false ∧ IntKind.i64.wrap (r + dr) = R ∧ y = false ∧ IntKind.i64.wrap (c + dc) = C) ∨ (x = false ∧ IntKind.i64.wrap (r + dr) = R ∧ y = true ∧ c = C) ∨ (x = true ∧ r = R ∧ y = false ∧ IntKind.i64.wrap (c + dc) = C) ∨ (x = true ∧ r = R ∧ y = true ∧ c = C) := by
  rcases hx with ⟨a, b⟩ | ⟨a, b⟩ <;> rcases hy with ⟨a', b'⟩ | ⟨a', b'⟩ <;> simp [a, b, a', b']
 clear hx hy
 rcases hk with ⟨rfl, hR, rfl, hC⟩ | ⟨rfl, hR, rfl, rfl⟩ | ⟨rfl, rfl, rfl, hC⟩ | ⟨rfl, rfl, rfl, rfl⟩
 all_goals (go_enter Tryz.func70, Tryz.ntmps70)
 all_goals (go_wp2_with (go_at_call 40; refine (HO.out _).mono ?_; rintro e w1 ⟨rfl, hb1⟩; have ⟨z0, ⟨z1, z2, z3, z4⟩, z5, z6, z7, z8⟩ := HC.out.1.below hb1; have ⟨y0, ⟨y1, y2, y3, y4⟩, y5, y6, y7, y8⟩ := HC.out.2.below hb1; have HB1 := hide (HB.out.trans (hb1.mono HB.out.size)); clear hb1))
 all_goals (refine bodyPost_ret (v := .tuple #[.agg #[.int .i64 _, .int .i64 _, .bool _, .bool _], .bool (o5 == 0)]) (by simp [results, Tryz.results70, go_sem, *]; done) rfl ⟨rfl, ?_⟩)
 all_goals (repeat' (first | with_reducible (first | exact Below.refl _ _ | refine Below.setCell ?_ ?_ _ | refine Below.alloc ?_ ?_ _ | refine below_drewN ?_ _ | refine Below.drew ?_ | refine Below.trans ?_ (Below.mono (by assumption) ?_) | exact Nat.le_refl _ | refine Nat.le_trans ?_ (Below.size (by assumption)) | refine zzA ?_ | refine zzB ?_ | refine zzC ?_ | refine zzD ?_) | (simp; done) | (simp; omega) | omega))
 all_goals (exact HB1.out)
def slideI (x : Bool) (r d : Int) : Int := if x then r else IntKind.i64.wrap (r + d)
theorem scell_any (r c dr dc : Int) (x y : Bool) (br bc : Nat) (w : World) (h1 : br < w.heap.size) (h2 : w.cell? ⟨br, 0, none⟩ = some (.int .i64 dr)) (h3 : bc < w.heap.size) (h4 : w.cell? ⟨bc, 0, none⟩ = some (.int .i64 dc)) :
  Calls Tryz.prog 70 #[.agg #[.int .i64 r, .int .i64 c, .bool x, .bool y], .pointer (some ⟨br, 0, none⟩), .pointer (some ⟨bc, 0, none⟩)] w fun e w' => e = .returned (.tuple #[.agg #[.int .i64 (slideI x r dr), .int .i64 (slideI y c dc), .bool x, .bool y], .bool (Pla.placeB (slideI x r dr) (slideI y c dc))]) ∧ Below w.heap.size w w' :=
 scell0 r c dr dc _ _ x y br bc w h1 h2 h3 h4 (by cases x <;> simp [slideI]) (by cases y <;> simp [slideI])
def Sh (w : World) (br bc bf : Nat) (dr dc : Int) : Prop := br < w.heap.size ∧ w.cell? ⟨br, 0, none⟩ = some (.int .i64 dr) ∧ bc < w.heap.size ∧ w.cell? ⟨bc, 0, none⟩ = some (.int .i64 dc) ∧ bf < w.heap.size ∧ w.cell? ⟨bf, 0, none⟩ = some (.func (.func 70) #[] #[.pointer (some ⟨br, 0, none⟩), .pointer (some ⟨bc, 0, none⟩)])
theorem Sh.below {w w' : World} {br bc bf : Nat} {dr dc : Int} (h : Sh w br bc bf dr dc) (k : Below w.heap.size w w') : Sh w' br bc bf dr dc := by
 obtain ⟨h1, h2, h3, h4, h5, h6⟩ := h
 exact ⟨Nat.lt_of_lt_of_le h1 k.size, by rw [k.cell (p := ⟨br, 0, none⟩) h1]; exact h2, Nat.lt_of_lt_of_le h3 k.size, by rw [k.cell (p := ⟨bc, 0, none⟩) h3]; exact h4, Nat.lt_of_lt_of_le h5 k.size, by rw [k.cell (p := ⟨bf, 0, none⟩) h5]; exact h6⟩
theorem sspan_any (r c r2 c2 dr dc : Int) (x y x2 y2 : Bool) (br bc bf : Nat) (w : World) (h : Sh w br bc bf dr dc) :
  Calls Tryz.prog 71 #[.agg #[.int .i64 r, .int .i64 c, .bool x, .bool y], .agg #[.int .i64 r2, .int .i64 c2, .bool x2, .bool y2], .pointer (some ⟨bf, 0, none⟩)] w fun e w' => e = .returned (.tuple #[.agg #[.int .i64 (slideI x r dr), .int .i64 (slideI y c dc), .bool x, .bool y], .agg #[.int .i64 (slideI x2 r2 dr), .int .i64 (slideI y2 c2 dc), .bool x2, .bool y2], .bool (Pla.placeB (slideI x r dr) (slideI y c dc) && Pla.placeB (slideI x2 r2 dr) (slideI y2 c2 dc))]) ∧ Below w.heap.size w w' := by
 have H1 : Hid (∀ W : World, Below w.heap.size w W → Calls Tryz.prog 70 #[.agg #[.int .i64 r, .int .i64 c, .bool x, .bool y], .pointer (some ⟨br, 0, none⟩), .pointer (some ⟨bc, 0, none⟩)] W fun e w' => e = .returned (.tuple #[.agg #[.int .i64 (slideI x r dr), .int .i64 (slideI y c dc), .bool x, .bool y], .bool (Pla.placeB (slideI x r dr) (slideI y c dc))]) ∧ Below W.heap.size W w') := fun W hW => by
  obtain ⟨a1, a2, a3, a4, _⟩ := h.below hW
  exact scell_any r c dr dc x y br bc W a1 a2 a3 a4
 have H2 : Hid (∀ W : World, Below w.heap.size w W → Calls Tryz.prog 70 #[.agg #[.int .i64 r2, .int .i64 c2, .bool x2, .bool y2], .pointer (some ⟨br, 0, none⟩), .pointer (some ⟨bc, 0, none⟩)] W fun e w' => e = .returned (.tuple #[.agg #[.int .i64 (slideI x2 r2 dr), .int .i64 (slideI y2 c2 dc), .bool x2, .bool y2], .bool (Pla.placeB (slideI x2 r2 dr) (slideI y2 c2 dc))]) ∧ Below W.heap.size W w') := fun W hW => by
  obtain ⟨a1, a2, a3, a4, _⟩ := h.below hW
  exact scell_any r2 c2 dr dc x2 y2 br bc W a1 a2 a3 a4
 generalize Pla.placeB (slideI x r dr) (slideI y c dc) = g1 at *
 generalize Pla.placeB (slideI x2 r2 dr) (slideI y2 c2 dc) = g2 at *
 generalize slideI x r dr = u1 at *
 generalize slideI y c dc = u3 at *
 generalize slideI x2 r2 dr = u2 at *
 generalize slideI y2 c2 dc = u4 at *
 have HSh := hide h
 obtain ⟨_, _, _, _, h50, h60⟩ := h
 have h51 : bf < w.heap.size + 1 := by omega
 have h52 : bf < w.heap.size + 1 + 1 := by omega
 have h53 : bf < w.heap.size + 1 + 1 + 1 := by omega
 have HC := hide (CelAt.four w r c x y r2 c2 x2 y2 30)
 have HB := hide (((((Below.refl _ w).alloc (Nat.le_refl _) (.cells #[.int .i64 r, .int .i64 c, .bool x, .bool y] 30)).alloc (by simp) (.cells #[.int .i64 r2, .int .i64 c2, .bool x2, .bool y2] 30)).alloc (by simp; omega) (.cells #[.int .i64 0, .int .i64 0, .bool false, .bool false] 30)).alloc (by simp; omega) (.cells #[.int .i64 0, .int .i64 0, .bool false, .bool false] 30))
 go_enter Tryz.func71, Tryz.ntmps71
 go_wp2_with (first | (go_at_call_of 70 [Value.agg #[.int .i64 r, .int .i64 c, .bool x, .bool y], Value.pointer (some ⟨br, 0, none⟩), Value.pointer (some ⟨bc, 0, none⟩)]; refine (H1.out _ HB.out).mono ?_; rintro e w1 ⟨rfl, hb1⟩; have HC1 := hide (HC.out.1.below hb1); have HC2 := hide (HC.out.2.1.below hb1); have ⟨m0, ⟨m1, m2, m3, m4⟩, _⟩ := HC2.out; have HC3 := hide (HC.out.2.2.1.below hb1); have HC4 := hide (HC.out.2.2.2.below hb1); have HZ4 : Hid (w.heap.size + 1 + 1 + 1 < w1.heap.size) := HC4.out.1; have HB1 := hide (HB.out.trans (hb1.mono HB.out.size)); have ⟨_, _, _, _, h5, h6⟩ := HSh.out.below HB1.out; have HB1a := hide (HB1.out.alloc HB1.out.size (.cells #[.int .i64 u1, .int .i64 u3, .bool x, .bool y] 30)); have HL1 := hide (CelAt.new w1 u1 u3 x y 30); clear hb1 HC HB) | (go_at_call_of 70 [Value.agg #[.int .i64 r2, .int .i64 c2, .bool x2, .bool y2], Value.pointer (some ⟨br, 0, none⟩), Value.pointer (some ⟨bc, 0, none⟩)]; refine (H2.out _ HB1a.out).mono ?_; rintro e w2 ⟨rfl, hb2⟩; have HD1 := hide (HL1.out.below hb2); have HD3 := hide ((HC3.out.alloc _).below hb2); have HD4 := hide ((HC4.out.alloc _).below hb2); have HB2 := hide (HB1a.out.trans (hb2.mono HB1a.out.size)); have hsz : w1.heap.size < w2.heap.size := HD1.out.1; clear hb2 HC1 HC2 HC3 HC4 h5 h6 m0 m1 m2 m3 m4))
 have hsw : w.heap.size + 1 + 1 + 1 < w1.heap.size := HZ4.out
 obtain ⟨wr, hwr⟩ : ∃ wr : World, wr = w2.alloc (.cells #[.int .i64 u2, .int .i64 u4, .bool x2, .bool y2] 30) := ⟨_, rfl⟩
 rw [← hwr]
 have E1 : Hid (CelAt wr w1.heap.size u1 u3 x y) := by rw [hwr]; exact HD1.out.alloc _
 have E2 : Hid (CelAt wr w2.heap.size u2 u4 x2 y2) := by rw [hwr]; exact CelAt.new w2 _ _ _ _ _
 have E3 : Hid (CelAt wr (w.heap.size + 1 + 1) 0 0 false false) := by rw [hwr]; exact HD3.out.alloc _
 have E4 : Hid (CelAt wr (w.heap.size + 1 + 1 + 1) 0 0 false false) := by rw [hwr]; exact HD4.out.alloc _
 have HBr : Hid (Below w.heap.size w wr) := by rw [hwr]; exact HB2.out.alloc HB2.out.size _
 clear hwr HB2 HD1 HD3 HD4
 obtain ⟨k10, ⟨k11, k12, k13, k14⟩, k15, k16, k17, k18⟩ := E3.out
 obtain ⟨k20, ⟨k21, k22, k23, k24⟩, k25, k26, k27, k28⟩ := E4.out
 have HS0 := hide (S8.of E1.out E2.out)
 cases g1
 ·
  refine wp_region_held_drew (S := fun W => (W.cell? ⟨w1.heap.size, 0, none⟩ = some (.int .i64 u1) ∧ W.cell? ⟨w1.heap.size, 1, none⟩ = some (.int .i64 u3) ∧ W.cell? ⟨w1.heap.size, 2, none⟩ = some (.bool x) ∧ W.cell? ⟨w1.heap.size, 3, none⟩ = some (.bool y)) ∧ W.cell? ⟨w2.heap.size, 0, none⟩ = some (.int .i64 u2) ∧ W.cell? ⟨w2.heap.size, 1, none⟩ = some (.int .i64 u4) ∧ W.cell? ⟨w2.heap.size, 2, none⟩ = some (.bool x2) ∧ W.cell? ⟨w2.heap.size, 3, none⟩ = some (.bool y2)) (by kernel_rfl) HS0.out (fun hHeld => ?_)
  refine takeF 0 (some 24) ?_; refine takeF 1 (some 25) ?_; refine takeF 2 (some 26) ?_; refine takeF 3 (some 27) ?_
  (refine skipE (i := 4) (some 28) rfl rfl (by kernel_rfl) rfl (by assumption) ?_; try simp only [Act.put, pA, pB, pC])
  refine takeF 5 (some 29) ?_
  refine wpAnyH_ready (rs := [6]) (by kernel_rfl) (by simp) ?_
  refine AllReadyH.cons (o := _) rfl (fun K hK => ?_) AllReadyH.nil
  go_simp
  refine hK.out _ _ (show S8 w1.heap.size w2.heap.size u1 u3 x y u2 u4 x2 y2 _ by (repeat' (first | with_reducible refine S8.drew ?_ | with_reducible refine S8.set ?_ ?_ ?_ _ _ | with_reducible exact HS0.out | omega))) (fun hHeld => ?_)
  clear hK K
  refine wpAnyH_ready (rs := [7]) (by kernel_rfl) (by simp) ?_
  refine AllReadyH.cons (o := _) rfl (fun K hK => ?_) AllReadyH.nil
  go_simp
  refine hK.out _ _ (show S8 w1.heap.size w2.heap.size u1 u3 x y u2 u4 x2 y2 _ by (repeat' (first | with_reducible refine S8.drew ?_ | with_reducible refine S8.set ?_ ?_ ?_ _ _ | with_reducible exact HS0.out | omega))) (fun hHeld => ?_)
  clear hK K
  refine takeF 8 (some 7) ?_
  refine wpAnyH_done (by kernel_rfl) ?_ _
  go_wp2
  refine bodyPost_ret (v := .tuple #[.agg #[.int .i64 u1, .int .i64 u3, .bool x, .bool y], .agg #[.int .i64 u2, .int .i64 u4, .bool x2, .bool y2], .bool (false)]) (by simp [results, Tryz.results71, go_sem, *]) rfl ⟨by simp, ?_⟩
  repeat' (first | with_reducible (first | exact Below.refl _ _ | refine Below.setCell ?_ ?_ _ | refine Below.alloc ?_ ?_ _ | refine below_drewN ?_ _ | refine Below.drew ?_ | refine Below.trans ?_ (Below.mono (by assumption) ?_) | exact Nat.le_refl _ | refine Nat.le_trans ?_ (Below.size (by assumption)) | refine zzA ?_ | refine zzB ?_ | refine zzC ?_ | refine zzD ?_) | (simp; done) | (simp; omega) | omega)
  exact HBr.out
 ·
  refine wp_region_held_drew (S := fun W => (W.cell? ⟨w1.heap.size, 0, none⟩ = some (.int .i64 u1) ∧ W.cell? ⟨w1.heap.size, 1, none⟩ = some (.int .i64 u3) ∧ W.cell? ⟨w1.heap.size, 2, none⟩ = some (.bool x) ∧ W.cell? ⟨w1.heap.size, 3, none⟩ = some (.bool y)) ∧ W.cell? ⟨w2.heap.size, 0, none⟩ = some (.int .i64 u2) ∧ W.cell? ⟨w2.heap.size, 1, none⟩ = some (.int .i64 u4) ∧ W.cell? ⟨w2.heap.size, 2, none⟩ = some (.bool x2) ∧ W.cell? ⟨w2.heap.size, 3, none⟩ = some (.bool y2)) (by kernel_rfl) HS0.out (fun hHeld => ?_)
  refine takeF 0 (some 24) ?_; refine takeF 1 (some 25) ?_; refine takeF 2 (some 26) ?_; refine takeF 3 (some 27) ?_; refine takeF 4 (some 28) ?_; refine takeF 5 (some 29) ?_
  refine wpAnyH_ready (rs := [6]) (by kernel_rfl) (by simp) ?_
  refine AllReadyH.cons (o := _) rfl (fun K hK => ?_) AllReadyH.nil
  go_simp
  refine hK.out _ _ (show S8 w1.heap.size w2.heap.size u1 u3 x y u2 u4 x2 y2 _ by (repeat' (first | with_reducible refine S8.drew ?_ | with_reducible refine S8.set ?_ ?_ ?_ _ _ | with_reducible exact HS0.out | omega))) (fun hHeld => ?_)
  clear hK K
  refine wpAnyH_ready (rs := [7]) (by kernel_rfl) (by simp) ?_
  refine AllReadyH.cons (o := _) rfl (fun K hK => ?_) AllReadyH.nil
  go_simp
  refine hK.out _ _ (show S8 w1.heap.size w2.heap.size u1 u3 x y u2 u4 x2 y2 _ by (repeat' (first | with_reducible refine S8.drew ?_ | with_reducible refine S8.set ?_ ?_ ?_ _ _ | with_reducible exact HS0.out | omega))) (fun hHeld => ?_)
  clear hK K
  refine takeF 8 (some 7) ?_
  refine wpAnyH_done (by kernel_rfl) ?_ _
  go_wp2
  refine bodyPost_ret (v := .tuple #[.agg #[.int .i64 u1, .int .i64 u3, .bool x, .bool y], .agg #[.int .i64 u2, .int .i64 u4, .bool x2, .bool y2], .bool (g2)]) (by simp [results, Tryz.results71, go_sem, *]) rfl ⟨by simp, ?_⟩
  repeat' (first | with_reducible (first | exact Below.refl _ _ | refine Below.setCell ?_ ?_ _ | refine Below.alloc ?_ ?_ _ | refine below_drewN ?_ _ | refine Below.drew ?_ | refine Below.trans ?_ (Below.mono (by assumption) ?_) | exact Nat.le_refl _ | refine Nat.le_trans ?_ (Below.size (by assumption)) | refine zzA ?_ | refine zzB ?_ | refine zzC ?_ | refine zzD ?_) | (simp; done) | (simp; omega) | omega)
  exact HBr.out
end Go.Proofs.YtfpmmckpobpokaaGreat
