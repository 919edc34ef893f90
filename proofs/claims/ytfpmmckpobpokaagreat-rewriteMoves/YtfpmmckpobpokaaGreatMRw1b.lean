/-
  What an edit does with a range: the contract of the closure.
-/
import Derived.Test.YtfpmmckpobpokaaGreatMRw1
import Derived.Test.YtfpmmckpobpokaaGreatMVVal3
set_option maxRecDepth 100000
set_option maxHeartbeats 4000000
namespace Go.Proofs.YtfpmmckpobpokaaGreat
open Go.RowKit
theorem CelAt.four (w : World) (r c : Int) (x y : Bool) (r' c' : Int) (x' y' : Bool) (t : TypeId) : CelAt ((((w.alloc (.cells #[.int .i64 r, .int .i64 c, .bool x, .bool y] t)).alloc (.cells #[.int .i64 r', .int .i64 c', .bool x', .bool y'] t)).alloc (.cells #[.int .i64 0, .int .i64 0, .bool false, .bool false] t)).alloc (.cells #[.int .i64 0, .int .i64 0, .bool false, .bool false] t)) w.heap.size r c x y ∧ CelAt ((((w.alloc (.cells #[.int .i64 r, .int .i64 c, .bool x, .bool y] t)).alloc (.cells #[.int .i64 r', .int .i64 c', .bool x', .bool y'] t)).alloc (.cells #[.int .i64 0, .int .i64 0, .bool false, .bool false] t)).alloc (.cells #[.int .i64 0, .int .i64 0, .bool false, .bool false] t)) (w.heap.size + 1) r' c' x' y' ∧ CelAt ((((w.alloc (.cells #[.int .i64 r, .int .i64 c, .bool x, .bool y] t)).alloc (.cells #[.int .i64 r', .int .i64 c', .bool x', .bool y'] t)).alloc (.cells #[.int .i64 0, .int .i64 0, .bool false, .bool false] t)).alloc (.cells #[.int .i64 0, .int .i64 0, .bool false, .bool false] t)) (w.heap.size + 1 + 1) 0 0 false false ∧ CelAt ((((w.alloc (.cells #[.int .i64 r, .int .i64 c, .bool x, .bool y] t)).alloc (.cells #[.int .i64 r', .int .i64 c', .bool x', .bool y'] t)).alloc (.cells #[.int .i64 0, .int .i64 0, .bool false, .bool false] t)).alloc (.cells #[.int .i64 0, .int .i64 0, .bool false, .bool false] t)) (w.heap.size + 1 + 1 + 1) 0 0 false false := by
 obtain ⟨p, q⟩ := CelAt.two w r c x y r' c' x' y' t t
 have h := CelAt.two ((w.alloc (.cells #[.int .i64 r, .int .i64 c, .bool x, .bool y] t)).alloc (.cells #[.int .i64 r', .int .i64 c', .bool x', .bool y'] t)) 0 0 false false 0 0 false false t t
 exact ⟨(p.alloc _).alloc _, (q.alloc _).alloc _, by simpa using h.1, by simpa using h.2⟩
def S8 (b0 b1 : Nat) (u1 u3 : Int) (x y : Bool) (u2 u4 : Int) (x2 y2 : Bool) (W : World) : Prop := (W.cell? ⟨b0, 0, none⟩ = some (.int .i64 u1) ∧ W.cell? ⟨b0, 1, none⟩ = some (.int .i64 u3) ∧ W.cell? ⟨b0, 2, none⟩ = some (.bool x) ∧ W.cell? ⟨b0, 3, none⟩ = some (.bool y)) ∧ W.cell? ⟨b1, 0, none⟩ = some (.int .i64 u2) ∧ W.cell? ⟨b1, 1, none⟩ = some (.int .i64 u4) ∧ W.cell? ⟨b1, 2, none⟩ = some (.bool x2) ∧ W.cell? ⟨b1, 3, none⟩ = some (.bool y2)
theorem S8.drew {b0 b1 : Nat} {u1 u3 : Int} {x y : Bool} {u2 u4 : Int} {x2 y2 : Bool} {W : World} (h : S8 b0 b1 u1 u3 x y u2 u4 x2 y2 W) : S8 b0 b1 u1 u3 x y u2 u4 x2 y2 W.drew := h
theorem S8.set {b0 b1 : Nat} {u1 u3 : Int} {x y : Bool} {u2 u4 : Int} {x2 y2 : Bool} {W : World} (h : S8 b0 b1 u1 u3 x y u2 u4 x2 y2 W) {b : Nat} (h0 : b0 ≠ b) (h1 : b1 ≠ b) (j : Nat) (v : Value) : S8 b0 b1 u1 u3 x y u2 u4 x2 y2 (W.setCell ⟨b, j, none⟩ v) := by
 have q : ∀ (b' i : Nat), b' ≠ b → (W.setCell ⟨b, j, none⟩ v).cell? ⟨b', i, none⟩ = W.cell? ⟨b', i, none⟩ := fun b' i hb => World.cell?_setCell_other _ _ _ _ (by intro e; have := congrArg Addr.block e; simp at this; omega)
 obtain ⟨⟨a1, a2, a3, a4⟩, a5, a6, a7, a8⟩ := h
 exact ⟨⟨by rw [q b0 0 h0]; exact a1, by rw [q b0 1 h0]; exact a2, by rw [q b0 2 h0]; exact a3, by rw [q b0 3 h0]; exact a4⟩, by rw [q b1 0 h1]; exact a5, by rw [q b1 1 h1]; exact a6, by rw [q b1 2 h1]; exact a7, by rw [q b1 3 h1]; exact a8⟩
theorem S8.of {b0 b1 : Nat} {u1 u3 : Int} {x y : Bool} {u2 u4 : Int} {x2 y2 : Bool} {W : World} (h : CelAt W b0 u1 u3 x y) (k : CelAt W b1 u2 u4 x2 y2) : S8 b0 b1 u1 u3 x y u2 u4 x2 y2 W := ⟨h.2.1, k.2.1⟩
theorem CelAt.set {w : World} {b : Nat} {r c : Int} {x y : Bool} (h : CelAt w b r c x y) {b' : Nat} (hb : b ≠ b') (j : Nat) (v : Value) : CelAt (w.setCell ⟨b', j, none⟩ v) b r c x y := by
 have q : ∀ (i : Nat), (w.setCell ⟨b', j, none⟩ v).cell? ⟨b, i, none⟩ = w.cell? ⟨b, i, none⟩ := fun i => World.cell?_setCell_other _ _ _ _ (by intro e; have := congrArg Addr.block e; simp at this; omega)
 obtain ⟨h0, ⟨h1, h2, h3, h4⟩, h5, h6, h7, h8⟩ := h
 refine ⟨by simpa using h0, ⟨by rw [q]; exact h1, by rw [q]; exact h2, by rw [q]; exact h3, by rw [q]; exact h4⟩, ?_, ?_, ?_, ?_⟩ <;> rw [World.frozen?_setCell] <;> assumption
theorem CelAt.row {w : World} {b : Nat} {r c : Int} {x y : Bool} (h : CelAt w b r c x y) (r' : Int) : CelAt (w.setCell ⟨b, 0, none⟩ (.int .i64 r')) b r' c x y := by
 have q : ∀ (i : Nat), i ≠ 0 → (w.setCell ⟨b, 0, none⟩ (.int .i64 r')).cell? ⟨b, i, none⟩ = w.cell? ⟨b, i, none⟩ := fun i hi => World.cell?_setCell_other _ _ _ _ (by intro e; have := congrArg Addr.off e; simp at this; omega)
 obtain ⟨h0, ⟨h1, h2, h3, h4⟩, h5, h6, h7, h8⟩ := h
 refine ⟨by simpa using h0, ⟨World.cell?_setCell_same _ _ _ h1, by rw [q _ (by omega)]; exact h2, by rw [q _ (by omega)]; exact h3, by rw [q _ (by omega)]; exact h4⟩, ?_, ?_, ?_, ?_⟩ <;> rw [World.frozen?_setCell] <;> assumption
theorem CelAt.col {w : World} {b : Nat} {r c : Int} {x y : Bool} (h : CelAt w b r c x y) (c' : Int) : CelAt (w.setCell ⟨b, 1, none⟩ (.int .i64 c')) b r c' x y := by
 have q : ∀ (i : Nat), i ≠ 1 → (w.setCell ⟨b, 1, none⟩ (.int .i64 c')).cell? ⟨b, i, none⟩ = w.cell? ⟨b, i, none⟩ := fun i hi => World.cell?_setCell_other _ _ _ _ (by intro e; have := congrArg Addr.off e; simp at this; omega)
 obtain ⟨h0, ⟨h1, h2, h3, h4⟩, h5, h6, h7, h8⟩ := h
 refine ⟨by simpa using h0, ⟨by rw [q _ (by omega)]; exact h1, World.cell?_setCell_same _ _ _ h2, by rw [q _ (by omega)]; exact h3, by rw [q _ (by omega)]; exact h4⟩, ?_, ?_, ?_, ?_⟩ <;> rw [World.frozen?_setCell] <;> assumption
def spanR (k a n r c r2 c2 : Int) : Int × Int × Int × Int × Bool :=
 let o := Pla.ofR r c r2 c2
 let R := Pla.rectR k a n o.1 o.2.1 o.2.2.1 o.2.2.2.1
 (if r ≤ r2 then R.1 else R.2.2.1, if c ≤ c2 then R.2.1 else R.2.2.2.1, if r ≤ r2 then R.2.2.1 else R.1, if c ≤ c2 then R.2.2.2.1 else R.2.1, R.2.2.2.2.1)
theorem mspan_any (k a n r c r2 c2 : Int) (x y x2 y2 : Bool) (be : Nat) (w : World) (h : Pla.At3 w be k a n) :
  Calls Tryz.prog 63 #[.agg #[.int .i64 r, .int .i64 c, .bool x, .bool y], .agg #[.int .i64 r2, .int .i64 c2, .bool x2, .bool y2], .pointer (some ⟨be, 0, none⟩)] w fun e w' => e = .returned (.tuple #[.agg #[.int .i64 (spanR k a n r c r2 c2).1, .int .i64 (spanR k a n r c r2 c2).2.1, .bool x, .bool y], .agg #[.int .i64 (spanR k a n r c r2 c2).2.2.1, .int .i64 (spanR k a n r c r2 c2).2.2.2.1, .bool x2, .bool y2], .bool (spanR k a n r c r2 c2).2.2.2.2]) ∧ Below w.heap.size w w' := by
 have HO : Hid (∀ W : World, Calls Tryz.prog 40 #[.agg #[.int .i64 r, .int .i64 c], .agg #[.int .i64 r2, .int .i64 c2]] W fun e w' => e = .returned (.tuple #[.agg #[.int .i64 (Pla.ofR r c r2 c2).1, .int .i64 (Pla.ofR r c r2 c2).2.1, .int .i64 (Pla.ofR r c r2 c2).2.2.1, .int .i64 (Pla.ofR r c r2 c2).2.2.2.1], .int .i64 (Pla.ofR r c r2 c2).2.2.2.2]) ∧ Below W.heap.size W w') := fun W => Pla.of_any r c r2 c2 W
 unfold spanR
 generalize Pla.ofR r c r2 c2 = o at *
 obtain ⟨o1, o2, o3, o4, o5⟩ := o
 dsimp only at HO ⊢
 have HR : Hid (∀ W : World, Calls Tryz.prog 64 #[.agg #[.int .i64 k, .int .i64 a, .int .i64 n], .agg #[.int .i64 o1, .int .i64 o2, .int .i64 o3, .int .i64 o4]] W fun e w' => e = .returned (.tuple #[.agg #[.int .i64 (Pla.rectR k a n o1 o2 o3 o4).1, .int .i64 (Pla.rectR k a n o1 o2 o3 o4).2.1, .int .i64 (Pla.rectR k a n o1 o2 o3 o4).2.2.1, .int .i64 (Pla.rectR k a n o1 o2 o3 o4).2.2.2.1], .bool (Pla.rectR k a n o1 o2 o3 o4).2.2.2.2.1, .int .i64 (Pla.rectR k a n o1 o2 o3 o4).2.2.2.2.2]) ∧ Below W.heap.size W w') := fun W => Pla.rect_any k a n o1 o2 o3 o4 W
 generalize Pla.rectR k a n o1 o2 o3 o4 = R at *
 obtain ⟨q1, q2, q3, q4, q5, q6⟩ := R
 dsimp only at HR ⊢
 have H1 : Hid (∀ W : World, Calls Tryz.prog 65 #[.int .i64 r, .int .i64 r2, .int .i64 q1, .int .i64 q3] W fun e w' => e = .returned (.tuple #[.int .i64 (if r ≤ r2 then q1 else q3), .int .i64 (if r ≤ r2 then q3 else q1)]) ∧ w' = W) := fun W => ordered_any _ _ _ _ W
 have H2 : Hid (∀ W : World, Calls Tryz.prog 65 #[.int .i64 c, .int .i64 c2, .int .i64 q2, .int .i64 q4] W fun e w' => e = .returned (.tuple #[.int .i64 (if c ≤ c2 then q2 else q4), .int .i64 (if c ≤ c2 then q4 else q2)]) ∧ w' = W) := fun W => ordered_any _ _ _ _ W
 generalize (if r ≤ r2 then q1 else q3) = u1 at *
 generalize (if r ≤ r2 then q3 else q1) = u2 at *
 generalize (if c ≤ c2 then q2 else q4) = u3 at *
 generalize (if c ≤ c2 then q4 else q2) = u4 at *
 obtain ⟨e1, e2, e3, e4⟩ := h
 have HC := hide (CelAt.four w r c x y r2 c2 x2 y2 30)
 have HB := hide (((((Below.refl _ w).alloc (Nat.le_refl _) (.cells #[.int .i64 r, .int .i64 c, .bool x, .bool y] 30)).alloc (by simp) (.cells #[.int .i64 r2, .int .i64 c2, .bool x2, .bool y2] 30)).alloc (by simp; omega) (.cells #[.int .i64 0, .int .i64 0, .bool false, .bool false] 30)).alloc (by simp; omega) (.cells #[.int .i64 0, .int .i64 0, .bool false, .bool false] 30))
 have HE := hide (show Pla.At3 w be k a n from ⟨e1, e2, e3, e4⟩)
 clear e1 e2 e3 e4
 go_enter Tryz.func63, Tryz.ntmps63
 go_wp2_with (first | (go_at_call 40; refine (HO.out _).mono ?_; rintro e w1 ⟨rfl, hb1⟩; have HC1 := hide (HC.out.1.below hb1); have HC2 := hide (HC.out.2.1.below hb1); have HC3 := hide (HC.out.2.2.1.below hb1); have HC4 := hide (HC.out.2.2.2.below hb1); have HB1 := hide (HB.out.trans (hb1.mono HB.out.size)); have ⟨e1, e2, e3, e4⟩ := HE.out.below HB1.out; clear hb1 HC HB) | (go_at_call 64; refine (HR.out _).mono ?_; rintro e w2 ⟨rfl, hb2⟩; have HD1 := hide ((HC1.out.alloc _).below hb2); have ⟨f10, ⟨f11, f12, f13, f14⟩, f15, f16, f17, f18⟩ := HD1.out; have HD2 := hide ((HC2.out.alloc _).below hb2); have ⟨f20, ⟨f21, f22, f23, f24⟩, f25, f26, f27, f28⟩ := HD2.out; have HD3 := hide ((HC3.out.alloc _).below hb2); have HD4 := hide ((HC4.out.alloc _).below hb2); have HB2 := hide ((HB1.out.alloc HB1.out.size _).trans (hb2.mono (HB1.out.alloc HB1.out.size _).size)); clear hb2 HC1 HC2 HC3 HC4 HB1 e1 e2 e3 e4) | (go_at_call_of 65 [Value.int .i64 r, Value.int .i64 r2, Value.int .i64 q1, Value.int .i64 q3]; refine (H1.out _).mono ?_; rintro e wz ⟨rfl, hz⟩; subst wz) | (go_at_call_of 65 [Value.int .i64 c, Value.int .i64 c2, Value.int .i64 q2, Value.int .i64 q4]; refine (H2.out _).mono ?_; rintro e wz ⟨rfl, hz⟩; subst wz))
 obtain ⟨wr, hwr⟩ : ∃ wr : World, wr = (((((w2.setCell ⟨w.heap.size, 0, none⟩ (.int .i64 u1)).setCell ⟨w.heap.size + 1, 0, none⟩ (.int .i64 u2)).setCell ⟨w.heap.size, 1, none⟩ (.int .i64 u3)).setCell ⟨w.heap.size + 1, 1, none⟩ (.int .i64 u4)).alloc (.cells #[.int .i64 q1, .int .i64 q2, .int .i64 q3, .int .i64 q4] 62)) := ⟨_, rfl⟩
 rw [← hwr]
 have n1 : w.heap.size ≠ w.heap.size + 1 := by omega
 have E1 : Hid (CelAt wr w.heap.size u1 u3 x y) := by rw [hwr]; exact ((((HD1.out.row u1).set n1 _ _).col u3).set n1 _ _).alloc _
 have E2 : Hid (CelAt wr (w.heap.size + 1) u2 u4 x2 y2) := by rw [hwr]; exact ((((HD2.out.set n1.symm _ _).row u2).set n1.symm _ _).col u4).alloc _
 have E3 : Hid (CelAt wr (w.heap.size + 1 + 1) 0 0 false false) := by rw [hwr]; exact ((((HD3.out.set (by omega) _ _).set (by omega) _ _).set (by omega) _ _).set (by omega) _ _).alloc _
 have E4 : Hid (CelAt wr (w.heap.size + 1 + 1 + 1) 0 0 false false) := by rw [hwr]; exact ((((HD4.out.set (by omega) _ _).set (by omega) _ _).set (by omega) _ _).set (by omega) _ _).alloc _
 have HBr : Hid (Below w.heap.size w wr) := by rw [hwr]; exact (((((HB2.out.setCell (Nat.le_refl _) _).setCell (by simp) _).setCell (Nat.le_refl _) _).setCell (by simp) _).alloc (by simp; exact HB2.out.size) _)
 clear hwr HB2 HD1 HD2 HD3 HD4 f10 f11 f12 f13 f14 f15 f16 f17 f18 f20 f21 f22 f23 f24 f25 f26 f27 f28
 obtain ⟨k10, ⟨k11, k12, k13, k14⟩, k15, k16, k17, k18⟩ := E3.out
 obtain ⟨k20, ⟨k21, k22, k23, k24⟩, k25, k26, k27, k28⟩ := E4.out
 have HS0 := hide (S8.of E1.out E2.out)
 refine wp_region_held_drew (S := fun W => (W.cell? ⟨w.heap.size, 0, none⟩ = some (.int .i64 u1) ∧ W.cell? ⟨w.heap.size, 1, none⟩ = some (.int .i64 u3) ∧ W.cell? ⟨w.heap.size, 2, none⟩ = some (.bool x) ∧ W.cell? ⟨w.heap.size, 3, none⟩ = some (.bool y)) ∧ W.cell? ⟨w.heap.size + 1, 0, none⟩ = some (.int .i64 u2) ∧ W.cell? ⟨w.heap.size + 1, 1, none⟩ = some (.int .i64 u4) ∧ W.cell? ⟨w.heap.size + 1, 2, none⟩ = some (.bool x2) ∧ W.cell? ⟨w.heap.size + 1, 3, none⟩ = some (.bool y2)) (by kernel_rfl) HS0.out (fun hHeld => ?_)
 refine takeF 0 (some 64) ?_; refine takeF 1 (some 65) ?_; refine takeF 2 (some 66) ?_
 refine wpAnyH_ready (rs := [3]) (by kernel_rfl) (by simp) ?_
 refine AllReadyH.cons (o := _) rfl (fun K hK => ?_) AllReadyH.nil
 go_simp
 refine hK.out _ _ (show S8 w.heap.size (w.heap.size + 1) u1 u3 x y u2 u4 x2 y2 _ by (repeat' (first | with_reducible refine S8.drew ?_ | with_reducible refine S8.set ?_ ?_ ?_ _ _ | with_reducible exact HS0.out | omega))) (fun hHeld => ?_)
 clear hK K
 refine wpAnyH_ready (rs := [4]) (by kernel_rfl) (by simp) ?_
 refine AllReadyH.cons (o := _) rfl (fun K hK => ?_) AllReadyH.nil
 go_simp
 refine hK.out _ _ (show S8 w.heap.size (w.heap.size + 1) u1 u3 x y u2 u4 x2 y2 _ by (repeat' (first | with_reducible refine S8.drew ?_ | with_reducible refine S8.set ?_ ?_ ?_ _ _ | with_reducible exact HS0.out | omega))) (fun hHeld => ?_)
 clear hK K
 refine takeF 5 (some 7) ?_
 refine wpAnyH_done (by kernel_rfl) ?_ _
 go_wp2
 refine bodyPost_ret (v := .tuple #[.agg #[.int .i64 u1, .int .i64 u3, .bool x, .bool y], .agg #[.int .i64 u2, .int .i64 u4, .bool x2, .bool y2], .bool q5]) (by simp [results, Tryz.results63, go_sem, *]) rfl ⟨rfl, ?_⟩
 repeat' (first | with_reducible (first | exact Below.refl _ _ | refine Below.setCell ?_ ?_ _ | refine Below.alloc ?_ ?_ _ | refine below_drewN ?_ _ | refine Below.drew ?_ | refine Below.trans ?_ (Below.mono (by assumption) ?_) | exact Nat.le_refl _ | refine Nat.le_trans ?_ (Below.size (by assumption)) | refine zzA ?_ | refine zzB ?_ | refine zzC ?_ | refine zzD ?_) | (simp; done) | (simp; omega) | omega)
 exact HBr.out
end Go.Proofs.YtfpmmckpobpokaaGreat
