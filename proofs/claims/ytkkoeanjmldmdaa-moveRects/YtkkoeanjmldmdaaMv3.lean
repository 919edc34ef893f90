/-
  The contracts of move's carry, together, left. What a call that writes one cell leaves as it was.
-/
import Derived.Test.YtkkoeanjmldmdaaMv2
namespace Go.Proofs.Ytkkoeanjmldmdaa
open Go.RowKit

theorem Has2.set {w : World} {b : Nat} {x y : Int} (h : Has2 w b x y) (u v : Int) : Has2 ((w.setCell ⟨b, 0, none⟩ (.int .i64 u)).setCell ⟨b, 1, none⟩ (.int .i64 v)) b u v := by
  obtain ⟨⟨l, c, d⟩, f, g⟩ := h
  have e1 : (w.setCell ⟨b, 0, none⟩ (.int .i64 u)).cell? ⟨b, 0, none⟩ = some (.int .i64 u) := World.cell?_setCell_same _ _ _ c
  have e2 : (w.setCell ⟨b, 0, none⟩ (.int .i64 u)).cell? ⟨b, 1, none⟩ = some (.int .i64 y) := by
    rw [World.cell?_setCell_other (h := show (⟨b, 0, none⟩ : Addr) ≠ ⟨b, 1, none⟩ from fun e => absurd (congrArg Addr.off e) (by decide : (0 : Nat) ≠ 1))]; exact d
  refine ⟨⟨by simpa using l, ?_, World.cell?_setCell_same _ _ _ e2⟩, by simpa using f, by simpa using g⟩
  rw [World.cell?_setCell_other (h := show (⟨b, 1, none⟩ : Addr) ≠ ⟨b, 0, none⟩ from fun e => absurd (congrArg Addr.off e) (by decide : (1 : Nat) ≠ 0))]; exact e1
/-- A post that holds at the code's plain end alone. -/
def Norm (R : Act → World → Prop) : Exit → Act → World → Prop
  | .normal, a, w => R a w
  | _, _, _ => False
theorem wp_cut {P : Program} {c : Code} {Q : Exit → Act → World → Prop} {R : Act → World → Prop} {a : Act} {w : World} (hr : c.wp P (Norm R) a w) (hk : ∀ a w, R a w → Q .normal a w) : c.wp P Q a w :=
  Code.wp_mono (fun e a w h => by cases e <;> first | exact hk a w h | exact (h : False).elim) hr
theorem wp_cutT {P : Program} {c : Code} {Q : Exit → Act → World → Prop} {T : Nat → Act} {F : Nat → World → Prop} {a : Act} {w : World} (hr : c.wp P (Norm fun a' w' => ∃ k, a' = T k ∧ F k w') a w) (hk : ∀ k w', F k w' → Q .normal (T k) w') : c.wp P Q a w :=
  wp_cut hr fun a w ⟨k, e, f⟩ => by rw [e]; exact hk k w f
/-- One cell of the block b was written, no other one. -/
structure Put (W : World) (b i : Nat) (v : Value) (w' : World) : Prop where
  below : Below b W w'
  cell : w'.cell? ⟨b, i, none⟩ = some v
  other : ∀ q : Addr, q.block < W.heap.size → q ≠ ⟨b, i, none⟩ → w'.cell? q = W.cell? q
  frozen : ∀ q : Addr, q.block < W.heap.size → w'.frozen? q = W.frozen? q
theorem Put.low {W w' : World} {b i : Nat} {v : Value} (h : W.cell? ⟨b, i, none⟩ = some v) (hb : b < W.heap.size) (k : Below W.heap.size W w') : Put W b i v w' :=
  ⟨k.mono (Nat.le_of_lt hb), by rw [k.cell (p := ⟨b, i, none⟩) hb]; exact h, fun q hq _ => k.cell hq, fun q hq => k.frozen hq⟩
theorem Put.high {W w' : World} {b i : Nat} {u : Value} (h : W.cell? ⟨b, i, none⟩ = some u) (hb : b < W.heap.size) (k : Below W.heap.size W w') (v : Value) : Put W b i v (w'.setCell ⟨b, i, none⟩ v) := by
  refine ⟨Below.setCell (k.mono (Nat.le_of_lt hb)) (Nat.le_refl _) _, ?_, ?_, ?_⟩
  · exact World.cell?_setCell_same _ _ _ (u := u) (by rw [k.cell (p := ⟨b, i, none⟩) hb]; exact h)
  · intro q hq hn
    rw [World.cell?_setCell_other _ _ _ _ (fun e => hn e.symm)]; exact k.cell hq
  · intro q hq
    rw [World.frozen?_setCell]; exact k.frozen hq
theorem Put.then {W w1 w' : World} {b i : Nat} {v : Value} (k : Put W b i v w1) (hb : b < W.heap.size) (m : Below w1.heap.size w1 w') : Put W b i v w' :=
  have z := k.below.size
  ⟨k.below.trans (m.mono (by omega)), by rw [m.cell (p := ⟨b, i, none⟩) (show b < _ by omega)]; exact k.cell, fun q hq hn => by rw [m.cell (by omega)]; exact k.other q hq hn, fun q hq => by rw [m.frozen (by omega)]; exact k.frozen q hq⟩
theorem Put.at3 {W w' : World} {b i c : Nat} {v : Value} {x y u : Int} (k : Put W b i v w') (hc : c ≠ b) (h : At3 W c x y u) : At3 w' c x y u :=
  ⟨Nat.lt_of_lt_of_le h.1 k.below.size, by rw [k.other _ h.1 (fun e => hc (congrArg Addr.block e))]; exact h.2.1, by rw [k.other _ h.1 (fun e => hc (congrArg Addr.block e))]; exact h.2.2.1, by rw [k.other _ h.1 (fun e => hc (congrArg Addr.block e))]; exact h.2.2.2⟩
theorem Put.at4 {W w' : World} {b i c : Nat} {v : Value} {x y u z : Int} (k : Put W b i v w') (hc : c ≠ b) (h : At4 W c x y u z) : At4 w' c x y u z :=
  ⟨Nat.lt_of_lt_of_le h.1 k.below.size, by rw [k.other _ h.1 (fun e => hc (congrArg Addr.block e))]; exact h.2.1, by rw [k.other _ h.1 (fun e => hc (congrArg Addr.block e))]; exact h.2.2.1, by rw [k.other _ h.1 (fun e => hc (congrArg Addr.block e))]; exact h.2.2.2.1, by rw [k.other _ h.1 (fun e => hc (congrArg Addr.block e))]; exact h.2.2.2.2⟩
theorem Put.has4 {W w' : World} {b i c : Nat} {v : Value} {x y u z : Int} (k : Put W b i v w') (hc : c ≠ b) (h : Has4 W c x y u z) : Has4 w' c x y u z :=
  ⟨k.at4 hc h.1, by rw [k.frozen ⟨c, 0, none⟩ h.1.1]; exact h.2.1, by rw [k.frozen ⟨c, 1, none⟩ h.1.1]; exact h.2.2.1, by rw [k.frozen ⟨c, 2, none⟩ h.1.1]; exact h.2.2.2.1, by rw [k.frozen ⟨c, 3, none⟩ h.1.1]; exact h.2.2.2.2⟩
theorem Put.has2 {W w' : World} {b i c : Nat} {v : Value} {x y : Int} (k : Put W b i v w') (hc : c ≠ b) (h : Has2 W c x y) : Has2 w' c x y :=
  ⟨⟨Nat.lt_of_lt_of_le h.1.1 k.below.size, by rw [k.other _ h.1.1 (fun e => hc (congrArg Addr.block e))]; exact h.1.2.1, by rw [k.other _ h.1.1 (fun e => hc (congrArg Addr.block e))]; exact h.1.2.2⟩, by rw [k.frozen ⟨c, 0, none⟩ h.1.1]; exact h.2.1, by rw [k.frozen ⟨c, 1, none⟩ h.1.1]; exact h.2.2⟩
theorem Put.first {W w' : World} {b : Nat} {x y v : Int} (k : Put W b 0 (.int .i64 v) w') (h : Has2 W b x y) : Has2 w' b v y :=
  ⟨⟨Nat.lt_of_lt_of_le h.1.1 k.below.size, k.cell, by rw [k.other ⟨b, 1, none⟩ h.1.1 (fun e => by have := congrArg Addr.off e; cases this)]; exact h.1.2.2⟩, by rw [k.frozen ⟨b, 0, none⟩ h.1.1]; exact h.2.1, by rw [k.frozen ⟨b, 1, none⟩ h.1.1]; exact h.2.2⟩
theorem Put.second {W w' : World} {b : Nat} {x y v : Int} (k : Put W b 1 (.int .i64 v) w') (h : Has2 W b x y) : Has2 w' b x v :=
  ⟨⟨Nat.lt_of_lt_of_le h.1.1 k.below.size, by rw [k.other ⟨b, 0, none⟩ h.1.1 (fun e => by have := congrArg Addr.off e; cases this)]; exact h.1.2.1, k.cell⟩, by rw [k.frozen ⟨b, 0, none⟩ h.1.1]; exact h.2.1, by rw [k.frozen ⟨b, 1, none⟩ h.1.1]; exact h.2.2⟩

set_option maxHeartbeats 1000000 in
theorem carry_any {k a n x : Int} (hx : -4611686018427387904 ≤ x + n ∧ x + n ≤ 4611686018427387904 ∧ -4611686018427387904 ≤ x - n ∧ x - n ≤ 4611686018427387904) (b i : Nat) (w : World) (hb : b < w.heap.size) (hc : w.cell? ⟨b, i, none⟩ = some (.int .i64 x)) (hz : w.frozen? ⟨b, i, none⟩ = false) :
    Calls Try.prog 27 #[.agg #[.int .i64 k, .int .i64 a, .int .i64 n], .pointer (some ⟨b, i, none⟩)] w fun e w' => e = .returned (.tuple #[]) ∧ Put w b i (.int .i64 (carryR k a n x)) w' := by
  have HI : Hid (∀ W : World, Calls Try.prog 41 #[.int .i64 k] W fun e w' => e = .returned (.bool (insB k)) ∧ w' = W) := fun W => inserts_any k W
  have u1 : IntKind.i64.wrap (x + n) = x + n := wrapI (by omega) (by omega)
  have u2 : IntKind.i64.wrap (x - n) = x - n := wrapI (by omega) (by omega)
  clear hx
  have hk : Below w.heap.size w (w.alloc (.cells #[.int .i64 k, .int .i64 a, .int .i64 n] 24)) := (Below.refl _ _).alloc (Nat.le_refl _) _
  have hc1 : (w.alloc (.cells #[.int .i64 k, .int .i64 a, .int .i64 n] 24)).cell? ⟨b, i, none⟩ = some (.int .i64 x) := by rw [hk.cell (p := ⟨b, i, none⟩) hb]; exact hc
  have hz1 : (w.alloc (.cells #[.int .i64 k, .int .i64 a, .int .i64 n] 24)).frozen? ⟨b, i, none⟩ = false := by rw [hk.frozen (p := ⟨b, i, none⟩) hb]; exact hz
  by_cases h : x < a
  · rw [carry_low h]
    go_enter Try.func27, Try.ntmps27
    go_wp2
    go_region_held3 (fun w' => w'.cell? ⟨b, i, none⟩ = some (.int .i64 x) ∧ w'.cell? ⟨w.heap.size, 0, none⟩ = some (.int .i64 k) ∧ w'.cell? ⟨w.heap.size, 1, none⟩ = some (.int .i64 a) ∧ w'.cell? ⟨w.heap.size, 2, none⟩ = some (.int .i64 n)) (go_keep) (fail)
    go_wp2_with (go_at_call 41; refine (HI.out _).mono ?_; rintro e w' ⟨rfl, rfl⟩)
    refine bodyPost_end (v := .tuple #[]) (by simp [results, Try.results27, go_sem]) rfl ⟨rfl, Put.low hc hb ?_⟩
    repeat' (first | with_reducible exact Below.refl _ _ | with_reducible refine Below.setCell ?_ ?_ _ | with_reducible refine Below.alloc ?_ ?_ _ | with_reducible refine below_drewN ?_ _ | with_reducible refine Below.drew ?_ | with_reducible refine Below.trans ?_ (Below.mono (by assumption) ?_) | with_reducible exact Nat.le_refl _ | with_reducible refine Nat.le_trans ?_ (Below.size (by assumption)) | with_reducible refine Nat.le_trans ?_ (size_alloc _ _) | with_reducible refine Nat.le_trans ?_ (size_set _ _ _) | with_reducible refine Nat.le_trans ?_ (size_drewN _ _) | with_reducible refine Nat.le_trans ?_ (size_drew _) | (simp; done) | (simp; omega) | omega)
  · cases hi : insB k
    · rw [carry_del h hi]
      rw [hi] at HI
      clear hi
      go_enter Try.func27, Try.ntmps27
      go_wp2
      go_region_held3 (fun w' => w'.cell? ⟨b, i, none⟩ = some (.int .i64 x) ∧ w'.cell? ⟨w.heap.size, 0, none⟩ = some (.int .i64 k) ∧ w'.cell? ⟨w.heap.size, 1, none⟩ = some (.int .i64 a) ∧ w'.cell? ⟨w.heap.size, 2, none⟩ = some (.int .i64 n)) (go_keep) (fail)
      go_wp2_with (go_at_call 41; refine (HI.out _).mono ?_; rintro e w' ⟨rfl, rfl⟩)
      go_region
      all_goals go_wp2
      all_goals refine bodyPost_end (v := .tuple #[]) (by simp [results, Try.results27, go_sem]) rfl ⟨rfl, (Put.high hc hb (Below.refl _ _) _).then hb ?_⟩
      all_goals repeat' (first | with_reducible exact Below.refl _ _ | with_reducible refine Below.setCell ?_ ?_ _ | with_reducible refine Below.alloc ?_ ?_ _ | with_reducible refine below_drewN ?_ _ | with_reducible refine Below.drew ?_ | with_reducible refine Below.trans ?_ (Below.mono (by assumption) ?_) | with_reducible exact Nat.le_refl _ | with_reducible refine Nat.le_trans ?_ (Below.size (by assumption)) | with_reducible refine Nat.le_trans ?_ (size_alloc _ _) | with_reducible refine Nat.le_trans ?_ (size_set _ _ _) | with_reducible refine Nat.le_trans ?_ (size_drewN _ _) | with_reducible refine Nat.le_trans ?_ (size_drew _) | (simp; done) | (simp; omega) | omega)
    · rw [carry_ins h hi]
      rw [hi] at HI
      clear hi
      go_enter Try.func27, Try.ntmps27
      go_wp2
      go_region_held3 (fun w' => w'.cell? ⟨b, i, none⟩ = some (.int .i64 x) ∧ w'.cell? ⟨w.heap.size, 0, none⟩ = some (.int .i64 k) ∧ w'.cell? ⟨w.heap.size, 1, none⟩ = some (.int .i64 a) ∧ w'.cell? ⟨w.heap.size, 2, none⟩ = some (.int .i64 n)) (go_keep) (fail)
      go_wp2_with (go_at_call 41; refine (HI.out _).mono ?_; rintro e w' ⟨rfl, rfl⟩)
      go_region
      all_goals go_wp2
      all_goals refine bodyPost_end (v := .tuple #[]) (by simp [results, Try.results27, go_sem]) rfl ⟨rfl, (Put.high hc hb (Below.refl _ _) _).then hb ?_⟩
      all_goals repeat' (first | with_reducible exact Below.refl _ _ | with_reducible refine Below.setCell ?_ ?_ _ | with_reducible refine Below.alloc ?_ ?_ _ | with_reducible refine below_drewN ?_ _ | with_reducible refine Below.drew ?_ | with_reducible refine Below.trans ?_ (Below.mono (by assumption) ?_) | with_reducible exact Nat.le_refl _ | with_reducible refine Nat.le_trans ?_ (Below.size (by assumption)) | with_reducible refine Nat.le_trans ?_ (size_alloc _ _) | with_reducible refine Nat.le_trans ?_ (size_set _ _ _) | with_reducible refine Nat.le_trans ?_ (size_drewN _ _) | with_reducible refine Nat.le_trans ?_ (size_drew _) | (simp; done) | (simp; omega) | omega)
set_option maxHeartbeats 1000000 in
theorem together_any (f l f' l' : Int) (w : World) :
    Calls Try.prog 38 #[.agg #[.int .i64 f, .int .i64 l], .agg #[.int .i64 f', .int .i64 l']] w fun e w' => e = .returned (.agg #[.int .i64 (ordF (max f f') (min l l')), .int .i64 (ordL (max f f') (min l l'))]) ∧ Below w.heap.size w w' := by
  have HO : Hid (∀ W : World, Calls Try.prog 43 #[.int .i64 (max f f'), .int .i64 (min l l')] W fun e w' => e = .returned (.agg #[.int .i64 (ordF (max f f') (min l l')), .int .i64 (ordL (max f f') (min l l'))]) ∧ Below W.heap.size W w') := fun W => inOrder_any _ _ W
  generalize ordF (max f f') (min l l') = F at *
  generalize ordL (max f f') (min l l') = L at *
  go_enter Try.func38, Try.ntmps38
  go_wp2_with (go_at_call 43; refine (HO.out _).mono ?_; rintro e w1 ⟨rfl, hb1⟩; have ⟨⟨z2, j0, j1⟩, f0, f1⟩ : Has2 w1 (w.heap.size + 1 + 1) 0 0 := Has2.below (by refine ⟨⟨?_, ?_, ?_⟩, ?_, ?_⟩ <;> simp [go_sem]) hb1)
  refine bodyPost_ret (v := .agg #[.int .i64 F, .int .i64 L]) (by simp [results, Try.results38, go_sem, *]) rfl ⟨rfl, ?_⟩
  repeat' (first | with_reducible exact Below.refl _ _ | with_reducible refine Below.setCell ?_ ?_ _ | with_reducible refine Below.alloc ?_ ?_ _ | with_reducible refine below_drewN ?_ _ | with_reducible refine Below.drew ?_ | with_reducible refine Below.trans ?_ (Below.mono (by assumption) ?_) | with_reducible exact Nat.le_refl _ | with_reducible refine Nat.le_trans ?_ (Below.size (by assumption)) | with_reducible refine Nat.le_trans ?_ (size_alloc _ _) | with_reducible refine Nat.le_trans ?_ (size_set _ _ _) | with_reducible refine Nat.le_trans ?_ (size_drewN _ _) | with_reducible refine Nat.le_trans ?_ (size_drew _) | (simp; done) | (simp; omega) | omega)
set_option maxHeartbeats 1000000 in
theorem left_any {k a n : Int} (h : editB k a n = true) (f l : Int) (w : World) :
    Calls Try.prog 35 #[.agg #[.int .i64 f, .int .i64 l], .agg #[.int .i64 (lostF k a n), .int .i64 (lostL k a n)]] w fun e w' => e = .returned (.agg #[.int .i64 (ordF (leftF k a n f) (leftL k a n l)), .int .i64 (ordL (leftF k a n f) (leftL k a n l))]) ∧ Below w.heap.size w w' := by
  have HO : Hid (∀ W : World, Calls Try.prog 43 #[.int .i64 (leftF k a n f), .int .i64 (leftL k a n l)] W fun e w' => e = .returned (.agg #[.int .i64 (ordF (leftF k a n f) (leftL k a n l)), .int .i64 (ordL (leftF k a n f) (leftL k a n l))]) ∧ Below W.heap.size W w') := fun W => inOrder_any _ _ W
  generalize ordF (leftF k a n f) (leftL k a n l) = F at *
  generalize ordL (leftF k a n f) (leftL k a n l) = L at *
  have ord := lost_ord h
  have ht := topE_le k
  have H1 : Hid (∀ W : World, Calls Try.prog 25 #[.agg #[.int .i64 (lostF k a n), .int .i64 (lostL k a n)], .int .i64 f] W fun e w' => e = .returned (.bool (takenB k a n f)) ∧ w' = W.alloc (.cells #[.int .i64 (lostF k a n), .int .i64 (lostL k a n)] 63)) := fun W => has_some _ _ f (by omega) W
  have H2 : Hid (∀ W : World, Calls Try.prog 25 #[.agg #[.int .i64 (lostF k a n), .int .i64 (lostL k a n)], .int .i64 l] W fun e w' => e = .returned (.bool (takenB k a n l)) ∧ w' = W.alloc (.cells #[.int .i64 (lostF k a n), .int .i64 (lostL k a n)] 63)) := fun W => has_some _ _ l (by omega) W
  have u1 : IntKind.i64.wrap (lostL k a n + 1) = lostL k a n + 1 := wrapI (by omega) (by omega)
  have u2 : IntKind.i64.wrap (lostF k a n - 1) = lostF k a n - 1 := wrapI (by omega) (by omega)
  clear ord ht
  cases h1 : takenB k a n f
  all_goals
    cases h2 : takenB k a n l
    all_goals
      first | rw [leftF_yes h1] at HO | rw [leftF_no h1] at HO
      first | rw [leftL_yes h2] at HO | rw [leftL_no h2] at HO
      rw [h1] at H1
      rw [h2] at H2
      generalize lostF k a n = A at *
      generalize lostL k a n = B at *
      clear h h1 h2
      go_enter Try.func35, Try.ntmps35
      go_wp2_with (first | (go_at_call_of 25 [Value.agg #[Value.int IntKind.i64 A, Value.int IntKind.i64 B], Value.int IntKind.i64 f]; refine (H1.out _).mono ?_; rintro e w' ⟨rfl, rfl⟩) | (go_at_call_of 25 [Value.agg #[Value.int IntKind.i64 A, Value.int IntKind.i64 B], Value.int IntKind.i64 l]; refine (H2.out _).mono ?_; rintro e w' ⟨rfl, rfl⟩) | (go_at_call 43; refine (HO.out _).mono ?_; rintro e w1 ⟨rfl, hb1⟩; have ⟨⟨z2, j0, j1⟩, f0, f1⟩ : Has2 w1 (w.heap.size + 1 + 1) 0 0 := Has2.below (by refine ⟨⟨?_, ?_, ?_⟩, ?_, ?_⟩ <;> simp [go_sem]) hb1))
      refine bodyPost_ret (v := .agg #[.int .i64 F, .int .i64 L]) (by simp [results, Try.results35, go_sem, *]) rfl ⟨rfl, ?_⟩
      repeat' (first | with_reducible exact Below.refl _ _ | with_reducible refine Below.setCell ?_ ?_ _ | with_reducible refine Below.alloc ?_ ?_ _ | with_reducible refine below_drewN ?_ _ | with_reducible refine Below.drew ?_ | with_reducible refine Below.trans ?_ (Below.mono (by assumption) ?_) | with_reducible exact Nat.le_refl _ | with_reducible refine Nat.le_trans ?_ (Below.size (by assumption)) | with_reducible refine Nat.le_trans ?_ (size_alloc _ _) | with_reducible refine Nat.le_trans ?_ (size_set _ _ _) | with_reducible refine Nat.le_trans ?_ (size_drewN _ _) | with_reducible refine Nat.le_trans ?_ (size_drew _) | (simp; done) | (simp; omega) | omega)
end Go.Proofs.Ytkkoeanjmldmdaa
