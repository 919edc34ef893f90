/-
  Out of Region, Val3a, Val3, what is asked for (laid by pack9.py).
-/
import Derived.Test.YtfpmmckpobpokaaGreatMVVal
import Derived.Deep.RegionHeld3
set_option maxRecDepth 100000
set_option maxHeartbeats 4000000
namespace Go.Proofs.YtfpmmckpobpokaaGreat
section
open Go.RowKit
theorem takeD {P : Program} {md : Region.Mode} {ops : Array Oper} {Q : Exit → Act → World → Prop} {S : World → Prop} {i : Nat} (d : Option Tmp) {oi : Oper} {v : Value} {fuel : Nat} {listed : Array Bool} {a : Act} {w : World} (hi : ops[i]? = some oi) (hd : oi.dst = d)
  (hs : Region.noSelect ops = true) (hf : Region.free md ops listed i = true) (hr : (Region.ready md ops listed).contains i = true)
  (hQ : ∀ c a w, Q (.panic c) (a.put d v) w → Q (.panic c) a w) (hw : Region.wanted oi (yielded ops a.tmps) = true) (hy : ∀ w, S w → (execOp a.eval oi).run P w = .ok (.value v) w) (hS : S w)
  (h : wpAnyH P md ops Q S fuel (listed.setIfInBounds i true) (a.put d v) w) : wpAnyH P md ops Q S (fuel + 1) listed a w := by
 subst hd; exact wpAnyH_take hi hs hf hr hQ (.inl ⟨hw, hy⟩) hS h
theorem skipD {P : Program} {md : Region.Mode} {ops : Array Oper} {Q : Exit → Act → World → Prop} {S : World → Prop} {i : Nat} (d : Option Tmp) {oi : Oper} {fuel : Nat} {listed : Array Bool} {a : Act} {w : World} (hi : ops[i]? = some oi) (hd : oi.dst = d)
  (hs : Region.noSelect ops = true) (hf : Region.free md ops listed i = true) (hr : (Region.ready md ops listed).contains i = true)
  (hQ : ∀ c a w, Q (.panic c) (a.put d undef) w → Q (.panic c) a w) (hw : Region.wanted oi (yielded ops a.tmps) = false) (hS : S w)
  (h : wpAnyH P md ops Q S fuel (listed.setIfInBounds i true) (a.put d undef) w) : wpAnyH P md ops Q S (fuel + 1) listed a w := by
 subst hd; exact wpAnyH_take hi hs hf hr hQ (.inr ⟨hw, rfl⟩) hS h
theorem pA {α : Type} (l : List α) (i : Nat) (a : α) : l.toArray.setIfInBounds i a = (l.set i a).toArray := by simp
theorem pB {α : Type} (x y : α) (l : List α) : (x :: l).set 0 y = y :: l := rfl
theorem pC {α : Type} (x y : α) (l : List α) (n : Nat) : (x :: l).set (n + 1) y = x :: l.set n y := rfl
theorem takeE {P : Program} {md : Region.Mode} {ops : Array Oper} {Q : Exit → Act → World → Prop} {S : World → Prop} {i : Nat} (d : Option Tmp) {oi : Oper} {v : Value} {fuel : Nat} {listed : Array Bool} {a : Act} {w : World} (hi : ops[i]? = some oi) (hd : oi.dst = d)
 (hb : (Region.noSelect ops && (Region.free md ops listed i && (Region.ready md ops listed).contains i)) = true) (hw : Region.wanted oi (yielded ops a.tmps) = true) (hy : ∀ w, S w → (execOp a.eval oi).run P w = .ok (.value v) w) (hS : S w)
 (h : wpAnyH P md ops Q S fuel (listed.setIfInBounds i true) (a.put d v) w) (hQ : ∀ c a w, Q (.panic c) (a.put d v) w → Q (.panic c) a w := by exact fun _ _ _ h => h) : wpAnyH P md ops Q S (fuel + 1) listed a w := by
 simp only [Bool.and_eq_true] at hb
 exact takeD d hi hd hb.1 hb.2.1 hb.2.2 hQ hw hy hS h
theorem takeF {P : Program} {md : Region.Mode} {ops : Array Oper} {Q : Exit → Act → World → Prop} {S : World → Prop} (i : Nat) (d : Option Tmp) {oi : Oper} {v : Value} {fuel : Nat} {listed : Array Bool} {a a' : Act} {w : World} (h : wpAnyH P md ops Q S fuel (listed.setIfInBounds i true) a' w)
 (hi : ops[i]? = some oi := by rfl) (hd : oi.dst = d := by rfl)
 (hb : (Region.noSelect ops && (Region.free md ops listed i && (Region.ready md ops listed).contains i)) = true := by kernel_rfl) (hw : Region.wanted oi (yielded ops a.tmps) = true := by rfl) (hy : ∀ w, S w → (execOp a.eval oi).run P w = .ok (.value v) w := by (intro w hSw; (try dsimp only at hSw); first | (go_simp; done) | (go_simp; with_reducible rfl)))
 (ha : a.put d v = a' := by ((try simp only [Act.put, pA, pB, pC]); rfl)) (hS : S w := by assumption) (hQ : ∀ c a w, Q (.panic c) (a.put d v) w → Q (.panic c) a w := by exact fun _ _ _ h => h) : wpAnyH P md ops Q S (fuel + 1) listed a w :=
 takeE d hi hd hb hw hy hS (ha ▸ h) hQ
theorem skipE {P : Program} {md : Region.Mode} {ops : Array Oper} {Q : Exit → Act → World → Prop} {S : World → Prop} {i : Nat} (d : Option Tmp) {oi : Oper} {fuel : Nat} {listed : Array Bool} {a : Act} {w : World} (hi : ops[i]? = some oi) (hd : oi.dst = d)
 (hb : (Region.noSelect ops && (Region.free md ops listed i && (Region.ready md ops listed).contains i)) = true) (hw : Region.wanted oi (yielded ops a.tmps) = false) (hS : S w)
 (h : wpAnyH P md ops Q S fuel (listed.setIfInBounds i true) (a.put d undef) w) (hQ : ∀ c a w, Q (.panic c) (a.put d undef) w → Q (.panic c) a w := by exact fun _ _ _ h => h) : wpAnyH P md ops Q S (fuel + 1) listed a w := by
 simp only [Bool.and_eq_true] at hb
 exact skipD d hi hd hb.1 hb.2.1 hb.2.2 hQ hw hS h
end
section
open Go.RowKit
theorem BoxS.below {W w' w'' : World} {p : Nat} {k n : Int} {s : ByteArray} {b : Bool} {c : Int}
  (h : w'.cell? ⟨p, 0, none⟩ = some (.int .i64 k) ∧ w'.cell? ⟨p, 1, none⟩ = some (.int .i64 n) ∧ w'.cell? ⟨p, 2, none⟩ = some (.string s) ∧ w'.cell? ⟨p, 3, none⟩ = some (.bool b) ∧ w'.cell? ⟨p, 4, none⟩ = some (.int .i64 c) ∧ p < w'.heap.size ∧ Below W.heap.size W w')
  (q : Below w'.heap.size w' w'') :
  w''.cell? ⟨p, 0, none⟩ = some (.int .i64 k) ∧ w''.cell? ⟨p, 1, none⟩ = some (.int .i64 n) ∧ w''.cell? ⟨p, 2, none⟩ = some (.string s) ∧ w''.cell? ⟨p, 3, none⟩ = some (.bool b) ∧ w''.cell? ⟨p, 4, none⟩ = some (.int .i64 c) ∧ p < w''.heap.size ∧ Below W.heap.size W w'' := by
 obtain ⟨h0, h1, h2, h3, h4, l, hb⟩ := h
 exact ⟨by rw [q.cell (p := ⟨p, 0, none⟩) l]; exact h0, by rw [q.cell (p := ⟨p, 1, none⟩) l]; exact h1, by rw [q.cell (p := ⟨p, 2, none⟩) l]; exact h2, by rw [q.cell (p := ⟨p, 3, none⟩) l]; exact h3, by rw [q.cell (p := ⟨p, 4, none⟩) l]; exact h4, Nat.lt_of_lt_of_le l q.size, hb.trans (q.mono hb.size)⟩
theorem BoxS.drew {W w' : World} {p : Nat} {k n : Int} {s : ByteArray} {b : Bool} {c : Int}
  (h : w'.cell? ⟨p, 0, none⟩ = some (.int .i64 k) ∧ w'.cell? ⟨p, 1, none⟩ = some (.int .i64 n) ∧ w'.cell? ⟨p, 2, none⟩ = some (.string s) ∧ w'.cell? ⟨p, 3, none⟩ = some (.bool b) ∧ w'.cell? ⟨p, 4, none⟩ = some (.int .i64 c) ∧ p < w'.heap.size ∧ Below W.heap.size W w') :
  w'.drew.cell? ⟨p, 0, none⟩ = some (.int .i64 k) ∧ w'.drew.cell? ⟨p, 1, none⟩ = some (.int .i64 n) ∧ w'.drew.cell? ⟨p, 2, none⟩ = some (.string s) ∧ w'.drew.cell? ⟨p, 3, none⟩ = some (.bool b) ∧ w'.drew.cell? ⟨p, 4, none⟩ = some (.int .i64 c) ∧ p < w'.drew.heap.size ∧ Below W.heap.size W w'.drew := by
 obtain ⟨h0, h1, h2, h3, h4, l, hb⟩ := h
 exact ⟨h0, h1, h2, h3, h4, l, hb.drew⟩
theorem BoxS.new (w : World) (k n : Int) (s : ByteArray) (b : Bool) (c : Int) (t : TypeId) :
  (w.alloc (.cells #[.int .i64 k, .int .i64 n, .string s, .bool b, .int .i64 c] t)).cell? ⟨w.heap.size, 0, none⟩ = some (.int .i64 k) ∧ (w.alloc (.cells #[.int .i64 k, .int .i64 n, .string s, .bool b, .int .i64 c] t)).cell? ⟨w.heap.size, 1, none⟩ = some (.int .i64 n) ∧ (w.alloc (.cells #[.int .i64 k, .int .i64 n, .string s, .bool b, .int .i64 c] t)).cell? ⟨w.heap.size, 2, none⟩ = some (.string s) ∧ (w.alloc (.cells #[.int .i64 k, .int .i64 n, .string s, .bool b, .int .i64 c] t)).cell? ⟨w.heap.size, 3, none⟩ = some (.bool b) ∧ (w.alloc (.cells #[.int .i64 k, .int .i64 n, .string s, .bool b, .int .i64 c] t)).cell? ⟨w.heap.size, 4, none⟩ = some (.int .i64 c) ∧ w.heap.size < (w.alloc (.cells #[.int .i64 k, .int .i64 n, .string s, .bool b, .int .i64 c] t)).heap.size ∧ Below w.heap.size w (w.alloc (.cells #[.int .i64 k, .int .i64 n, .string s, .bool b, .int .i64 c] t)) :=
 ⟨by simp [go_sem], by simp [go_sem], by simp [go_sem], by simp [go_sem], by simp [go_sem], by simp, (Below.refl _ _).alloc (Nat.le_refl _) _⟩
theorem BoxS.out {W w' : World} {p : Nat} {k n : Int} {s : ByteArray} {b : Bool} {c : Int}
  (h : w'.cell? ⟨p, 0, none⟩ = some (.int .i64 k) ∧ w'.cell? ⟨p, 1, none⟩ = some (.int .i64 n) ∧ w'.cell? ⟨p, 2, none⟩ = some (.string s) ∧ w'.cell? ⟨p, 3, none⟩ = some (.bool b) ∧ w'.cell? ⟨p, 4, none⟩ = some (.int .i64 c) ∧ p < w'.heap.size ∧ Below W.heap.size W w') : Below W.heap.size W w' := h.2.2.2.2.2.2
set_option linter.unusedSimpArgs false in
theorem right_0 (n : Int) (s : ByteArray) (b : Bool) (c : Int) (w : World) :
  Calls Tryz.prog 140 #[.agg #[.int .i64 0, .int .i64 n, .string s, .bool b, .int .i64 c]] w fun e w' => e = .returned (.bool (rightB 0 n s b c)) ∧ Below w.heap.size w w' := by
 rcases bad_nsbc n s b c with ⟨rfl, rfl, rfl, rfl⟩ | ⟨hn, hn2⟩ | ⟨rfl, hs, hs2⟩ | ⟨rfl, rfl, rfl⟩ | ⟨rfl, rfl, rfl, hc, hc2⟩
 all_goals
  go_enter Tryz.func140, Tryz.ntmps140
  go_wp2
  go_ret
  refine ⟨by simp [rightB, *], ?_⟩
  exact bl
set_option linter.unusedSimpArgs false in
theorem right_1 (n : Int) (s : ByteArray) (b : Bool) (c : Int) (w : World) :
  Calls Tryz.prog 140 #[.agg #[.int .i64 1, .int .i64 n, .string s, .bool b, .int .i64 c]] w fun e w' => e = .returned (.bool (rightB 1 n s b c)) ∧ Below w.heap.size w w' := by
 cases hf : fitsB n
 ·
  rcases bad_sbc s b c with ⟨rfl, rfl, rfl⟩ | ⟨hs, hs2⟩ | ⟨rfl, rfl⟩ | ⟨rfl, rfl, hc, hc2⟩
  ·
   have HE : Hid (rightB 1 n ⟨#[]⟩ false 0 = false) := by show rightB _ _ _ _ _ = _; first | (simp [rightB, *]; done) | (simp [rightB, *]; omega)
   go_enter Tryz.func140, Tryz.ntmps140
   go_wp2
   have HN := hide (BoxS.new w 1 n ⟨#[]⟩ false 0 26)
   go_region_held3 (fun w' => w'.cell? ⟨w.heap.size, 0, none⟩ = some (.int .i64 1) ∧ w'.cell? ⟨w.heap.size, 1, none⟩ = some (.int .i64 n) ∧ w'.cell? ⟨w.heap.size, 2, none⟩ = some (.string ⟨#[]⟩) ∧ w'.cell? ⟨w.heap.size, 3, none⟩ = some (.bool false) ∧ w'.cell? ⟨w.heap.size, 4, none⟩ = some (.int .i64 0) ∧ w.heap.size < w'.heap.size ∧ Below w.heap.size w w') (first | exact HN.out | assumption | exact BoxS.drew (by assumption)) (first | (go_at_call 146; refine (number_any _ _).mono ?_; rintro e w2 ⟨rfl, hb2⟩; have hs2 := BoxS.below (by assumption) hb2) | (go_at_call 147; refine (fits_any _ _).mono ?_; rintro e w3 ⟨rfl, rfl⟩))
   all_goals go_wp2
   all_goals go_ret
   all_goals exact ⟨by rw [HE.out]; rfl, BoxS.out (by assumption)⟩
  ·
   have HE : Hid (rightB 1 n s b c = false) := by show rightB _ _ _ _ _ = _; first | (simp [rightB, *]; done) | (simp [rightB, *]; omega)
   go_enter Tryz.func140, Tryz.ntmps140
   go_wp2
   have HN := hide (BoxS.new w 1 n s b c 26)
   refine wp_region_held_drew (S := fun w' => w'.cell? ⟨w.heap.size, 0, none⟩ = some (.int .i64 1) ∧ w'.cell? ⟨w.heap.size, 1, none⟩ = some (.int .i64 n) ∧ w'.cell? ⟨w.heap.size, 2, none⟩ = some (.string s) ∧ w'.cell? ⟨w.heap.size, 3, none⟩ = some (.bool b) ∧ w'.cell? ⟨w.heap.size, 4, none⟩ = some (.int .i64 c) ∧ w.heap.size < w'.heap.size ∧ Below w.heap.size w w') (by kernel_rfl) (BoxS.drew HN.out) (fun hHeld => ?_)
   refine takeF 0 (some 12) ?_; refine takeF 1 (some 13) ?_; refine takeF 2 (some 14) ?_; (refine wpAnyH_ready (rs := [3]) (by kernel_rfl) (by simp) ?_; refine AllReadyH.cons (o := _) rfl (fun K hK => ?_) AllReadyH.nil; go_simp; (go_at_call 146; refine (number_any _ _).mono ?_; rintro e w2 ⟨rfl, hb2⟩; have hs2 := BoxS.below hHeld hb2); refine hK.out _ _ hs2 (fun hHeld => ?_); clear hK K; try simp only [Act.put, pA, pB, pC]); refine takeF 4 (some 16) ?_; refine takeF 5 (some 17) ?_; (refine skipE (i := 6) (some 18) rfl rfl (by kernel_rfl) rfl (by assumption) ?_; try simp only [Act.put, pA, pB, pC]); (refine skipE (i := 7) (some 19) rfl rfl (by kernel_rfl) rfl (by assumption) ?_; try simp only [Act.put, pA, pB, pC]); (refine skipE (i := 8) (some 20) rfl rfl (by kernel_rfl) rfl (by assumption) ?_; try simp only [Act.put, pA, pB, pC]); refine takeF 9 (some 21) ?_; refine takeF 10 (some 2) ?_; refine wpAnyH_done (by kernel_rfl) ?_ _
   go_wp2
   go_ret
   exact ⟨by rw [HE.out]; rfl, BoxS.out (by assumption)⟩
  ·
   have HE : Hid (rightB 1 n ⟨#[]⟩ true c = false) := by show rightB _ _ _ _ _ = _; first | (simp [rightB, *]; done) | (simp [rightB, *]; omega)
   go_enter Tryz.func140, Tryz.ntmps140
   go_wp2
   have HN := hide (BoxS.new w 1 n ⟨#[]⟩ true c 26)
   refine wp_region_held_drew (S := fun w' => w'.cell? ⟨w.heap.size, 0, none⟩ = some (.int .i64 1) ∧ w'.cell? ⟨w.heap.size, 1, none⟩ = some (.int .i64 n) ∧ w'.cell? ⟨w.heap.size, 2, none⟩ = some (.string ⟨#[]⟩) ∧ w'.cell? ⟨w.heap.size, 3, none⟩ = some (.bool true) ∧ w'.cell? ⟨w.heap.size, 4, none⟩ = some (.int .i64 c) ∧ w.heap.size < w'.heap.size ∧ Below w.heap.size w w') (by kernel_rfl) (BoxS.drew HN.out) (fun hHeld => ?_)
   refine takeF 0 (some 12) ?_; refine takeF 1 (some 13) ?_; refine takeF 2 (some 14) ?_; (refine wpAnyH_ready (rs := [3]) (by kernel_rfl) (by simp) ?_; refine AllReadyH.cons (o := _) rfl (fun K hK => ?_) AllReadyH.nil; go_simp; (go_at_call 146; refine (number_any _ _).mono ?_; rintro e w2 ⟨rfl, hb2⟩; have hs2 := BoxS.below hHeld hb2); refine hK.out _ _ hs2 (fun hHeld => ?_); clear hK K; try simp only [Act.put, pA, pB, pC]); refine takeF 4 (some 16) ?_; refine takeF 5 (some 17) ?_; (refine skipE (i := 6) (some 18) rfl rfl (by kernel_rfl) rfl (by assumption) ?_; try simp only [Act.put, pA, pB, pC]); (refine skipE (i := 7) (some 19) rfl rfl (by kernel_rfl) rfl (by assumption) ?_; try simp only [Act.put, pA, pB, pC]); (refine skipE (i := 8) (some 20) rfl rfl (by kernel_rfl) rfl (by assumption) ?_; try simp only [Act.put, pA, pB, pC]); refine takeF 9 (some 21) ?_; refine takeF 10 (some 2) ?_; refine wpAnyH_done (by kernel_rfl) ?_ _
   go_wp2
   go_ret
   exact ⟨by rw [HE.out]; rfl, BoxS.out (by assumption)⟩
  ·
   have HE : Hid (rightB 1 n ⟨#[]⟩ false c = false) := by show rightB _ _ _ _ _ = _; first | (simp [rightB, *]; done) | (simp [rightB, *]; omega)
   go_enter Tryz.func140, Tryz.ntmps140
   go_wp2
   have HN := hide (BoxS.new w 1 n ⟨#[]⟩ false c 26)
   refine wp_region_held_drew (S := fun w' => w'.cell? ⟨w.heap.size, 0, none⟩ = some (.int .i64 1) ∧ w'.cell? ⟨w.heap.size, 1, none⟩ = some (.int .i64 n) ∧ w'.cell? ⟨w.heap.size, 2, none⟩ = some (.string ⟨#[]⟩) ∧ w'.cell? ⟨w.heap.size, 3, none⟩ = some (.bool false) ∧ w'.cell? ⟨w.heap.size, 4, none⟩ = some (.int .i64 c) ∧ w.heap.size < w'.heap.size ∧ Below w.heap.size w w') (by kernel_rfl) (BoxS.drew HN.out) (fun hHeld => ?_)
   refine takeF 0 (some 12) ?_; refine takeF 1 (some 13) ?_; refine takeF 2 (some 14) ?_; (refine wpAnyH_ready (rs := [3]) (by kernel_rfl) (by simp) ?_; refine AllReadyH.cons (o := _) rfl (fun K hK => ?_) AllReadyH.nil; go_simp; (go_at_call 146; refine (number_any _ _).mono ?_; rintro e w2 ⟨rfl, hb2⟩; have hs2 := BoxS.below hHeld hb2); refine hK.out _ _ hs2 (fun hHeld => ?_); clear hK K; try simp only [Act.put, pA, pB, pC]); refine takeF 4 (some 16) ?_; refine takeF 5 (some 17) ?_; (refine skipE (i := 6) (some 18) rfl rfl (by kernel_rfl) rfl (by assumption) ?_; try simp only [Act.put, pA, pB, pC]); (refine skipE (i := 7) (some 19) rfl rfl (by kernel_rfl) rfl (by assumption) ?_; try simp only [Act.put, pA, pB, pC]); (refine skipE (i := 8) (some 20) rfl rfl (by kernel_rfl) rfl (by assumption) ?_; try simp only [Act.put, pA, pB, pC]); refine takeF 9 (some 21) ?_; refine takeF 10 (some 2) ?_; refine wpAnyH_done (by kernel_rfl) ?_ _
   go_wp2
   go_ret
   exact ⟨by rw [HE.out]; rfl, BoxS.out (by assumption)⟩
 ·
  rcases bad_sbc s b c with ⟨rfl, rfl, rfl⟩ | ⟨hs, hs2⟩ | ⟨rfl, rfl⟩ | ⟨rfl, rfl, hc, hc2⟩
  ·
   have HE : Hid (rightB 1 n ⟨#[]⟩ false 0 = true) := by show rightB _ _ _ _ _ = _; first | (simp [rightB, *]; done) | (simp [rightB, *]; omega)
   go_enter Tryz.func140, Tryz.ntmps140
   go_wp2
   have HN := hide (BoxS.new w 1 n ⟨#[]⟩ false 0 26)
   go_region_held3 (fun w' => w'.cell? ⟨w.heap.size, 0, none⟩ = some (.int .i64 1) ∧ w'.cell? ⟨w.heap.size, 1, none⟩ = some (.int .i64 n) ∧ w'.cell? ⟨w.heap.size, 2, none⟩ = some (.string ⟨#[]⟩) ∧ w'.cell? ⟨w.heap.size, 3, none⟩ = some (.bool false) ∧ w'.cell? ⟨w.heap.size, 4, none⟩ = some (.int .i64 0) ∧ w.heap.size < w'.heap.size ∧ Below w.heap.size w w') (first | exact HN.out | assumption | exact BoxS.drew (by assumption)) (first | (go_at_call 146; refine (number_any _ _).mono ?_; rintro e w2 ⟨rfl, hb2⟩; have hs2 := BoxS.below (by assumption) hb2) | (go_at_call 147; refine (fits_any _ _).mono ?_; rintro e w3 ⟨rfl, rfl⟩))
   all_goals go_wp2
   all_goals go_ret
   all_goals exact ⟨by rw [HE.out]; rfl, BoxS.out (by assumption)⟩
  ·
   have HE : Hid (rightB 1 n s b c = false) := by show rightB _ _ _ _ _ = _; first | (simp [rightB, *]; done) | (simp [rightB, *]; omega)
   go_enter Tryz.func140, Tryz.ntmps140
   go_wp2
   have HN := hide (BoxS.new w 1 n s b c 26)
   refine wp_region_held_drew (S := fun w' => w'.cell? ⟨w.heap.size, 0, none⟩ = some (.int .i64 1) ∧ w'.cell? ⟨w.heap.size, 1, none⟩ = some (.int .i64 n) ∧ w'.cell? ⟨w.heap.size, 2, none⟩ = some (.string s) ∧ w'.cell? ⟨w.heap.size, 3, none⟩ = some (.bool b) ∧ w'.cell? ⟨w.heap.size, 4, none⟩ = some (.int .i64 c) ∧ w.heap.size < w'.heap.size ∧ Below w.heap.size w w') (by kernel_rfl) (BoxS.drew HN.out) (fun hHeld => ?_)
   refine takeF 0 (some 12) ?_; refine takeF 1 (some 13) ?_; refine takeF 2 (some 14) ?_; (refine wpAnyH_ready (rs := [3]) (by kernel_rfl) (by simp) ?_; refine AllReadyH.cons (o := _) rfl (fun K hK => ?_) AllReadyH.nil; go_simp; (go_at_call 146; refine (number_any _ _).mono ?_; rintro e w2 ⟨rfl, hb2⟩; have hs2 := BoxS.below hHeld hb2); refine hK.out _ _ hs2 (fun hHeld => ?_); clear hK K; try simp only [Act.put, pA, pB, pC]); refine takeF 4 (some 16) ?_; refine takeF 5 (some 17) ?_; (refine skipE (i := 6) (some 18) rfl rfl (by kernel_rfl) rfl (by assumption) ?_; try simp only [Act.put, pA, pB, pC]); (refine skipE (i := 7) (some 19) rfl rfl (by kernel_rfl) rfl (by assumption) ?_; try simp only [Act.put, pA, pB, pC]); (refine skipE (i := 8) (some 20) rfl rfl (by kernel_rfl) rfl (by assumption) ?_; try simp only [Act.put, pA, pB, pC]); refine takeF 9 (some 21) ?_; refine takeF 10 (some 2) ?_; refine wpAnyH_done (by kernel_rfl) ?_ _
   go_wp2
   go_ret
   exact ⟨by rw [HE.out]; rfl, BoxS.out (by assumption)⟩
  ·
   have HE : Hid (rightB 1 n ⟨#[]⟩ true c = false) := by show rightB _ _ _ _ _ = _; first | (simp [rightB, *]; done) | (simp [rightB, *]; omega)
   go_enter Tryz.func140, Tryz.ntmps140
   go_wp2
   have HN := hide (BoxS.new w 1 n ⟨#[]⟩ true c 26)
   refine wp_region_held_drew (S := fun w' => w'.cell? ⟨w.heap.size, 0, none⟩ = some (.int .i64 1) ∧ w'.cell? ⟨w.heap.size, 1, none⟩ = some (.int .i64 n) ∧ w'.cell? ⟨w.heap.size, 2, none⟩ = some (.string ⟨#[]⟩) ∧ w'.cell? ⟨w.heap.size, 3, none⟩ = some (.bool true) ∧ w'.cell? ⟨w.heap.size, 4, none⟩ = some (.int .i64 c) ∧ w.heap.size < w'.heap.size ∧ Below w.heap.size w w') (by kernel_rfl) (BoxS.drew HN.out) (fun hHeld => ?_)
   refine takeF 0 (some 12) ?_; refine takeF 1 (some 13) ?_; refine takeF 2 (some 14) ?_; (refine wpAnyH_ready (rs := [3]) (by kernel_rfl) (by simp) ?_; refine AllReadyH.cons (o := _) rfl (fun K hK => ?_) AllReadyH.nil; go_simp; (go_at_call 146; refine (number_any _ _).mono ?_; rintro e w2 ⟨rfl, hb2⟩; have hs2 := BoxS.below hHeld hb2); refine hK.out _ _ hs2 (fun hHeld => ?_); clear hK K; try simp only [Act.put, pA, pB, pC]); refine takeF 4 (some 16) ?_; refine takeF 5 (some 17) ?_; (refine skipE (i := 6) (some 18) rfl rfl (by kernel_rfl) rfl (by assumption) ?_; try simp only [Act.put, pA, pB, pC]); (refine skipE (i := 7) (some 19) rfl rfl (by kernel_rfl) rfl (by assumption) ?_; try simp only [Act.put, pA, pB, pC]); (refine skipE (i := 8) (some 20) rfl rfl (by kernel_rfl) rfl (by assumption) ?_; try simp only [Act.put, pA, pB, pC]); refine takeF 9 (some 21) ?_; refine takeF 10 (some 2) ?_; refine wpAnyH_done (by kernel_rfl) ?_ _
   go_wp2
   go_ret
   exact ⟨by rw [HE.out]; rfl, BoxS.out (by assumption)⟩
  ·
   have HE : Hid (rightB 1 n ⟨#[]⟩ false c = false) := by show rightB _ _ _ _ _ = _; first | (simp [rightB, *]; done) | (simp [rightB, *]; omega)
   go_enter Tryz.func140, Tryz.ntmps140
   go_wp2
   have HN := hide (BoxS.new w 1 n ⟨#[]⟩ false c 26)
   refine wp_region_held_drew (S := fun w' => w'.cell? ⟨w.heap.size, 0, none⟩ = some (.int .i64 1) ∧ w'.cell? ⟨w.heap.size, 1, none⟩ = some (.int .i64 n) ∧ w'.cell? ⟨w.heap.size, 2, none⟩ = some (.string ⟨#[]⟩) ∧ w'.cell? ⟨w.heap.size, 3, none⟩ = some (.bool false) ∧ w'.cell? ⟨w.heap.size, 4, none⟩ = some (.int .i64 c) ∧ w.heap.size < w'.heap.size ∧ Below w.heap.size w w') (by kernel_rfl) (BoxS.drew HN.out) (fun hHeld => ?_)
   refine takeF 0 (some 12) ?_; refine takeF 1 (some 13) ?_; refine takeF 2 (some 14) ?_; (refine wpAnyH_ready (rs := [3]) (by kernel_rfl) (by simp) ?_; refine AllReadyH.cons (o := _) rfl (fun K hK => ?_) AllReadyH.nil; go_simp; (go_at_call 146; refine (number_any _ _).mono ?_; rintro e w2 ⟨rfl, hb2⟩; have hs2 := BoxS.below hHeld hb2); refine hK.out _ _ hs2 (fun hHeld => ?_); clear hK K; try simp only [Act.put, pA, pB, pC]); refine takeF 4 (some 16) ?_; refine takeF 5 (some 17) ?_; (refine skipE (i := 6) (some 18) rfl rfl (by kernel_rfl) rfl (by assumption) ?_; try simp only [Act.put, pA, pB, pC]); (refine skipE (i := 7) (some 19) rfl rfl (by kernel_rfl) rfl (by assumption) ?_; try simp only [Act.put, pA, pB, pC]); (refine skipE (i := 8) (some 20) rfl rfl (by kernel_rfl) rfl (by assumption) ?_; try simp only [Act.put, pA, pB, pC]); refine takeF 9 (some 21) ?_; refine takeF 10 (some 2) ?_; refine wpAnyH_done (by kernel_rfl) ?_ _
   go_wp2
   go_ret
   exact ⟨by rw [HE.out]; rfl, BoxS.out (by assumption)⟩
set_option linter.unusedSimpArgs false in
theorem right_2 (n : Int) (s : ByteArray) (b : Bool) (c : Int) (w : World) (hz : s.size ≤ maxLen) :
  Calls Tryz.prog 140 #[.agg #[.int .i64 2, .int .i64 n, .string s, .bool b, .int .i64 c]] w fun e w' => e = .returned (.bool (rightB 2 n s b c)) ∧ Below w.heap.size w w' := by
 unfold maxLen at hz
 by_cases hl : (s.size : Int) ≤ 255
 ·
  have hl2 : s.size ≤ 255 := by omega
  rcases bad_nbc n b c with ⟨rfl, rfl, rfl⟩ | ⟨hn, hn2⟩ | ⟨rfl, rfl⟩ | ⟨rfl, rfl, hc, hc2⟩
  ·
   have HE : Hid (rightB 2 0 s false 0 = true) := by show rightB _ _ _ _ _ = _; first | (simp [rightB, *]; done) | (simp [rightB, *]; omega)
   go_enter Tryz.func140, Tryz.ntmps140
   go_wp2
   have HN := hide (BoxS.new w 2 0 s false 0 26)
   go_region_held3 (fun w' => w'.cell? ⟨w.heap.size, 0, none⟩ = some (.int .i64 2) ∧ w'.cell? ⟨w.heap.size, 1, none⟩ = some (.int .i64 0) ∧ w'.cell? ⟨w.heap.size, 2, none⟩ = some (.string s) ∧ w'.cell? ⟨w.heap.size, 3, none⟩ = some (.bool false) ∧ w'.cell? ⟨w.heap.size, 4, none⟩ = some (.int .i64 0) ∧ w.heap.size < w'.heap.size ∧ Below w.heap.size w w') (first | exact HN.out | assumption | exact BoxS.drew (by assumption)) (first | (go_at_call 148; refine (text_any _ _).mono ?_; rintro e w2 ⟨rfl, hb2⟩; have hs2 := BoxS.below (by assumption) hb2))
   all_goals go_wp2
   all_goals go_ret
   all_goals exact ⟨by rw [HE.out]; first | rfl | (show Ending.returned (.bool (decide ((s.size : Int) ≤ 255))) = _; rw [decide_eq_false (by omega)]), BoxS.out (by assumption)⟩
  ·
   have HE : Hid (rightB 2 n s b c = false) := by show rightB _ _ _ _ _ = _; first | (simp [rightB, *]; done) | (simp [rightB, *]; omega)
   go_enter Tryz.func140, Tryz.ntmps140
   go_wp2
   have HN := hide (BoxS.new w 2 n s b c 26)
   refine wp_region_held_drew (S := fun w' => w'.cell? ⟨w.heap.size, 0, none⟩ = some (.int .i64 2) ∧ w'.cell? ⟨w.heap.size, 1, none⟩ = some (.int .i64 n) ∧ w'.cell? ⟨w.heap.size, 2, none⟩ = some (.string s) ∧ w'.cell? ⟨w.heap.size, 3, none⟩ = some (.bool b) ∧ w'.cell? ⟨w.heap.size, 4, none⟩ = some (.int .i64 c) ∧ w.heap.size < w'.heap.size ∧ Below w.heap.size w w') (by kernel_rfl) (BoxS.drew HN.out) (fun hHeld => ?_)
   refine takeF 0 (some 24) ?_; refine takeF 1 (some 25) ?_; refine takeF 2 (some 26) ?_; (refine wpAnyH_ready (rs := [3]) (by kernel_rfl) (by simp) ?_; refine AllReadyH.cons (o := _) rfl (fun K hK => ?_) AllReadyH.nil; go_simp; (go_at_call 148; refine (text_any _ _).mono ?_; rintro e w2 ⟨rfl, hb2⟩; have hs2 := BoxS.below hHeld hb2); refine hK.out _ _ hs2 (fun hHeld => ?_); clear hK K; try simp only [Act.put, pA, pB, pC]); refine takeF 4 (some 28) ?_; refine takeF 5 (some 29) ?_; (refine skipE (i := 6) (some 30) rfl rfl (by kernel_rfl) rfl (by assumption) ?_; try simp only [Act.put, pA, pB, pC]); (refine skipE (i := 7) (some 31) rfl rfl (by kernel_rfl) rfl (by assumption) ?_; try simp only [Act.put, pA, pB, pC]); (refine skipE (i := 8) (some 32) rfl rfl (by kernel_rfl) rfl (by assumption) ?_; try simp only [Act.put, pA, pB, pC]); (refine skipE (i := 9) (some 33) rfl rfl (by kernel_rfl) rfl (by assumption) ?_; try simp only [Act.put, pA, pB, pC]); refine takeF 10 (some 34) ?_; refine takeF 11 (some 2) ?_; refine wpAnyH_done (by kernel_rfl) ?_ _
   go_wp2
   go_ret
   exact ⟨by rw [HE.out]; rfl, BoxS.out (by assumption)⟩
  ·
   have HE : Hid (rightB 2 0 s true c = false) := by show rightB _ _ _ _ _ = _; first | (simp [rightB, *]; done) | (simp [rightB, *]; omega)
   go_enter Tryz.func140, Tryz.ntmps140
   go_wp2
   have HN := hide (BoxS.new w 2 0 s true c 26)
   refine wp_region_held_drew (S := fun w' => w'.cell? ⟨w.heap.size, 0, none⟩ = some (.int .i64 2) ∧ w'.cell? ⟨w.heap.size, 1, none⟩ = some (.int .i64 0) ∧ w'.cell? ⟨w.heap.size, 2, none⟩ = some (.string s) ∧ w'.cell? ⟨w.heap.size, 3, none⟩ = some (.bool true) ∧ w'.cell? ⟨w.heap.size, 4, none⟩ = some (.int .i64 c) ∧ w.heap.size < w'.heap.size ∧ Below w.heap.size w w') (by kernel_rfl) (BoxS.drew HN.out) (fun hHeld => ?_)
   refine takeF 0 (some 24) ?_; refine takeF 1 (some 25) ?_; refine takeF 2 (some 26) ?_; (refine wpAnyH_ready (rs := [3]) (by kernel_rfl) (by simp) ?_; refine AllReadyH.cons (o := _) rfl (fun K hK => ?_) AllReadyH.nil; go_simp; (go_at_call 148; refine (text_any _ _).mono ?_; rintro e w2 ⟨rfl, hb2⟩; have hs2 := BoxS.below hHeld hb2); refine hK.out _ _ hs2 (fun hHeld => ?_); clear hK K; try simp only [Act.put, pA, pB, pC]); refine takeF 4 (some 28) ?_; refine takeF 5 (some 29) ?_; (refine skipE (i := 6) (some 30) rfl rfl (by kernel_rfl) rfl (by assumption) ?_; try simp only [Act.put, pA, pB, pC]); (refine skipE (i := 7) (some 31) rfl rfl (by kernel_rfl) rfl (by assumption) ?_; try simp only [Act.put, pA, pB, pC]); (refine skipE (i := 8) (some 32) rfl rfl (by kernel_rfl) rfl (by assumption) ?_; try simp only [Act.put, pA, pB, pC]); (refine skipE (i := 9) (some 33) rfl rfl (by kernel_rfl) rfl (by assumption) ?_; try simp only [Act.put, pA, pB, pC]); refine takeF 10 (some 34) ?_; refine takeF 11 (some 2) ?_; refine wpAnyH_done (by kernel_rfl) ?_ _
   go_wp2
   go_ret
   exact ⟨by rw [HE.out]; rfl, BoxS.out (by assumption)⟩
  ·
   have HE : Hid (rightB 2 0 s false c = false) := by show rightB _ _ _ _ _ = _; first | (simp [rightB, *]; done) | (simp [rightB, *]; omega)
   go_enter Tryz.func140, Tryz.ntmps140
   go_wp2
   have HN := hide (BoxS.new w 2 0 s false c 26)
   refine wp_region_held_drew (S := fun w' => w'.cell? ⟨w.heap.size, 0, none⟩ = some (.int .i64 2) ∧ w'.cell? ⟨w.heap.size, 1, none⟩ = some (.int .i64 0) ∧ w'.cell? ⟨w.heap.size, 2, none⟩ = some (.string s) ∧ w'.cell? ⟨w.heap.size, 3, none⟩ = some (.bool false) ∧ w'.cell? ⟨w.heap.size, 4, none⟩ = some (.int .i64 c) ∧ w.heap.size < w'.heap.size ∧ Below w.heap.size w w') (by kernel_rfl) (BoxS.drew HN.out) (fun hHeld => ?_)
   refine takeF 0 (some 24) ?_; refine takeF 1 (some 25) ?_; refine takeF 2 (some 26) ?_; (refine wpAnyH_ready (rs := [3]) (by kernel_rfl) (by simp) ?_; refine AllReadyH.cons (o := _) rfl (fun K hK => ?_) AllReadyH.nil; go_simp; (go_at_call 148; refine (text_any _ _).mono ?_; rintro e w2 ⟨rfl, hb2⟩; have hs2 := BoxS.below hHeld hb2); refine hK.out _ _ hs2 (fun hHeld => ?_); clear hK K; try simp only [Act.put, pA, pB, pC]); refine takeF 4 (some 28) ?_; refine takeF 5 (some 29) ?_; (refine skipE (i := 6) (some 30) rfl rfl (by kernel_rfl) rfl (by assumption) ?_; try simp only [Act.put, pA, pB, pC]); (refine skipE (i := 7) (some 31) rfl rfl (by kernel_rfl) rfl (by assumption) ?_; try simp only [Act.put, pA, pB, pC]); (refine skipE (i := 8) (some 32) rfl rfl (by kernel_rfl) rfl (by assumption) ?_; try simp only [Act.put, pA, pB, pC]); (refine skipE (i := 9) (some 33) rfl rfl (by kernel_rfl) rfl (by assumption) ?_; try simp only [Act.put, pA, pB, pC]); refine takeF 10 (some 34) ?_; refine takeF 11 (some 2) ?_; refine wpAnyH_done (by kernel_rfl) ?_ _
   go_wp2
   go_ret
   exact ⟨by rw [HE.out]; rfl, BoxS.out (by assumption)⟩
 ·
  have hl2 : ¬ s.size ≤ 255 := by omega
  rcases bad_nbc n b c with ⟨rfl, rfl, rfl⟩ | ⟨hn, hn2⟩ | ⟨rfl, rfl⟩ | ⟨rfl, rfl, hc, hc2⟩
  ·
   have HE : Hid (rightB 2 0 s false 0 = false) := by show rightB _ _ _ _ _ = _; first | (simp [rightB, *]; done) | (simp [rightB, *]; omega)
   go_enter Tryz.func140, Tryz.ntmps140
   go_wp2
   have HN := hide (BoxS.new w 2 0 s false 0 26)
   go_region_held3 (fun w' => w'.cell? ⟨w.heap.size, 0, none⟩ = some (.int .i64 2) ∧ w'.cell? ⟨w.heap.size, 1, none⟩ = some (.int .i64 0) ∧ w'.cell? ⟨w.heap.size, 2, none⟩ = some (.string s) ∧ w'.cell? ⟨w.heap.size, 3, none⟩ = some (.bool false) ∧ w'.cell? ⟨w.heap.size, 4, none⟩ = some (.int .i64 0) ∧ w.heap.size < w'.heap.size ∧ Below w.heap.size w w') (first | exact HN.out | assumption | exact BoxS.drew (by assumption)) (first | (go_at_call 148; refine (text_any _ _).mono ?_; rintro e w2 ⟨rfl, hb2⟩; have hs2 := BoxS.below (by assumption) hb2))
   all_goals go_wp2
   all_goals go_ret
   all_goals exact ⟨by rw [HE.out]; first | rfl | (show Ending.returned (.bool (decide ((s.size : Int) ≤ 255))) = _; rw [decide_eq_false (by omega)]), BoxS.out (by assumption)⟩
  ·
   have HE : Hid (rightB 2 n s b c = false) := by show rightB _ _ _ _ _ = _; first | (simp [rightB, *]; done) | (simp [rightB, *]; omega)
   go_enter Tryz.func140, Tryz.ntmps140
   go_wp2
   have HN := hide (BoxS.new w 2 n s b c 26)
   refine wp_region_held_drew (S := fun w' => w'.cell? ⟨w.heap.size, 0, none⟩ = some (.int .i64 2) ∧ w'.cell? ⟨w.heap.size, 1, none⟩ = some (.int .i64 n) ∧ w'.cell? ⟨w.heap.size, 2, none⟩ = some (.string s) ∧ w'.cell? ⟨w.heap.size, 3, none⟩ = some (.bool b) ∧ w'.cell? ⟨w.heap.size, 4, none⟩ = some (.int .i64 c) ∧ w.heap.size < w'.heap.size ∧ Below w.heap.size w w') (by kernel_rfl) (BoxS.drew HN.out) (fun hHeld => ?_)
   refine takeF 0 (some 24) ?_; refine takeF 1 (some 25) ?_; refine takeF 2 (some 26) ?_; (refine wpAnyH_ready (rs := [3]) (by kernel_rfl) (by simp) ?_; refine AllReadyH.cons (o := _) rfl (fun K hK => ?_) AllReadyH.nil; go_simp; (go_at_call 148; refine (text_any _ _).mono ?_; rintro e w2 ⟨rfl, hb2⟩; have hs2 := BoxS.below hHeld hb2); refine hK.out _ _ hs2 (fun hHeld => ?_); clear hK K; try simp only [Act.put, pA, pB, pC]); refine takeF 4 (some 28) ?_; refine takeF 5 (some 29) ?_; (refine skipE (i := 6) (some 30) rfl rfl (by kernel_rfl) rfl (by assumption) ?_; try simp only [Act.put, pA, pB, pC]); (refine skipE (i := 7) (some 31) rfl rfl (by kernel_rfl) rfl (by assumption) ?_; try simp only [Act.put, pA, pB, pC]); (refine skipE (i := 8) (some 32) rfl rfl (by kernel_rfl) rfl (by assumption) ?_; try simp only [Act.put, pA, pB, pC]); (refine skipE (i := 9) (some 33) rfl rfl (by kernel_rfl) rfl (by assumption) ?_; try simp only [Act.put, pA, pB, pC]); refine takeF 10 (some 34) ?_; refine takeF 11 (some 2) ?_; refine wpAnyH_done (by kernel_rfl) ?_ _
   go_wp2
   go_ret
   exact ⟨by rw [HE.out]; rfl, BoxS.out (by assumption)⟩
  ·
   have HE : Hid (rightB 2 0 s true c = false) := by show rightB _ _ _ _ _ = _; first | (simp [rightB, *]; done) | (simp [rightB, *]; omega)
   go_enter Tryz.func140, Tryz.ntmps140
   go_wp2
   have HN := hide (BoxS.new w 2 0 s true c 26)
   refine wp_region_held_drew (S := fun w' => w'.cell? ⟨w.heap.size, 0, none⟩ = some (.int .i64 2) ∧ w'.cell? ⟨w.heap.size, 1, none⟩ = some (.int .i64 0) ∧ w'.cell? ⟨w.heap.size, 2, none⟩ = some (.string s) ∧ w'.cell? ⟨w.heap.size, 3, none⟩ = some (.bool true) ∧ w'.cell? ⟨w.heap.size, 4, none⟩ = some (.int .i64 c) ∧ w.heap.size < w'.heap.size ∧ Below w.heap.size w w') (by kernel_rfl) (BoxS.drew HN.out) (fun hHeld => ?_)
   refine takeF 0 (some 24) ?_; refine takeF 1 (some 25) ?_; refine takeF 2 (some 26) ?_; (refine wpAnyH_ready (rs := [3]) (by kernel_rfl) (by simp) ?_; refine AllReadyH.cons (o := _) rfl (fun K hK => ?_) AllReadyH.nil; go_simp; (go_at_call 148; refine (text_any _ _).mono ?_; rintro e w2 ⟨rfl, hb2⟩; have hs2 := BoxS.below hHeld hb2); refine hK.out _ _ hs2 (fun hHeld => ?_); clear hK K; try simp only [Act.put, pA, pB, pC]); refine takeF 4 (some 28) ?_; refine takeF 5 (some 29) ?_; (refine skipE (i := 6) (some 30) rfl rfl (by kernel_rfl) rfl (by assumption) ?_; try simp only [Act.put, pA, pB, pC]); (refine skipE (i := 7) (some 31) rfl rfl (by kernel_rfl) rfl (by assumption) ?_; try simp only [Act.put, pA, pB, pC]); (refine skipE (i := 8) (some 32) rfl rfl (by kernel_rfl) rfl (by assumption) ?_; try simp only [Act.put, pA, pB, pC]); (refine skipE (i := 9) (some 33) rfl rfl (by kernel_rfl) rfl (by assumption) ?_; try simp only [Act.put, pA, pB, pC]); refine takeF 10 (some 34) ?_; refine takeF 11 (some 2) ?_; refine wpAnyH_done (by kernel_rfl) ?_ _
   go_wp2
   go_ret
   exact ⟨by rw [HE.out]; rfl, BoxS.out (by assumption)⟩
  ·
   have HE : Hid (rightB 2 0 s false c = false) := by show rightB _ _ _ _ _ = _; first | (simp [rightB, *]; done) | (simp [rightB, *]; omega)
   go_enter Tryz.func140, Tryz.ntmps140
   go_wp2
   have HN := hide (BoxS.new w 2 0 s false c 26)
   refine wp_region_held_drew (S := fun w' => w'.cell? ⟨w.heap.size, 0, none⟩ = some (.int .i64 2) ∧ w'.cell? ⟨w.heap.size, 1, none⟩ = some (.int .i64 0) ∧ w'.cell? ⟨w.heap.size, 2, none⟩ = some (.string s) ∧ w'.cell? ⟨w.heap.size, 3, none⟩ = some (.bool false) ∧ w'.cell? ⟨w.heap.size, 4, none⟩ = some (.int .i64 c) ∧ w.heap.size < w'.heap.size ∧ Below w.heap.size w w') (by kernel_rfl) (BoxS.drew HN.out) (fun hHeld => ?_)
   refine takeF 0 (some 24) ?_; refine takeF 1 (some 25) ?_; refine takeF 2 (some 26) ?_; (refine wpAnyH_ready (rs := [3]) (by kernel_rfl) (by simp) ?_; refine AllReadyH.cons (o := _) rfl (fun K hK => ?_) AllReadyH.nil; go_simp; (go_at_call 148; refine (text_any _ _).mono ?_; rintro e w2 ⟨rfl, hb2⟩; have hs2 := BoxS.below hHeld hb2); refine hK.out _ _ hs2 (fun hHeld => ?_); clear hK K; try simp only [Act.put, pA, pB, pC]); refine takeF 4 (some 28) ?_; refine takeF 5 (some 29) ?_; (refine skipE (i := 6) (some 30) rfl rfl (by kernel_rfl) rfl (by assumption) ?_; try simp only [Act.put, pA, pB, pC]); (refine skipE (i := 7) (some 31) rfl rfl (by kernel_rfl) rfl (by assumption) ?_; try simp only [Act.put, pA, pB, pC]); (refine skipE (i := 8) (some 32) rfl rfl (by kernel_rfl) rfl (by assumption) ?_; try simp only [Act.put, pA, pB, pC]); (refine skipE (i := 9) (some 33) rfl rfl (by kernel_rfl) rfl (by assumption) ?_; try simp only [Act.put, pA, pB, pC]); refine takeF 10 (some 34) ?_; refine takeF 11 (some 2) ?_; refine wpAnyH_done (by kernel_rfl) ?_ _
   go_wp2
   go_ret
   exact ⟨by rw [HE.out]; rfl, BoxS.out (by assumption)⟩
end
section
open Go.RowKit
set_option linter.unusedSimpArgs false in
theorem right_3 (n : Int) (s : ByteArray) (b : Bool) (c : Int) (w : World) :
  Calls Tryz.prog 140 #[.agg #[.int .i64 3, .int .i64 n, .string s, .bool b, .int .i64 c]] w fun e w' => e = .returned (.bool (rightB 3 n s b c)) ∧ Below w.heap.size w w' := by
 rcases bad_nsc n s c with ⟨rfl, rfl, rfl⟩ | ⟨hn, hn2⟩ | ⟨rfl, hs, hs2⟩ | ⟨rfl, rfl, hc, hc2⟩
 ·
  have HE : Hid (rightB 3 0 ⟨#[]⟩ b 0 = true) := by show rightB _ _ _ _ _ = _; first | (simp [rightB, *]; done) | (simp [rightB, *]; omega)
  go_enter Tryz.func140, Tryz.ntmps140
  go_wp2
  have HN := hide (BoxS.new w 3 0 ⟨#[]⟩ b 0 26)
  go_region_held3 (fun w' => w'.cell? ⟨w.heap.size, 0, none⟩ = some (.int .i64 3) ∧ w'.cell? ⟨w.heap.size, 1, none⟩ = some (.int .i64 0) ∧ w'.cell? ⟨w.heap.size, 2, none⟩ = some (.string ⟨#[]⟩) ∧ w'.cell? ⟨w.heap.size, 3, none⟩ = some (.bool b) ∧ w'.cell? ⟨w.heap.size, 4, none⟩ = some (.int .i64 0) ∧ w.heap.size < w'.heap.size ∧ Below w.heap.size w w') (first | exact HN.out | assumption | exact BoxS.drew (by assumption)) (first | (go_at_call 149; refine (truth_any _ _).mono ?_; rintro e w2 ⟨rfl, hb2⟩; have hs2 := BoxS.below (by assumption) hb2))
  all_goals go_wp2
  all_goals go_ret
  all_goals exact ⟨by rw [HE.out]; rfl, BoxS.out (by assumption)⟩
 ·
  have HE : Hid (rightB 3 n s b c = false) := by show rightB _ _ _ _ _ = _; first | (simp [rightB, *]; done) | (simp [rightB, *]; omega)
  go_enter Tryz.func140, Tryz.ntmps140
  go_wp2
  have HN := hide (BoxS.new w 3 n s b c 26)
  go_region_held3 (fun w' => w'.cell? ⟨w.heap.size, 0, none⟩ = some (.int .i64 3) ∧ w'.cell? ⟨w.heap.size, 1, none⟩ = some (.int .i64 n) ∧ w'.cell? ⟨w.heap.size, 2, none⟩ = some (.string s) ∧ w'.cell? ⟨w.heap.size, 3, none⟩ = some (.bool b) ∧ w'.cell? ⟨w.heap.size, 4, none⟩ = some (.int .i64 c) ∧ w.heap.size < w'.heap.size ∧ Below w.heap.size w w') (first | exact HN.out | assumption | exact BoxS.drew (by assumption)) (first | (go_at_call 149; refine (truth_any _ _).mono ?_; rintro e w2 ⟨rfl, hb2⟩; have hs2 := BoxS.below (by assumption) hb2))
  all_goals go_wp2
  all_goals go_ret
  all_goals exact ⟨by rw [HE.out]; rfl, BoxS.out (by assumption)⟩
 ·
  have HE : Hid (rightB 3 0 s b c = false) := by show rightB _ _ _ _ _ = _; first | (simp [rightB, *]; done) | (simp [rightB, *]; omega)
  go_enter Tryz.func140, Tryz.ntmps140
  go_wp2
  have HN := hide (BoxS.new w 3 0 s b c 26)
  go_region_held3 (fun w' => w'.cell? ⟨w.heap.size, 0, none⟩ = some (.int .i64 3) ∧ w'.cell? ⟨w.heap.size, 1, none⟩ = some (.int .i64 0) ∧ w'.cell? ⟨w.heap.size, 2, none⟩ = some (.string s) ∧ w'.cell? ⟨w.heap.size, 3, none⟩ = some (.bool b) ∧ w'.cell? ⟨w.heap.size, 4, none⟩ = some (.int .i64 c) ∧ w.heap.size < w'.heap.size ∧ Below w.heap.size w w') (first | exact HN.out | assumption | exact BoxS.drew (by assumption)) (first | (go_at_call 149; refine (truth_any _ _).mono ?_; rintro e w2 ⟨rfl, hb2⟩; have hs2 := BoxS.below (by assumption) hb2))
  all_goals go_wp2
  all_goals go_ret
  all_goals exact ⟨by rw [HE.out]; rfl, BoxS.out (by assumption)⟩
 ·
  have HE : Hid (rightB 3 0 ⟨#[]⟩ b c = false) := by show rightB _ _ _ _ _ = _; first | (simp [rightB, *]; done) | (simp [rightB, *]; omega)
  go_enter Tryz.func140, Tryz.ntmps140
  go_wp2
  have HN := hide (BoxS.new w 3 0 ⟨#[]⟩ b c 26)
  go_region_held3 (fun w' => w'.cell? ⟨w.heap.size, 0, none⟩ = some (.int .i64 3) ∧ w'.cell? ⟨w.heap.size, 1, none⟩ = some (.int .i64 0) ∧ w'.cell? ⟨w.heap.size, 2, none⟩ = some (.string ⟨#[]⟩) ∧ w'.cell? ⟨w.heap.size, 3, none⟩ = some (.bool b) ∧ w'.cell? ⟨w.heap.size, 4, none⟩ = some (.int .i64 c) ∧ w.heap.size < w'.heap.size ∧ Below w.heap.size w w') (first | exact HN.out | assumption | exact BoxS.drew (by assumption)) (first | (go_at_call 149; refine (truth_any _ _).mono ?_; rintro e w2 ⟨rfl, hb2⟩; have hs2 := BoxS.below (by assumption) hb2))
  all_goals go_wp2
  all_goals go_ret
  all_goals exact ⟨by rw [HE.out]; rfl, BoxS.out (by assumption)⟩
set_option linter.unusedSimpArgs false in
theorem right_4 (n : Int) (s : ByteArray) (b : Bool) (c : Int) (w : World) :
  Calls Tryz.prog 140 #[.agg #[.int .i64 4, .int .i64 n, .string s, .bool b, .int .i64 c]] w fun e w' => e = .returned (.bool (rightB 4 n s b c)) ∧ Below w.heap.size w w' := by
 by_cases h1 : 1 ≤ c
 ·
  by_cases h7 : c ≤ 7
  ·
   rcases bad_nsb n s b with ⟨rfl, rfl, rfl⟩ | ⟨hn, hn2⟩ | ⟨rfl, hs, hs2⟩ | ⟨rfl, rfl, rfl⟩
   ·
    have HE : Hid (rightB 4 0 ⟨#[]⟩ false c = true) := by show rightB _ _ _ _ _ = _; first | (simp [rightB, *]; done) | (simp [rightB, *]; omega)
    go_enter Tryz.func140, Tryz.ntmps140
    go_wp2
    have HN := hide (BoxS.new w 4 0 ⟨#[]⟩ false c 26)
    go_region_held3 (fun w' => w'.cell? ⟨w.heap.size, 0, none⟩ = some (.int .i64 4) ∧ w'.cell? ⟨w.heap.size, 1, none⟩ = some (.int .i64 0) ∧ w'.cell? ⟨w.heap.size, 2, none⟩ = some (.string ⟨#[]⟩) ∧ w'.cell? ⟨w.heap.size, 3, none⟩ = some (.bool false) ∧ w'.cell? ⟨w.heap.size, 4, none⟩ = some (.int .i64 c) ∧ w.heap.size < w'.heap.size ∧ Below w.heap.size w w') (first | exact HN.out | assumption | exact BoxS.drew (by assumption)) (first | (go_at_call 150; refine (fault_any _ _).mono ?_; rintro e w2 ⟨rfl, hb2⟩; have hs2 := BoxS.below (by assumption) hb2))
    all_goals go_wp2
    all_goals go_ret
    all_goals exact ⟨by rw [HE.out]; first | rfl | (show Ending.returned (.bool (decide (c ≤ 7))) = _; rw [decide_eq_false (by omega)]), BoxS.out (by assumption)⟩
   ·
    have HE : Hid (rightB 4 n s b c = false) := by show rightB _ _ _ _ _ = _; first | (simp [rightB, *]; done) | (simp [rightB, *]; omega)
    go_enter Tryz.func140, Tryz.ntmps140
    go_wp2
    have HN := hide (BoxS.new w 4 n s b c 26)
    refine wp_region_held_drew (S := fun w' => w'.cell? ⟨w.heap.size, 0, none⟩ = some (.int .i64 4) ∧ w'.cell? ⟨w.heap.size, 1, none⟩ = some (.int .i64 n) ∧ w'.cell? ⟨w.heap.size, 2, none⟩ = some (.string s) ∧ w'.cell? ⟨w.heap.size, 3, none⟩ = some (.bool b) ∧ w'.cell? ⟨w.heap.size, 4, none⟩ = some (.int .i64 c) ∧ w.heap.size < w'.heap.size ∧ Below w.heap.size w w') (by kernel_rfl) (BoxS.drew HN.out) (fun hHeld => ?_)
    refine takeF 0 (some 44) ?_; refine takeF 1 (some 45) ?_; refine takeF 2 (some 46) ?_; (refine wpAnyH_ready (rs := [3]) (by kernel_rfl) (by simp) ?_; refine AllReadyH.cons (o := _) rfl (fun K hK => ?_) AllReadyH.nil; go_simp; (go_at_call 150; refine (fault_any _ _).mono ?_; rintro e w2 ⟨rfl, hb2⟩; have hs2 := BoxS.below hHeld hb2); refine hK.out _ _ hs2 (fun hHeld => ?_); clear hK K; try simp only [Act.put, pA, pB, pC]); refine takeF 4 (some 48) ?_; refine takeF 5 (some 49) ?_; (refine skipE (i := 6) (some 50) rfl rfl (by kernel_rfl) rfl (by assumption) ?_; try simp only [Act.put, pA, pB, pC]); (refine skipE (i := 7) (some 51) rfl rfl (by kernel_rfl) rfl (by assumption) ?_; try simp only [Act.put, pA, pB, pC]); (refine skipE (i := 8) (some 52) rfl rfl (by kernel_rfl) rfl (by assumption) ?_; try simp only [Act.put, pA, pB, pC]); refine takeF 9 (some 53) ?_; refine takeF 10 (some 54) ?_; (refine skipE (i := 11) (some 55) rfl rfl (by kernel_rfl) rfl (by assumption) ?_; try simp only [Act.put, pA, pB, pC]); (refine skipE (i := 12) (some 56) rfl rfl (by kernel_rfl) rfl (by assumption) ?_; try simp only [Act.put, pA, pB, pC]); (refine skipE (i := 13) (some 57) rfl rfl (by kernel_rfl) rfl (by assumption) ?_; try simp only [Act.put, pA, pB, pC]); refine takeF 14 (some 58) ?_; refine takeF 15 (some 2) ?_; refine wpAnyH_done (by kernel_rfl) ?_ _
    go_wp2
    go_ret
    exact ⟨by rw [HE.out]; rfl, BoxS.out (by assumption)⟩
   ·
    have HE : Hid (rightB 4 0 s b c = false) := by show rightB _ _ _ _ _ = _; first | (simp [rightB, *]; done) | (simp [rightB, *]; omega)
    go_enter Tryz.func140, Tryz.ntmps140
    go_wp2
    have HN := hide (BoxS.new w 4 0 s b c 26)
    refine wp_region_held_drew (S := fun w' => w'.cell? ⟨w.heap.size, 0, none⟩ = some (.int .i64 4) ∧ w'.cell? ⟨w.heap.size, 1, none⟩ = some (.int .i64 0) ∧ w'.cell? ⟨w.heap.size, 2, none⟩ = some (.string s) ∧ w'.cell? ⟨w.heap.size, 3, none⟩ = some (.bool b) ∧ w'.cell? ⟨w.heap.size, 4, none⟩ = some (.int .i64 c) ∧ w.heap.size < w'.heap.size ∧ Below w.heap.size w w') (by kernel_rfl) (BoxS.drew HN.out) (fun hHeld => ?_)
    refine takeF 0 (some 44) ?_; refine takeF 1 (some 45) ?_; refine takeF 2 (some 46) ?_; (refine wpAnyH_ready (rs := [3]) (by kernel_rfl) (by simp) ?_; refine AllReadyH.cons (o := _) rfl (fun K hK => ?_) AllReadyH.nil; go_simp; (go_at_call 150; refine (fault_any _ _).mono ?_; rintro e w2 ⟨rfl, hb2⟩; have hs2 := BoxS.below hHeld hb2); refine hK.out _ _ hs2 (fun hHeld => ?_); clear hK K; try simp only [Act.put, pA, pB, pC]); refine takeF 4 (some 48) ?_; refine takeF 5 (some 49) ?_; (refine skipE (i := 6) (some 50) rfl rfl (by kernel_rfl) rfl (by assumption) ?_; try simp only [Act.put, pA, pB, pC]); (refine skipE (i := 7) (some 51) rfl rfl (by kernel_rfl) rfl (by assumption) ?_; try simp only [Act.put, pA, pB, pC]); (refine skipE (i := 8) (some 52) rfl rfl (by kernel_rfl) rfl (by assumption) ?_; try simp only [Act.put, pA, pB, pC]); refine takeF 9 (some 53) ?_; refine takeF 10 (some 54) ?_; (refine skipE (i := 11) (some 55) rfl rfl (by kernel_rfl) rfl (by assumption) ?_; try simp only [Act.put, pA, pB, pC]); (refine skipE (i := 12) (some 56) rfl rfl (by kernel_rfl) rfl (by assumption) ?_; try simp only [Act.put, pA, pB, pC]); (refine skipE (i := 13) (some 57) rfl rfl (by kernel_rfl) rfl (by assumption) ?_; try simp only [Act.put, pA, pB, pC]); refine takeF 14 (some 58) ?_; refine takeF 15 (some 2) ?_; refine wpAnyH_done (by kernel_rfl) ?_ _
    go_wp2
    go_ret
    exact ⟨by rw [HE.out]; rfl, BoxS.out (by assumption)⟩
   ·
    have HE : Hid (rightB 4 0 ⟨#[]⟩ true c = false) := by show rightB _ _ _ _ _ = _; first | (simp [rightB, *]; done) | (simp [rightB, *]; omega)
    go_enter Tryz.func140, Tryz.ntmps140
    go_wp2
    have HN := hide (BoxS.new w 4 0 ⟨#[]⟩ true c 26)
    refine wp_region_held_drew (S := fun w' => w'.cell? ⟨w.heap.size, 0, none⟩ = some (.int .i64 4) ∧ w'.cell? ⟨w.heap.size, 1, none⟩ = some (.int .i64 0) ∧ w'.cell? ⟨w.heap.size, 2, none⟩ = some (.string ⟨#[]⟩) ∧ w'.cell? ⟨w.heap.size, 3, none⟩ = some (.bool true) ∧ w'.cell? ⟨w.heap.size, 4, none⟩ = some (.int .i64 c) ∧ w.heap.size < w'.heap.size ∧ Below w.heap.size w w') (by kernel_rfl) (BoxS.drew HN.out) (fun hHeld => ?_)
    refine takeF 0 (some 44) ?_; refine takeF 1 (some 45) ?_; refine takeF 2 (some 46) ?_; (refine wpAnyH_ready (rs := [3]) (by kernel_rfl) (by simp) ?_; refine AllReadyH.cons (o := _) rfl (fun K hK => ?_) AllReadyH.nil; go_simp; (go_at_call 150; refine (fault_any _ _).mono ?_; rintro e w2 ⟨rfl, hb2⟩; have hs2 := BoxS.below hHeld hb2); refine hK.out _ _ hs2 (fun hHeld => ?_); clear hK K; try simp only [Act.put, pA, pB, pC]); refine takeF 4 (some 48) ?_; refine takeF 5 (some 49) ?_; (refine skipE (i := 6) (some 50) rfl rfl (by kernel_rfl) rfl (by assumption) ?_; try simp only [Act.put, pA, pB, pC]); (refine skipE (i := 7) (some 51) rfl rfl (by kernel_rfl) rfl (by assumption) ?_; try simp only [Act.put, pA, pB, pC]); (refine skipE (i := 8) (some 52) rfl rfl (by kernel_rfl) rfl (by assumption) ?_; try simp only [Act.put, pA, pB, pC]); refine takeF 9 (some 53) ?_; refine takeF 10 (some 54) ?_; (refine skipE (i := 11) (some 55) rfl rfl (by kernel_rfl) rfl (by assumption) ?_; try simp only [Act.put, pA, pB, pC]); (refine skipE (i := 12) (some 56) rfl rfl (by kernel_rfl) rfl (by assumption) ?_; try simp only [Act.put, pA, pB, pC]); (refine skipE (i := 13) (some 57) rfl rfl (by kernel_rfl) rfl (by assumption) ?_; try simp only [Act.put, pA, pB, pC]); refine takeF 14 (some 58) ?_; refine takeF 15 (some 2) ?_; refine wpAnyH_done (by kernel_rfl) ?_ _
    go_wp2
    go_ret
    exact ⟨by rw [HE.out]; rfl, BoxS.out (by assumption)⟩
  ·
   have hd7 := decide_eq_false h7
   rcases bad_nsb n s b with ⟨rfl, rfl, rfl⟩ | ⟨hn, hn2⟩ | ⟨rfl, hs, hs2⟩ | ⟨rfl, rfl, rfl⟩
   ·
    have HE : Hid (rightB 4 0 ⟨#[]⟩ false c = false) := by show rightB _ _ _ _ _ = _; first | (simp [rightB, *]; done) | (simp [rightB, *]; omega)
    go_enter Tryz.func140, Tryz.ntmps140
    go_wp2
    have HN := hide (BoxS.new w 4 0 ⟨#[]⟩ false c 26)
    go_region_held3 (fun w' => w'.cell? ⟨w.heap.size, 0, none⟩ = some (.int .i64 4) ∧ w'.cell? ⟨w.heap.size, 1, none⟩ = some (.int .i64 0) ∧ w'.cell? ⟨w.heap.size, 2, none⟩ = some (.string ⟨#[]⟩) ∧ w'.cell? ⟨w.heap.size, 3, none⟩ = some (.bool false) ∧ w'.cell? ⟨w.heap.size, 4, none⟩ = some (.int .i64 c) ∧ w.heap.size < w'.heap.size ∧ Below w.heap.size w w') (first | exact HN.out | assumption | exact BoxS.drew (by assumption)) (first | (go_at_call 150; refine (fault_any _ _).mono ?_; rintro e w2 ⟨rfl, hb2⟩; have hs2 := BoxS.below (by assumption) hb2))
    all_goals go_wp2
    all_goals go_ret
    all_goals exact ⟨by rw [HE.out]; first | rfl | (show Ending.returned (.bool (decide (c ≤ 7))) = _; rw [decide_eq_false (by omega)]), BoxS.out (by assumption)⟩
   ·
    have HE : Hid (rightB 4 n s b c = false) := by show rightB _ _ _ _ _ = _; first | (simp [rightB, *]; done) | (simp [rightB, *]; omega)
    go_enter Tryz.func140, Tryz.ntmps140
    go_wp2
    have HN := hide (BoxS.new w 4 n s b c 26)
    refine wp_region_held_drew (S := fun w' => w'.cell? ⟨w.heap.size, 0, none⟩ = some (.int .i64 4) ∧ w'.cell? ⟨w.heap.size, 1, none⟩ = some (.int .i64 n) ∧ w'.cell? ⟨w.heap.size, 2, none⟩ = some (.string s) ∧ w'.cell? ⟨w.heap.size, 3, none⟩ = some (.bool b) ∧ w'.cell? ⟨w.heap.size, 4, none⟩ = some (.int .i64 c) ∧ w.heap.size < w'.heap.size ∧ Below w.heap.size w w') (by kernel_rfl) (BoxS.drew HN.out) (fun hHeld => ?_)
    refine takeF 0 (some 44) ?_; refine takeF 1 (some 45) ?_; refine takeF 2 (some 46) ?_; (refine wpAnyH_ready (rs := [3]) (by kernel_rfl) (by simp) ?_; refine AllReadyH.cons (o := _) rfl (fun K hK => ?_) AllReadyH.nil; go_simp; (go_at_call 150; refine (fault_any _ _).mono ?_; rintro e w2 ⟨rfl, hb2⟩; have hs2 := BoxS.below hHeld hb2); refine hK.out _ _ hs2 (fun hHeld => ?_); clear hK K; try simp only [Act.put, pA, pB, pC]); refine takeF 4 (some 48) ?_; refine takeF 5 (some 49) ?_; (refine skipE (i := 6) (some 50) rfl rfl (by kernel_rfl) rfl (by assumption) ?_; try simp only [Act.put, pA, pB, pC]); (refine skipE (i := 7) (some 51) rfl rfl (by kernel_rfl) rfl (by assumption) ?_; try simp only [Act.put, pA, pB, pC]); (refine skipE (i := 8) (some 52) rfl rfl (by kernel_rfl) rfl (by assumption) ?_; try simp only [Act.put, pA, pB, pC]); refine takeF 9 (some 53) ?_; refine takeF 10 (some 54) ?_; (refine skipE (i := 11) (some 55) rfl rfl (by kernel_rfl) rfl (by assumption) ?_; try simp only [Act.put, pA, pB, pC]); (refine skipE (i := 12) (some 56) rfl rfl (by kernel_rfl) rfl (by assumption) ?_; try simp only [Act.put, pA, pB, pC]); (refine skipE (i := 13) (some 57) rfl rfl (by kernel_rfl) rfl (by assumption) ?_; try simp only [Act.put, pA, pB, pC]); refine takeF 14 (some 58) ?_; refine takeF 15 (some 2) ?_; refine wpAnyH_done (by kernel_rfl) ?_ _
    go_wp2
    go_ret
    exact ⟨by rw [HE.out]; rfl, BoxS.out (by assumption)⟩
   ·
    have HE : Hid (rightB 4 0 s b c = false) := by show rightB _ _ _ _ _ = _; first | (simp [rightB, *]; done) | (simp [rightB, *]; omega)
    go_enter Tryz.func140, Tryz.ntmps140
    go_wp2
    have HN := hide (BoxS.new w 4 0 s b c 26)
    refine wp_region_held_drew (S := fun w' => w'.cell? ⟨w.heap.size, 0, none⟩ = some (.int .i64 4) ∧ w'.cell? ⟨w.heap.size, 1, none⟩ = some (.int .i64 0) ∧ w'.cell? ⟨w.heap.size, 2, none⟩ = some (.string s) ∧ w'.cell? ⟨w.heap.size, 3, none⟩ = some (.bool b) ∧ w'.cell? ⟨w.heap.size, 4, none⟩ = some (.int .i64 c) ∧ w.heap.size < w'.heap.size ∧ Below w.heap.size w w') (by kernel_rfl) (BoxS.drew HN.out) (fun hHeld => ?_)
    refine takeF 0 (some 44) ?_; refine takeF 1 (some 45) ?_; refine takeF 2 (some 46) ?_; (refine wpAnyH_ready (rs := [3]) (by kernel_rfl) (by simp) ?_; refine AllReadyH.cons (o := _) rfl (fun K hK => ?_) AllReadyH.nil; go_simp; (go_at_call 150; refine (fault_any _ _).mono ?_; rintro e w2 ⟨rfl, hb2⟩; have hs2 := BoxS.below hHeld hb2); refine hK.out _ _ hs2 (fun hHeld => ?_); clear hK K; try simp only [Act.put, pA, pB, pC]); refine takeF 4 (some 48) ?_; refine takeF 5 (some 49) ?_; (refine skipE (i := 6) (some 50) rfl rfl (by kernel_rfl) rfl (by assumption) ?_; try simp only [Act.put, pA, pB, pC]); (refine skipE (i := 7) (some 51) rfl rfl (by kernel_rfl) rfl (by assumption) ?_; try simp only [Act.put, pA, pB, pC]); (refine skipE (i := 8) (some 52) rfl rfl (by kernel_rfl) rfl (by assumption) ?_; try simp only [Act.put, pA, pB, pC]); refine takeF 9 (some 53) ?_; refine takeF 10 (some 54) ?_; (refine skipE (i := 11) (some 55) rfl rfl (by kernel_rfl) rfl (by assumption) ?_; try simp only [Act.put, pA, pB, pC]); (refine skipE (i := 12) (some 56) rfl rfl (by kernel_rfl) rfl (by assumption) ?_; try simp only [Act.put, pA, pB, pC]); (refine skipE (i := 13) (some 57) rfl rfl (by kernel_rfl) rfl (by assumption) ?_; try simp only [Act.put, pA, pB, pC]); refine takeF 14 (some 58) ?_; refine takeF 15 (some 2) ?_; refine wpAnyH_done (by kernel_rfl) ?_ _
    go_wp2
    go_ret
    exact ⟨by rw [HE.out]; rfl, BoxS.out (by assumption)⟩
   ·
    have HE : Hid (rightB 4 0 ⟨#[]⟩ true c = false) := by show rightB _ _ _ _ _ = _; first | (simp [rightB, *]; done) | (simp [rightB, *]; omega)
    go_enter Tryz.func140, Tryz.ntmps140
    go_wp2
    have HN := hide (BoxS.new w 4 0 ⟨#[]⟩ true c 26)
    refine wp_region_held_drew (S := fun w' => w'.cell? ⟨w.heap.size, 0, none⟩ = some (.int .i64 4) ∧ w'.cell? ⟨w.heap.size, 1, none⟩ = some (.int .i64 0) ∧ w'.cell? ⟨w.heap.size, 2, none⟩ = some (.string ⟨#[]⟩) ∧ w'.cell? ⟨w.heap.size, 3, none⟩ = some (.bool true) ∧ w'.cell? ⟨w.heap.size, 4, none⟩ = some (.int .i64 c) ∧ w.heap.size < w'.heap.size ∧ Below w.heap.size w w') (by kernel_rfl) (BoxS.drew HN.out) (fun hHeld => ?_)
    refine takeF 0 (some 44) ?_; refine takeF 1 (some 45) ?_; refine takeF 2 (some 46) ?_; (refine wpAnyH_ready (rs := [3]) (by kernel_rfl) (by simp) ?_; refine AllReadyH.cons (o := _) rfl (fun K hK => ?_) AllReadyH.nil; go_simp; (go_at_call 150; refine (fault_any _ _).mono ?_; rintro e w2 ⟨rfl, hb2⟩; have hs2 := BoxS.below hHeld hb2); refine hK.out _ _ hs2 (fun hHeld => ?_); clear hK K; try simp only [Act.put, pA, pB, pC]); refine takeF 4 (some 48) ?_; refine takeF 5 (some 49) ?_; (refine skipE (i := 6) (some 50) rfl rfl (by kernel_rfl) rfl (by assumption) ?_; try simp only [Act.put, pA, pB, pC]); (refine skipE (i := 7) (some 51) rfl rfl (by kernel_rfl) rfl (by assumption) ?_; try simp only [Act.put, pA, pB, pC]); (refine skipE (i := 8) (some 52) rfl rfl (by kernel_rfl) rfl (by assumption) ?_; try simp only [Act.put, pA, pB, pC]); refine takeF 9 (some 53) ?_; refine takeF 10 (some 54) ?_; (refine skipE (i := 11) (some 55) rfl rfl (by kernel_rfl) rfl (by assumption) ?_; try simp only [Act.put, pA, pB, pC]); (refine skipE (i := 12) (some 56) rfl rfl (by kernel_rfl) rfl (by assumption) ?_; try simp only [Act.put, pA, pB, pC]); (refine skipE (i := 13) (some 57) rfl rfl (by kernel_rfl) rfl (by assumption) ?_; try simp only [Act.put, pA, pB, pC]); refine takeF 14 (some 58) ?_; refine takeF 15 (some 2) ?_; refine wpAnyH_done (by kernel_rfl) ?_ _
    go_wp2
    go_ret
    exact ⟨by rw [HE.out]; rfl, BoxS.out (by assumption)⟩
 ·
  have hd1 := decide_eq_false h1
  rcases bad_nsb n s b with ⟨rfl, rfl, rfl⟩ | ⟨hn, hn2⟩ | ⟨rfl, hs, hs2⟩ | ⟨rfl, rfl, rfl⟩
  ·
   have HE : Hid (rightB 4 0 ⟨#[]⟩ false c = false) := by show rightB _ _ _ _ _ = _; first | (simp [rightB, *]; done) | (simp [rightB, *]; omega)
   go_enter Tryz.func140, Tryz.ntmps140
   go_wp2
   have HN := hide (BoxS.new w 4 0 ⟨#[]⟩ false c 26)
   refine wp_region_held_drew (S := fun w' => w'.cell? ⟨w.heap.size, 0, none⟩ = some (.int .i64 4) ∧ w'.cell? ⟨w.heap.size, 1, none⟩ = some (.int .i64 0) ∧ w'.cell? ⟨w.heap.size, 2, none⟩ = some (.string ⟨#[]⟩) ∧ w'.cell? ⟨w.heap.size, 3, none⟩ = some (.bool false) ∧ w'.cell? ⟨w.heap.size, 4, none⟩ = some (.int .i64 c) ∧ w.heap.size < w'.heap.size ∧ Below w.heap.size w w') (by kernel_rfl) (BoxS.drew HN.out) (fun hHeld => ?_)
   refine takeF 0 (some 44) ?_; refine takeF 1 (some 45) ?_; refine takeF 2 (some 46) ?_; (refine wpAnyH_ready (rs := [3]) (by kernel_rfl) (by simp) ?_; refine AllReadyH.cons (o := _) rfl (fun K hK => ?_) AllReadyH.nil; go_simp; (go_at_call 150; refine (fault_any _ _).mono ?_; rintro e w2 ⟨rfl, hb2⟩; have hs2 := BoxS.below hHeld hb2); refine hK.out _ _ hs2 (fun hHeld => ?_); clear hK K; try simp only [Act.put, pA, pB, pC]); refine takeF 4 (some 48) ?_; refine takeF 5 (some 49) ?_; refine takeF 6 (some 50) ?_; refine takeF 7 (some 51) ?_; refine takeF 8 (some 52) ?_; refine takeF 9 (some 53) ?_; refine takeF 10 (some 54) ?_; (refine skipE (i := 11) (some 55) rfl rfl (by kernel_rfl) rfl (by assumption) ?_; try simp only [Act.put, pA, pB, pC]); (refine skipE (i := 12) (some 56) rfl rfl (by kernel_rfl) rfl (by assumption) ?_; try simp only [Act.put, pA, pB, pC]); (refine skipE (i := 13) (some 57) rfl rfl (by kernel_rfl) rfl (by assumption) ?_; try simp only [Act.put, pA, pB, pC]); refine takeF 14 (some 58) ?_; refine takeF 15 (some 2) ?_; refine wpAnyH_done (by kernel_rfl) ?_ _
   go_wp2
   go_ret
   exact ⟨by rw [HE.out]; rfl, BoxS.out (by assumption)⟩
  ·
   have HE : Hid (rightB 4 n s b c = false) := by show rightB _ _ _ _ _ = _; first | (simp [rightB, *]; done) | (simp [rightB, *]; omega)
   go_enter Tryz.func140, Tryz.ntmps140
   go_wp2
   have HN := hide (BoxS.new w 4 n s b c 26)
   refine wp_region_held_drew (S := fun w' => w'.cell? ⟨w.heap.size, 0, none⟩ = some (.int .i64 4) ∧ w'.cell? ⟨w.heap.size, 1, none⟩ = some (.int .i64 n) ∧ w'.cell? ⟨w.heap.size, 2, none⟩ = some (.string s) ∧ w'.cell? ⟨w.heap.size, 3, none⟩ = some (.bool b) ∧ w'.cell? ⟨w.heap.size, 4, none⟩ = some (.int .i64 c) ∧ w.heap.size < w'.heap.size ∧ Below w.heap.size w w') (by kernel_rfl) (BoxS.drew HN.out) (fun hHeld => ?_)
   refine takeF 0 (some 44) ?_; refine takeF 1 (some 45) ?_; refine takeF 2 (some 46) ?_; (refine wpAnyH_ready (rs := [3]) (by kernel_rfl) (by simp) ?_; refine AllReadyH.cons (o := _) rfl (fun K hK => ?_) AllReadyH.nil; go_simp; (go_at_call 150; refine (fault_any _ _).mono ?_; rintro e w2 ⟨rfl, hb2⟩; have hs2 := BoxS.below hHeld hb2); refine hK.out _ _ hs2 (fun hHeld => ?_); clear hK K; try simp only [Act.put, pA, pB, pC]); refine takeF 4 (some 48) ?_; refine takeF 5 (some 49) ?_; (refine skipE (i := 6) (some 50) rfl rfl (by kernel_rfl) rfl (by assumption) ?_; try simp only [Act.put, pA, pB, pC]); (refine skipE (i := 7) (some 51) rfl rfl (by kernel_rfl) rfl (by assumption) ?_; try simp only [Act.put, pA, pB, pC]); (refine skipE (i := 8) (some 52) rfl rfl (by kernel_rfl) rfl (by assumption) ?_; try simp only [Act.put, pA, pB, pC]); refine takeF 9 (some 53) ?_; refine takeF 10 (some 54) ?_; (refine skipE (i := 11) (some 55) rfl rfl (by kernel_rfl) rfl (by assumption) ?_; try simp only [Act.put, pA, pB, pC]); (refine skipE (i := 12) (some 56) rfl rfl (by kernel_rfl) rfl (by assumption) ?_; try simp only [Act.put, pA, pB, pC]); (refine skipE (i := 13) (some 57) rfl rfl (by kernel_rfl) rfl (by assumption) ?_; try simp only [Act.put, pA, pB, pC]); refine takeF 14 (some 58) ?_; refine takeF 15 (some 2) ?_; refine wpAnyH_done (by kernel_rfl) ?_ _
   go_wp2
   go_ret
   exact ⟨by rw [HE.out]; rfl, BoxS.out (by assumption)⟩
  ·
   have HE : Hid (rightB 4 0 s b c = false) := by show rightB _ _ _ _ _ = _; first | (simp [rightB, *]; done) | (simp [rightB, *]; omega)
   go_enter Tryz.func140, Tryz.ntmps140
   go_wp2
   have HN := hide (BoxS.new w 4 0 s b c 26)
   refine wp_region_held_drew (S := fun w' => w'.cell? ⟨w.heap.size, 0, none⟩ = some (.int .i64 4) ∧ w'.cell? ⟨w.heap.size, 1, none⟩ = some (.int .i64 0) ∧ w'.cell? ⟨w.heap.size, 2, none⟩ = some (.string s) ∧ w'.cell? ⟨w.heap.size, 3, none⟩ = some (.bool b) ∧ w'.cell? ⟨w.heap.size, 4, none⟩ = some (.int .i64 c) ∧ w.heap.size < w'.heap.size ∧ Below w.heap.size w w') (by kernel_rfl) (BoxS.drew HN.out) (fun hHeld => ?_)
   refine takeF 0 (some 44) ?_; refine takeF 1 (some 45) ?_; refine takeF 2 (some 46) ?_; (refine wpAnyH_ready (rs := [3]) (by kernel_rfl) (by simp) ?_; refine AllReadyH.cons (o := _) rfl (fun K hK => ?_) AllReadyH.nil; go_simp; (go_at_call 150; refine (fault_any _ _).mono ?_; rintro e w2 ⟨rfl, hb2⟩; have hs2 := BoxS.below hHeld hb2); refine hK.out _ _ hs2 (fun hHeld => ?_); clear hK K; try simp only [Act.put, pA, pB, pC]); refine takeF 4 (some 48) ?_; refine takeF 5 (some 49) ?_; (refine skipE (i := 6) (some 50) rfl rfl (by kernel_rfl) rfl (by assumption) ?_; try simp only [Act.put, pA, pB, pC]); (refine skipE (i := 7) (some 51) rfl rfl (by kernel_rfl) rfl (by assumption) ?_; try simp only [Act.put, pA, pB, pC]); (refine skipE (i := 8) (some 52) rfl rfl (by kernel_rfl) rfl (by assumption) ?_; try simp only [Act.put, pA, pB, pC]); refine takeF 9 (some 53) ?_; refine takeF 10 (some 54) ?_; (refine skipE (i := 11) (some 55) rfl rfl (by kernel_rfl) rfl (by assumption) ?_; try simp only [Act.put, pA, pB, pC]); (refine skipE (i := 12) (some 56) rfl rfl (by kernel_rfl) rfl (by assumption) ?_; try simp only [Act.put, pA, pB, pC]); (refine skipE (i := 13) (some 57) rfl rfl (by kernel_rfl) rfl (by assumption) ?_; try simp only [Act.put, pA, pB, pC]); refine takeF 14 (some 58) ?_; refine takeF 15 (some 2) ?_; refine wpAnyH_done (by kernel_rfl) ?_ _
   go_wp2
   go_ret
   exact ⟨by rw [HE.out]; rfl, BoxS.out (by assumption)⟩
  ·
   have HE : Hid (rightB 4 0 ⟨#[]⟩ true c = false) := by show rightB _ _ _ _ _ = _; first | (simp [rightB, *]; done) | (simp [rightB, *]; omega)
   go_enter Tryz.func140, Tryz.ntmps140
   go_wp2
   have HN := hide (BoxS.new w 4 0 ⟨#[]⟩ true c 26)
   refine wp_region_held_drew (S := fun w' => w'.cell? ⟨w.heap.size, 0, none⟩ = some (.int .i64 4) ∧ w'.cell? ⟨w.heap.size, 1, none⟩ = some (.int .i64 0) ∧ w'.cell? ⟨w.heap.size, 2, none⟩ = some (.string ⟨#[]⟩) ∧ w'.cell? ⟨w.heap.size, 3, none⟩ = some (.bool true) ∧ w'.cell? ⟨w.heap.size, 4, none⟩ = some (.int .i64 c) ∧ w.heap.size < w'.heap.size ∧ Below w.heap.size w w') (by kernel_rfl) (BoxS.drew HN.out) (fun hHeld => ?_)
   refine takeF 0 (some 44) ?_; refine takeF 1 (some 45) ?_; refine takeF 2 (some 46) ?_; (refine wpAnyH_ready (rs := [3]) (by kernel_rfl) (by simp) ?_; refine AllReadyH.cons (o := _) rfl (fun K hK => ?_) AllReadyH.nil; go_simp; (go_at_call 150; refine (fault_any _ _).mono ?_; rintro e w2 ⟨rfl, hb2⟩; have hs2 := BoxS.below hHeld hb2); refine hK.out _ _ hs2 (fun hHeld => ?_); clear hK K; try simp only [Act.put, pA, pB, pC]); refine takeF 4 (some 48) ?_; refine takeF 5 (some 49) ?_; (refine skipE (i := 6) (some 50) rfl rfl (by kernel_rfl) rfl (by assumption) ?_; try simp only [Act.put, pA, pB, pC]); (refine skipE (i := 7) (some 51) rfl rfl (by kernel_rfl) rfl (by assumption) ?_; try simp only [Act.put, pA, pB, pC]); (refine skipE (i := 8) (some 52) rfl rfl (by kernel_rfl) rfl (by assumption) ?_; try simp only [Act.put, pA, pB, pC]); refine takeF 9 (some 53) ?_; refine takeF 10 (some 54) ?_; (refine skipE (i := 11) (some 55) rfl rfl (by kernel_rfl) rfl (by assumption) ?_; try simp only [Act.put, pA, pB, pC]); (refine skipE (i := 12) (some 56) rfl rfl (by kernel_rfl) rfl (by assumption) ?_; try simp only [Act.put, pA, pB, pC]); (refine skipE (i := 13) (some 57) rfl rfl (by kernel_rfl) rfl (by assumption) ?_; try simp only [Act.put, pA, pB, pC]); refine takeF 14 (some 58) ?_; refine takeF 15 (some 2) ?_; refine wpAnyH_done (by kernel_rfl) ?_ _
   go_wp2
   go_ret
   exact ⟨by rw [HE.out]; rfl, BoxS.out (by assumption)⟩
set_option linter.unusedSimpArgs false in
theorem right_no (k : Int) (n : Int) (s : ByteArray) (b : Bool) (c : Int) (w : World) (h : (k == 0) = false ∧ (k == 1) = false ∧ (k == 2) = false ∧ (k == 3) = false ∧ (k == 4) = false) :
  Calls Tryz.prog 140 #[.agg #[.int .i64 k, .int .i64 n, .string s, .bool b, .int .i64 c]] w fun e w' => e = .returned (.bool (rightB k n s b c)) ∧ Below w.heap.size w w' := by
 have HE := hide (right_none (n := n) (s := s) (b := b) (c := c) h)
 obtain ⟨h0, h1, h2, h3, h4⟩ := h
 go_enter Tryz.func140, Tryz.ntmps140
 go_wp2
 go_ret
 refine ⟨by rw [HE.out]; rfl, ?_⟩
 exact bl
theorem right_any (k n : Int) (s : ByteArray) (b : Bool) (c : Int) (w : World) (hz : s.size ≤ maxLen) :
  Calls Tryz.prog 140 #[.agg #[.int .i64 k, .int .i64 n, .string s, .bool b, .int .i64 c]] w fun e w' => e = .returned (.bool (rightB k n s b c)) ∧ Below w.heap.size w w' := by
 rcases kind_or k with rfl | rfl | rfl | rfl | rfl | h
 ·
  exact right_0 n s b c w
 ·
  exact right_1 n s b c w
 ·
  exact right_2 n s b c w hz
 ·
  exact right_3 n s b c w
 ·
  exact right_4 n s b c w
 ·
  exact right_no k n s b c w h
end
end Go.Proofs.YtfpmmckpobpokaaGreat
