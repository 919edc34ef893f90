/-
  The small functions of strs, and its rows of bytes that grow.
-/
import Derived.Test.YthooimaadgabiabDoorSt0
import Derived.Test.YthooimaadgabiabDoorKVal4
import Derived.Test.YthooimaadgabiabDoorCr3
import Derived.Test.YthooimaadgabiabDoorShelf
import Derived.Lib.AppendStr
import Derived.RangeFuncWrites
import Derived.Laws.AppendOwn
import Derived.Laws.OwnMore
import Derived.OwnWalk
namespace Go.Proofs.YthooimaadgabiabDoor
open Go.RowKit
set_option linter.unusedSimpArgs false

theorem infoByte : (Tryd.prog.info? 5).map (fun i => (i.zero, i.size, i.bytes)) = some (some (.int .u8 0), 1, 1) := by kernel_rfl
/-- What a call gives up with. -/
def RF : List PanicEntry := [{ v := .iface 50 (.int .i64 2), recovered := false }]
theorem mk_size (l : By) : (⟨l.toArray⟩ : ByteArray).size = l.length := by show l.toArray.size = _; simp
theorem mk_list (l : By) : (⟨l.toArray⟩ : ByteArray).data.toList = l := by simp
def btC (t : By) : List Value := t.map fun b => Value.int .u8 (b.toNat : Int)
theorem str_cells (t : By) : Lib.strCells ⟨t.toArray⟩ = btC t := by simp [Lib.strCells, btC]
theorem bt_len (t : By) : (btC t).length = t.length := by simp [btC]

/-- strs.right -/
theorem sright_ok (s : By) (w : World) (hs : s.length ≤ 255) :
    Calls Tryd.prog 20 #[.string ⟨s.toArray⟩] w fun e w' => e = .returned (.string ⟨s.toArray⟩) ∧ Below w.heap.size w w' := by
  have sz := mk_size s
  have hV : checkV 2 0 ⟨s.toArray⟩ false 0 = 0 := by
    unfold checkV rightB
    simp [sz]; omega
  have HV : Hid (∀ W : World, Calls Tryd.prog 44 #[.agg #[.int .i64 2, .int .i64 0, .string ⟨s.toArray⟩, .bool false, .int .i64 0]] W fun e w' => e = .returned (.int .i64 0) ∧ Below W.heap.size W w') := fun W => by
    have := checkV_any 2 0 ⟨s.toArray⟩ false 0 W (by rw [sz]; unfold maxLen; omega)
    rwa [hV] at this
  clear hV
  generalize (⟨s.toArray⟩ : ByteArray) = S at *
  go_enter Tryd.func20, Tryd.ntmps20
  go_wp2_with (go_at_call 44; refine (HV.out _).mono ?_; rintro e w1 ⟨rfl, hb1⟩)
  go_ret
  exact ⟨rfl, hb1⟩
theorem sright_no (s : By) (w : World) (hs : 255 < s.length) (hm : s.length ≤ maxLen) :
    Calls Tryd.prog 20 #[.string ⟨s.toArray⟩] w fun e w' => e = .panicked RF ∧ Below w.heap.size w w' := by
  have sz := mk_size s
  have hV : checkV 2 0 ⟨s.toArray⟩ false 0 = 2 := by
    unfold checkV rightB
    simp [sz]; omega
  have HV : Hid (∀ W : World, Calls Tryd.prog 44 #[.agg #[.int .i64 2, .int .i64 0, .string ⟨s.toArray⟩, .bool false, .int .i64 0]] W fun e w' => e = .returned (.int .i64 2) ∧ Below W.heap.size W w') := fun W => by
    have := checkV_any 2 0 ⟨s.toArray⟩ false 0 W (by rw [sz]; exact hm)
    rwa [hV] at this
  clear hV
  generalize (⟨s.toArray⟩ : ByteArray) = S at *
  go_enter Tryd.func20, Tryd.ntmps20
  go_wp2_with (go_at_call 44; refine (HV.out _).mono ?_; rintro e w1 ⟨rfl, hb1⟩)
  exact ⟨rfl, rfl, hb1⟩
theorem count_ok (n : Int) (w : World) (h : 0 ≤ n) : Calls Tryd.prog 22 #[.int .i64 n] w fun e w' => e = .returned (.int .i64 n) ∧ w' = w := by
  have hn : (n < 0) = False := eq_false (by omega)
  go_enter Tryd.func22, Tryd.ntmps22
  go_wp2
  go_ret
  exact ⟨rfl, rfl⟩
theorem count_no (n : Int) (w : World) (h : n < 0) : Calls Tryd.prog 22 #[.int .i64 n] w fun e w' => e = .panicked RF ∧ w' = w := by
  go_enter Tryd.func22, Tryd.ntmps22
  go_wp2
  exact ⟨rfl, rfl, rfl⟩
theorem ahead_ok (n : Int) (w : World) (h : 1 ≤ n) (h2 : n ≤ 9223372036854775807) : Calls Tryd.prog 21 #[.int .i64 n] w fun e w' => e = .returned (.int .i64 (n - 1)) ∧ w' = w := by
  have hn : (n < 1) = False := eq_false (by omega)
  have hw : IntKind.i64.wrap (n - 1) = n - 1 := by rw [IntKind.wrap_i64]; omega
  go_enter Tryd.func21, Tryd.ntmps21
  go_wp2
  go_ret
  exact ⟨rfl, rfl⟩
theorem ahead_no (n : Int) (w : World) (h : n < 1) : Calls Tryd.prog 21 #[.int .i64 n] w fun e w' => e = .panicked RF ∧ w' = w := by
  go_enter Tryd.func21, Tryd.ntmps21
  go_wp2
  exact ⟨rfl, rfl, rfl⟩
theorem mk_take (l : By) (k : Nat) : (⟨l.toArray⟩ : ByteArray).extract 0 k = ⟨(l.take k).toArray⟩ := by
  apply ByteArray.ext
  simp [ByteArray.data_extract]
theorem mk_drop (l : By) (k : Nat) : (⟨l.toArray⟩ : ByteArray).extract k l.length = ⟨(l.drop k).toArray⟩ := by
  apply ByteArray.ext
  simp [ByteArray.data_extract, List.take_of_length_le]
/-- strs.parted -/
theorem parted_any (s : By) (n : Int) (w : World) (h0 : 0 ≤ n) (_hs : s.length ≤ maxLen) :
    Calls Tryd.prog 19 #[.string ⟨s.toArray⟩, .int .i64 n] w fun e w' => e = .returned (.tuple #[.string ⟨(s.take n.toNat).toArray⟩, .string ⟨(s.drop n.toNat).toArray⟩]) ∧ Below w.heap.size w w' := by
  have sz := mk_size s
  have hmin : min n (s.length : Int) = ((min n.toNat s.length : Nat) : Int) := by omega
  obtain ⟨k, hk⟩ : ∃ k, min n.toNat s.length = k := ⟨_, rfl⟩
  have e1 : s.take n.toNat = s.take k := by
    rw [← hk]
    by_cases h : n.toNat ≤ s.length
    · rw [Nat.min_eq_left h]
    · rw [Nat.min_eq_right (by omega), List.take_of_length_le (by omega), List.take_length]
  have e2 : s.drop n.toNat = s.drop k := by
    rw [← hk]
    by_cases h : n.toNat ≤ s.length
    · rw [Nat.min_eq_left h]
    · rw [Nat.min_eq_right (by omega), List.drop_eq_nil_of_le (by omega), List.drop_length]
  rw [hk] at hmin
  have hkl : k ≤ s.length := by omega
  rw [e1, e2]
  have x1 := mk_take s k
  have x2 := mk_drop s k
  have hki : (k : Int) ≤ (s.length : Int) := by omega
  clear e1 e2 hk
  generalize s.take k = F at *
  generalize s.drop k = D at *
  generalize (⟨s.toArray⟩ : ByteArray) = S at *
  unfold maxLen at _hs
  go_enter Tryd.func19, Tryd.ntmps19
  go_wp2
  go_region
  go_wp2
  go_ret2
  exact ⟨rfl, by repeat' (first | with_reducible exact Below.refl _ _ | with_reducible refine Below.setCell ?_ ?_ _ | with_reducible refine Below.alloc ?_ ?_ _ | with_reducible refine below_drewN ?_ _ | with_reducible refine Below.drew ?_ | with_reducible refine Below.trans ?_ (Below.mono (by assumption) ?_) | with_reducible exact Nat.le_refl _ | with_reducible refine Nat.le_trans ?_ (Below.size (by assumption)) | with_reducible refine Nat.le_trans ?_ (size_alloc _ _) | with_reducible refine Nat.le_trans ?_ (size_set _ _ _) | with_reducible refine Nat.le_trans ?_ (size_drewN _ _) | with_reducible refine Nat.le_trans ?_ (size_drew _) | (simp; done) | (simp; omega) | omega)⟩
/-- The row of bytes v in the block R holds t; its bytes lie at or behind m. -/
structure RowT (m R : Nat) (W : World) (v : Value) (t : By) : Prop where
  box : W.heap[R]? = some (.cells #[v] 58 (0, 0))
  own : W.ownsRow m 5 1 v t.length (btC t)
  ne : v.ownBlock ≠ some R
def RowIs (m R : Nat) (W : World) (t : By) : Prop := ∃ v, RowT m R W v t
theorem RowT.slice {m R : Nat} {W : World} {v : Value} {t : By} (h : RowT m R W v t) : ∃ p c, v = .slice p t.length c := by
  rcases h.own.2 with ⟨hv, hn⟩ | ⟨g, cap, cur, hv, _⟩
  · exact ⟨_, _, by rw [hv, hn]⟩
  · exact ⟨_, _, hv⟩
theorem RowT.lt {m R : Nat} {W : World} {v : Value} {t : By} (h : RowT m R W v t) : R < W.heap.size := (Array.getElem?_eq_some_iff.1 h.box).1
theorem RowT.cell {m R : Nat} {W : World} {v : Value} {t : By} (h : RowT m R W v t) : W.cell? ⟨R, 0, none⟩ = some v := by simp [World.cell?, h.box]
theorem RowT.free {m R : Nat} {W : World} {v : Value} {t : By} (h : RowT m R W v t) : W.frozen? ⟨R, 0, none⟩ = false := by simp [World.frozen?, h.box]
/-- What a put leaves: all below m but R, and what is no cells. -/
structure Kp (m R : Nat) (W W' : World) : Prop where
  os : W'.os = W.os
  tape : W'.tape = W.tape
  output : W'.output = W.output
  size : W.heap.size ≤ W'.heap.size
  block : ∀ b, b < m → b ≠ R → W'.heap[b]? = W.heap[b]?
  same : ∀ (b : Nat) (o : Obj), W.heap[b]? = some o → o.isCells = false → W'.heap[b]? = some o
theorem Kp.refl (m R : Nat) (W : World) : Kp m R W W := ⟨rfl, rfl, rfl, Nat.le_refl _, fun _ _ _ => rfl, fun _ _ h _ => h⟩
theorem Kp.trans {m R : Nat} {A B C : World} (h : Kp m R A B) (k : Kp m R B C) : Kp m R A C :=
  ⟨k.os.trans h.os, k.tape.trans h.tape, k.output.trans h.output, Nat.le_trans h.size k.size, fun b h1 h2 => (k.block b h1 h2).trans (h.block b h1 h2), fun b o h1 h2 => k.same b o (h.same b o h1 h2) h2⟩
theorem Kp.of {m R : Nat} {W W' : World} (h : Below W.heap.size W W') (hm : m ≤ W.heap.size) : Kp m R W W' :=
  ⟨h.os, h.tape, h.output, h.size, fun b h1 _ => h.block b (by omega), fun b o h1 _ => (h.block b (Array.getElem?_eq_some_iff.1 h1).1).trans h1⟩
theorem Kp.below {m R n : Nat} {W W' : World} (h : Kp m R W W') (h1 : n ≤ m) (h2 : n ≤ R) : Below n W W' :=
  ⟨h.os, h.tape, h.output, h.size, fun b hb => h.block b (by omega) (by omega)⟩
/-- What a call's new blocks leave a row as it was. -/
theorem RowT.below {m R : Nat} {W W' : World} {v : Value} {t : By} (h : RowT m R W v t) (k : Below W.heap.size W W') : RowT m R W' v t := by
  refine ⟨(k.block R h.lt).trans h.box, ⟨h.own.1, ?_⟩, h.ne⟩
  rcases h.own.2 with e | ⟨g, cap, cur, hv, h1, h2, h3⟩
  · exact .inl e
  · exact .inr ⟨g, cap, cur, hv, h1, (k.block g (Array.getElem?_eq_some_iff.1 h2).1).trans h2, h3⟩
theorem RowIs.below {m R : Nat} {W W' : World} {t : By} (h : RowIs m R W t) (k : Below W.heap.size W W') : RowIs m R W' t := by
  obtain ⟨v, h⟩ := h; exact ⟨v, h.below k⟩
theorem RowIs.put {m R : Nat} {W : World} {t : By} {l : Nat} {o : Obj} (h : RowIs m R W t) (o' : Obj) (hl : W.heap[l]? = some o) (ho : o.isCells = false) : RowIs m R (W.putObj l o') t := by
  obtain ⟨v, h⟩ := h
  have hne : ∀ b cs t fz, W.heap[b]? = some (.cells cs t fz) → b ≠ l := fun b cs t fz hb e => by subst e; rw [hl] at hb; cases hb; cases ho
  refine ⟨v, (World.putObj_heap_other (hne _ _ _ _ h.box)).trans h.box, ⟨h.own.1, ?_⟩, h.ne⟩
  rcases h.own.2 with e | ⟨g, cap, cur, hv, h1, h2, h3⟩
  · exact .inl e
  · exact .inr ⟨g, cap, cur, hv, h1, (World.putObj_heap_other (hne _ _ _ _ h2)).trans h2, h3⟩
theorem bt_app (t s : By) : btC t ++ btC s = btC (t ++ s) := by simp [btC]
theorem own_ne_of_grown {m R : Nat} {W W1 : World} {v v' : Value} {t : By} {n : Nat} {xs : List Value} (h : RowT m R W v t) (hg : W.grownBy W1 v.ownBlock) (ho : W1.ownsRow m 5 1 v' n xs) : v'.ownBlock ≠ some R := by
  intro e
  rcases ho.2 with ⟨hv, _⟩ | ⟨g, cap, cur, hv, h1, h2, _⟩
  · rw [hv] at e; cases e
  · rw [hv] at e
    have e : some g = some R := e
    cases e
    have := (hg.block R h.lt (fun e => h.ne e.symm)).trans h.box
    rw [h2] at this
    cases this
/-- What an append leaves, behind which its row is stored. -/
theorem put_in {m R : Nat} {W W1 : World} {v v' : Value} {t : By} {k : Nat} {xs : List Value} (h : RowT m R W v t) (hg : W.grownBy W1 v.ownBlock) (ho : W1.ownsRow m 5 1 v' (t.length + k) xs) :
    ∃ p c, v' = .slice p (t.length + k) c ∧ W1.cell? ⟨R, 0, none⟩ = some v ∧ W1.frozen? ⟨R, 0, none⟩ = false ∧
      Hid ((∀ s : By, xs = btC s → t.length + k = s.length → RowIs m R (W1.setCell ⟨R, 0, none⟩ (.slice p (t.length + k) c)) s) ∧ (m ≤ W.heap.size → Kp m R W (W1.setCell ⟨R, 0, none⟩ (.slice p (t.length + k) c)))) := by
  have hb := (hg.block R h.lt (fun e => h.ne e.symm)).trans h.box
  have hne := own_ne_of_grown h hg ho
  obtain ⟨p, c, rfl⟩ : ∃ p c, v' = .slice p (t.length + k) c := by
    rcases ho.2 with ⟨hv, hn⟩ | ⟨g, cap, cur, hv, _⟩
    · exact ⟨_, _, by rw [hv, hn]⟩
    · exact ⟨_, _, hv⟩
  have hgb : ∀ g, v.ownBlock = some g → m ≤ g ∧ ∃ cs t fz, W.heap[g]? = some (.cells cs t fz) := by
    intro g e
    rcases h.own.2 with ⟨hv, _⟩ | ⟨g', cap, cur, hv, h1, h2, _⟩
    · rw [hv] at e; cases e
    · rw [hv] at e
      have e : some g' = some g := e
      cases e
      exact ⟨h1, _, _, _, h2⟩
  have hset : ∀ b, b ≠ R → (W1.setCell ⟨R, 0, none⟩ (.slice p (t.length + k) c)).heap[b]? = W1.heap[b]? := fun b e => Below.heap_setCell _ _ _ _ e
  refine ⟨p, c, rfl, by simp [World.cell?, hb], by simp [World.frozen?, hb], hide ⟨fun s hs hl => ⟨_, ?_, ?_, hne⟩, fun hm => ⟨?_, ?_, ?_, ?_, ?_, ?_⟩⟩⟩
  · simp [World.setCell, Array.getElem?_modify, hb]
  · subst hs
    refine ⟨by rw [bt_len, Nat.mul_one], ?_⟩
    rcases ho.2 with e | ⟨g, cap, cur, hv, h1, h2, h3⟩
    · exact .inl (by rw [← hl]; exact e)
    · refine .inr ⟨g, cap, cur, by rw [← hl]; exact hv, h1, (hset g (fun e => ?_)).trans h2, by rw [← hl]; exact h3⟩
      subst e
      rw [hb] at h2; cases h2
  · exact hg.os
  · exact hg.tape
  · exact hg.output
  · simpa using hg.size
  · intro b h1 h2
    rw [hset b h2]
    exact hg.block b (by omega) (fun e => by have := (hgb b e.symm).1; omega)
  · intro b o h1 h2
    have hbR : b ≠ R := fun e => by subst e; rw [h.box] at h1; cases h1; cases h2
    rw [hset b hbR]
    refine (hg.block b (Array.getElem?_eq_some_iff.1 h1).1 (fun e => ?_)).trans h1
    obtain ⟨_, cs, t, fz, h3⟩ := hgb b e.symm
    rw [h1] at h3; cases h3; cases h2
set_option maxRecDepth 100000 in
set_option maxHeartbeats 1000000 in
theorem put_ok (m R : Nat) (t s : By) (W : World) (h : RowIs m R W t) (hm : m ≤ W.heap.size) (hl : t.length + s.length ≤ 255) :
    Calls Tryd.prog 45 #[.pointer (some ⟨R, 0, none⟩), .string ⟨s.toArray⟩] W fun e w' => e = .returned (.tuple #[]) ∧ RowIs m R w' (t ++ s) ∧ Kp m R W w' := by
  obtain ⟨v, h⟩ := h
  obtain ⟨i0, hi, hz0, hz1, hz2⟩ := info_parts infoByte
  obtain ⟨p, c, rfl⟩ := h.slice
  have c0 := h.cell
  have f0 := h.free
  have sz := mk_size s
  have hs := str_cells s
  have hw : IntKind.i64.wrap (255 - (t.length : Int)) = 255 - (t.length : Int) := by rw [IntKind.wrap_i64]; omega
  have g1 : (255 - (t.length : Int) < (s.length : Int)) = False := eq_false (by omega)
  have H := hide h
  have HL := hide hl
  have HM := hide hm
  clear h hl hm
  generalize (⟨s.toArray⟩ : ByteArray) = S at *
  go_enter Tryd.func45, Tryd.ntmps45
  go_wp2_with (first | (at_builtin; refine Lib.wpList_append_own_string _ rfl _ _ 42 9 rfl m 5 i0 Tryd.underlying42 Tryd.underlying9 hi hz0 hz1 hz2 _ _ _ rfl H.out.own S rfl (by rw [sz]; have := HL.out; unfold maxLen; omega) (by rw [sz]; have := HL.out; omega) HM.out ?_; intro v' w1 hown' hgrow _; obtain ⟨p', c', rfl, c1, f1, HX⟩ := put_in H.out hgrow hown'; clear hown' hgrow) | go_in)
  go_end0
  rw [sz] at HX
  exact ⟨rfl, HX.out.1 _ (by rw [hs, bt_app]) (by simp), HX.out.2 HM.out⟩
set_option maxRecDepth 100000 in
set_option maxHeartbeats 1000000 in
theorem put_no (m R : Nat) (t s : By) (W : World) (h : RowIs m R W t) (ht : t.length ≤ 255) (hl : 255 < t.length + s.length) :
    Calls Tryd.prog 45 #[.pointer (some ⟨R, 0, none⟩), .string ⟨s.toArray⟩] W fun e w' => e = .panicked RF ∧ w' = W := by
  obtain ⟨v, h⟩ := h
  obtain ⟨p, c, rfl⟩ := h.slice
  have c0 := h.cell
  have f0 := h.free
  have sz := mk_size s
  have hw : IntKind.i64.wrap (255 - (t.length : Int)) = 255 - (t.length : Int) := by rw [IntKind.wrap_i64]; omega
  have g1 : (255 - (t.length : Int) < (s.length : Int)) = True := eq_true (by omega)
  clear h hl
  generalize (⟨s.toArray⟩ : ByteArray) = S at *
  go_enter Tryd.func45, Tryd.ntmps45
  go_wp2
  exact ⟨rfl, rfl, rfl⟩
/-- What a row says. -/
theorem row_back {m R : Nat} {W : World} {v : Value} {t : By} (h : RowT m R W v t) : (convert 42 9 v).run Tryd.prog W = .ok (.string ⟨t.toArray⟩) W := by
  have ho := h.own
  rcases ho.2 with ⟨hv, hn⟩ | ⟨g, cap, cur, hv, h1, h2, h3⟩
  · have ht : t = [] := List.eq_nil_of_length_eq_zero hn
    subst ht; subst hv
    rw [run_convert_bytes_string W 42 9 5 none 0 0 Tryd.underlying42 Tryd.underlying5 Tryd.underlying9]
    simp [Conv.bytesToString]
    rfl
  · subst hv
    refine bytes_back W g cap _ t ⟨(Array.getElem?_eq_some_iff.1 h2).1, fun j hj => ⟨?_, ?_⟩⟩ rfl
    · rw [ho.cellAt j (by omega)]
      simp [btC, hj]
    · simp [World.frozen?, h2]
/-- How a call ends that tells a text, or gives up. -/
def endT : Option By → Ending
  | some t => .returned (.string ⟨t.toArray⟩)
  | none => .panicked RF
def endI : Option Int → Ending
  | some n => .returned (.int .i64 n)
  | none => .panicked RF
theorem row_new (w : World) : RowIs (w.heap.size + 1) w.heap.size (w.alloc (.cells #[.slice none 0 0] 58)) [] :=
  ⟨.slice none 0 0, World.alloc_heap_new w _, ⟨rfl, .inl ⟨rfl, rfl⟩⟩, fun e => by cases e⟩
theorem cap_yes {l : By} (h : l.length ≤ 255) : capS l = some l := by unfold capS; rw [if_neg (by omega)]
theorem cap_no {l : By} (h : 255 < l.length) : capS l = none := by unfold capS; rw [if_pos h]
/-- A row of texts lies in memory. -/
def SlAt (W : World) (g o : Nat) (l : List By) : Prop := ∀ i x, l[i]? = some x → W.cell? ⟨g, o + i, none⟩ = some (.string ⟨x.toArray⟩)
def SlIs (W : World) (v : Value) (l : List By) : Prop := (l = [] ∧ ∃ p c, v = .slice p 0 c) ∨ ∃ g o cap, v = .slice (some ⟨g, o, none⟩) l.length cap ∧ g < W.heap.size ∧ SlAt W g o l
theorem SlIs.cell {W : World} {v : Value} {l : List By} (h : SlIs W v l) {k : Nat} (hk : k < l.length) : ∃ g o cap, v = .slice (some ⟨g, o, none⟩) l.length cap ∧ g < W.heap.size ∧ W.cell? ⟨g, o + k, none⟩ = some (.string ⟨l[k].toArray⟩) := by
  rcases h with ⟨rfl, _⟩ | ⟨g, o, cap, h1, h2, h3⟩
  · simp at hk
  · exact ⟨g, o, cap, h1, h2, h3 k _ (List.getElem?_eq_getElem hk)⟩
theorem SlIs.form {W : World} {v : Value} {l : List By} (h : SlIs W v l) : ∃ p c, v = .slice p l.length c := by
  rcases h with ⟨rfl, p, c, h⟩ | ⟨g, o, cap, h1, _⟩
  · exact ⟨_, _, h⟩
  · exact ⟨_, _, h1⟩
theorem flat_step (l : List By) {k : Nat} (hk : k < l.length) : (l.take k).flatten ++ l[k] = (l.take (k + 1)).flatten := by
  rw [← List.take_append_getElem hk, List.flatten_append, List.flatten_cons, List.flatten_nil, List.append_nil]
theorem flat_le (l : List By) (k : Nat) : (l.take k).flatten.length ≤ l.flatten.length := by
  have : l.flatten = (l.take k).flatten ++ (l.drop k).flatten := by rw [← List.flatten_append, List.take_append_drop]
  rw [this, List.length_append]; omega
set_option maxRecDepth 100000 in
set_option maxHeartbeats 2000000 in
theorem joined_any (l : List By) (v : Value) (w : World) (h : SlIs w v l) (hn : l.length ≤ maxLen) :
    Calls Tryd.prog 23 #[v] w fun e w' => e = endT (capS l.flatten) ∧ Below w.heap.size w w' := by
  obtain ⟨p, c, rfl⟩ := h.form
  have H := hide h
  have HN := hide (row_new w)
  have HB0 : Hid (Below w.heap.size w (w.alloc (.cells #[.slice none 0 0] 58))) := hide ((Below.refl _ w).alloc (Nat.le_refl _) _)
  obtain ⟨Z, hZ⟩ : ∃ Z, capS l.flatten = Z := ⟨_, rfl⟩
  rw [hZ]
  have HZ := hide hZ
  unfold maxLen at hn
  clear h hZ
  go_enter Tryd.func23, Tryd.ntmps23
  go_wp2
  go_loopw [8] (fun iv wr => ∃ k : Nat, k ≤ l.length ∧ iv = .int .i64 k ∧ RowIs (w.heap.size + 1) w.heap.size wr (l.take k).flatten ∧ Kp (w.heap.size + 1) w.heap.size (w.alloc (.cells #[.slice none 0 0] 58)) wr ∧ (l.take k).flatten.length ≤ 255) (fun iv _ => l.length - (intOf iv).toNat)
  case atStart => exact ⟨0, Nat.zero_le _, rfl, HN.out, Kp.refl _ _ _, Nat.zero_le _⟩
  case round =>
    obtain ⟨k, hk, rfl, hr, hkp, hle⟩ := hrel
    have HR := hide hr
    have HK := hide hkp
    have hsz : w.heap.size + 1 ≤ wr.heap.size := by have := hkp.size; simpa using this
    have HB : Hid (Below w.heap.size w wr) := HB0.out.trans (hkp.below (Nat.le_succ _) (Nat.le_refl _))
    clear hr hkp
    by_cases hlt : k < l.length
    · obtain ⟨g, o, cap, e1, e2, e3⟩ := H.out.cell hlt
      cases e1
      have e4 : wr.cell? ⟨g, o + k, none⟩ = some (.string ⟨l[k].toArray⟩) := (HB.out.cell (p := ⟨g, o + k, none⟩) e2).trans e3
      have g1 : (k : Int) < (l.length : Int) := by omega
      have hst := flat_step l hlt
      have HST := hide hst
      by_cases hs : (l.take k).flatten.length + l[k].length ≤ 255
      · have HP : Hid (∀ W : World, Below wr.heap.size wr W → Calls Tryd.prog 45 #[.pointer (some ⟨w.heap.size, 0, none⟩), .string ⟨l[k].toArray⟩] W fun e w' => e = .returned (.tuple #[]) ∧ RowIs (w.heap.size + 1) w.heap.size w' ((l.take k).flatten ++ l[k]) ∧ Kp (w.heap.size + 1) w.heap.size W w') := fun W hW => put_ok _ _ _ _ W (HR.out.below hW) (Nat.le_trans hsz hW.size) hs
        have HL : Hid ((l.take (k + 1)).flatten.length ≤ 255) := by show _ ≤ _; rw [← hst, List.length_append]; exact hs
        clear hst hs hle
        generalize (⟨l[k].toArray⟩ : ByteArray) = X at *
        go_wp2_with (go_at_call 45; refine (HP.out _ (by repeat' (first | with_reducible exact Below.refl _ _ | with_reducible refine Below.setCell ?_ ?_ _ | with_reducible refine Below.alloc ?_ ?_ _ | with_reducible refine below_drewN ?_ _ | with_reducible refine Below.drew ?_ | with_reducible refine Below.trans ?_ (Below.mono (by assumption) ?_) | with_reducible exact Nat.le_refl _ | with_reducible refine Nat.le_trans ?_ (Below.size (by assumption)) | with_reducible refine Nat.le_trans ?_ (size_alloc _ _) | with_reducible refine Nat.le_trans ?_ (size_set _ _ _) | with_reducible refine Nat.le_trans ?_ (size_drewN _ _) | with_reducible refine Nat.le_trans ?_ (size_drew _) | (simp; done) | (simp; omega) | omega))).mono ?_; rintro e w1 ⟨rfl, h1, h2⟩; have H1 := hide h1; have H2 := hide h2; clear h1 h2)
        go_roundw
        case rel => exact ⟨k + 1, by omega, by go_num, by rw [← HST.out]; exact H1.out, HK.out.trans H2.out, HL.out⟩
        case measure => simp [intOf]; omega
      · have HP : Hid (∀ W : World, Below wr.heap.size wr W → Calls Tryd.prog 45 #[.pointer (some ⟨w.heap.size, 0, none⟩), .string ⟨l[k].toArray⟩] W fun e w' => e = .panicked RF ∧ w' = W) := fun W hW => put_no _ _ _ _ W (HR.out.below hW) hle (by omega)
        have HZ2 : Hid (Z = none) := HZ.out.symm.trans (cap_no (by have h3 := flat_le l (k + 1); rw [← hst, List.length_append] at h3; omega))
        clear hst hs hle
        generalize (⟨l[k].toArray⟩ : ByteArray) = X at *
        go_wp2_with (go_at_call 45; refine (HP.out _ (by repeat' (first | with_reducible exact Below.refl _ _ | with_reducible refine Below.setCell ?_ ?_ _ | with_reducible refine Below.alloc ?_ ?_ _ | with_reducible refine below_drewN ?_ _ | with_reducible refine Below.drew ?_ | with_reducible refine Below.trans ?_ (Below.mono (by assumption) ?_) | with_reducible exact Nat.le_refl _ | with_reducible refine Nat.le_trans ?_ (Below.size (by assumption)) | with_reducible refine Nat.le_trans ?_ (size_alloc _ _) | with_reducible refine Nat.le_trans ?_ (size_set _ _ _) | with_reducible refine Nat.le_trans ?_ (size_drewN _ _) | with_reducible refine Nat.le_trans ?_ (size_drew _) | (simp; done) | (simp; omega) | omega))).mono ?_; rintro e w1 ⟨rfl, rfl⟩)
        rw [HZ2.out]
        exact ⟨rfl, rfl, by first | exact HB.out | exact HB.out.trans (by repeat' (first | with_reducible exact Below.refl _ _ | with_reducible refine Below.setCell ?_ ?_ _ | with_reducible refine Below.alloc ?_ ?_ _ | with_reducible refine below_drewN ?_ _ | with_reducible refine Below.drew ?_ | with_reducible refine Below.trans ?_ (Below.mono (by assumption) ?_) | with_reducible exact Nat.le_refl _ | with_reducible refine Nat.le_trans ?_ (Below.size (by assumption)) | with_reducible refine Nat.le_trans ?_ (size_alloc _ _) | with_reducible refine Nat.le_trans ?_ (size_set _ _ _) | with_reducible refine Nat.le_trans ?_ (size_drewN _ _) | with_reducible refine Nat.le_trans ?_ (size_drew _) | (simp; done) | (simp; omega) | omega))⟩
    · have hkl : k = l.length := by omega
      have HZ2 : Hid (Z = some l.flatten) := HZ.out.symm.trans (cap_yes (by rw [hkl, List.take_length] at hle; exact hle))
      have hr := HR.out
      rw [hkl, List.take_length] at hr
      obtain ⟨v, hr⟩ := hr
      obtain ⟨pv, cv, rfl⟩ := hr.slice
      have hb := row_back hr
      have c0 := hr.cell
      have g1 : ¬ (k : Int) < (l.length : Int) := by omega
      clear hr hle hkl
      generalize l.flatten = T at *
      go_wp2
      go_ret
      rw [HZ2.out]
      exact ⟨rfl, HB.out⟩
end Go.Proofs.YthooimaadgabiabDoor
