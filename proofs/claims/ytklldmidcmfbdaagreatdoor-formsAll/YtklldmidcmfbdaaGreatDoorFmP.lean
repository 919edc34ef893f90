/-
  A node and its parts, in the order of the text: the contracts of forms.parts, and of the function that it makes.
-/
import Derived.Test.YtklldmidcmfbdaaGreatDoorFmQ
import Derived.Test.YtklldmidcmfbdaaGreatDoorZ3
namespace Go.Proofs.YtklldmidcmfbdaaGreatDoor
open Go.RowKit Go.Shelf

attribute [local go_sem] Oper.semAt_some

/-- Nodes and their parts, in the order of the text. -/
def preF : Fo → List (Hd × Fo)
  | .nil => []
  | .cons h k r => (h, k) :: (preF k ++ preF r)
theorem preF_len : ∀ F : Fo, (preF F).length = F.many
  | .nil => rfl
  | .cons h k r => by simp [preF, Fo.many, preF_len k, preF_len r]; omega
/-- A node where it lies: its place, its head, its kids. -/
def Pt (w₀ : World) (D : Nat → Prop) : Type := { x : (Nat × Nat) × (Hd × Fo) // Row w₀ D (.cons x.2.1 x.2.2 .nil) x.1.1 x.1.2 }
def Pt.enc {w₀ : World} {D : Nat → Prop} (x : Pt w₀ D) : Array Value := #[.pointer (some ⟨x.1.1.1, x.1.1.2, none⟩)]
def Pt.gh {w₀ : World} {D : Nat → Prop} (x : Pt w₀ D) : Hd × Fo := x.1.2
/-- Blocks of nodes that no round turns: they lie below n₀, or are cells, not the box, nor its row. -/
structure Dk (n₀ B : Nat) (D : Nat → Prop) (w₀ W : World) : Prop where
  same : ∀ c, D c → W.heap[c]? = w₀.heap[c]?
  lt : ∀ c, D c → c < W.heap.size
  safe : ∀ c, D c → c < n₀ ∨ ((∃ o : Obj, W.heap[c]? = some o ∧ o.isCells = true) ∧ c ≠ B ∧ rowAt W B ≠ some c)
  lb : B < W.heap.size
theorem Dk.kept {n₀ B : Nat} {D : Nat → Prop} {w₀ W W' : World} (h : Dk n₀ B D w₀ W) (k : KpR n₀ B W W') : Dk n₀ B D w₀ W' := by
  have hs : ∀ c, D c → W'.heap[c]? = W.heap[c]? := fun c hc => by
    rcases h.safe c hc with h1 | ⟨⟨o, ho, hoc⟩, h2, h3⟩
    · exact k.below.block c h1
    · rw [ho]; exact k.keep c o ho hoc h2 h3
  refine ⟨fun c hc => (hs c hc).trans (h.same c hc), fun c hc => Nat.lt_of_lt_of_le (h.lt c hc) k.below.size, fun c hc => ?_, Nat.lt_of_lt_of_le h.lb k.below.size⟩
  rcases h.safe c hc with h1 | ⟨⟨o, ho, hoc⟩, h2, h3⟩
  · exact .inl h1
  · refine .inr ⟨⟨o, (hs c hc).trans ho, hoc⟩, h2, fun e => ?_⟩
    rcases k.row c e with e' | ⟨e', _⟩
    · exact h3 e'
    · have := h.lt c hc; omega
theorem Dk.below {n₀ B : Nat} {D : Nat → Prop} {w₀ W W' : World} (h : Dk n₀ B D w₀ W) (k : Below W.heap.size W W') : Dk n₀ B D w₀ W' := by
  have hs : ∀ c, D c → W'.heap[c]? = W.heap[c]? := fun c hc => k.block c (h.lt c hc)
  refine ⟨fun c hc => (hs c hc).trans (h.same c hc), fun c hc => Nat.lt_of_lt_of_le (h.lt c hc) k.size, fun c hc => ?_, Nat.lt_of_lt_of_le h.lb k.size⟩
  rcases h.safe c hc with h1 | ⟨⟨o, ho, hoc⟩, h2, h3⟩
  · exact .inl h1
  · exact .inr ⟨⟨o, (hs c hc).trans ho, hoc⟩, h2, by rw [rowAt_block (k.block B h.lb)]; exact h3⟩
theorem ab_dk {β : Type} {n₀ B m : Nat} {X D : Nat → Prop} {w₀ : World} (hD : ∀ c, D c → c < m ∧ ¬ X c) (hB : B < m) (hXB : ¬ X B) : Ab B X m (fun (_ : β) W => Dk n₀ B D w₀ W) :=
  fun s W W' row h hg hr => by
    have hne : ∀ c, c < m → ¬ X c → some c ≠ row := fun c h1 h2 e => by rcases (hr c e.symm).1 with h | h; exact h2 h; omega
    have hs : ∀ c, D c → W'.heap[c]? = W.heap[c]? := fun c hc => hg.block c (h.lt c hc) (hne c (hD c hc).1 (hD c hc).2)
    refine ⟨fun c hc => (hs c hc).trans (h.same c hc), fun c hc => Nat.lt_of_lt_of_le (h.lt c hc) hg.size, fun c hc => ?_, Nat.lt_of_lt_of_le h.lb hg.size⟩
    rcases h.safe c hc with h1 | ⟨⟨o, ho, hoc⟩, h2, h3⟩
    · exact .inl h1
    · exact .inr ⟨⟨o, (hs c hc).trans ho, hoc⟩, h2, by rw [rowAt_block (hg.block B h.lb (hne B hB hXB))]; exact h3⟩
theorem Dk.cell {n₀ B : Nat} {D : Nat → Prop} {w₀ W : World} (h : Dk n₀ B D w₀ W) {c : Nat} (hc : D c) (i : Nat) : W.cell? ⟨c, i, none⟩ = w₀.cell? ⟨c, i, none⟩ := World.cell?_of_block (h.same c hc)
theorem parts_any (b o : Nat) (w : World) : Calls Tryz.prog 32 #[.pointer (some ⟨b, o, none⟩)] w fun e w' => e = .returned (.func (.func 42) #[] #[.pointer (some ⟨w.heap.size, 0, none⟩)]) ∧ w' = w.alloc (.cells #[.pointer (some ⟨b, o, none⟩)] 92) := by
  go_enter Tryz.func32, Tryz.ntmps32
  go_wp2
  go_ret
  exact ⟨rfl, rfl⟩
/-- The contract of what parts makes, for a node with such kids. -/
def PartsC (k : Fo) : Prop :=
  ∀ (n₀ B : Nat) (D : Nat → Prop) (w₀ : World) (h : Hd) (b o bx : Nat), Row w₀ D (.cons h k .nil) b o →
    SeqR n₀ B (fun _ => False) Tryz.prog 42 #[.pointer (some ⟨bx, 0, none⟩)] (Pt.enc (w₀ := w₀) (D := D)) (fun xs => xs.map Pt.gh = preF (.cons h k .nil)) (fun pre => pre.map Pt.gh <+: preF (.cons h k .nil)) (preF (.cons h k .nil)).length
      (fun W => Sf B W bx #[.pointer (some ⟨b, o, none⟩)] 92 ∧ Dk n₀ B D w₀ W ∧ RowIn B W ∧ n₀ ≤ W.heap.size)
def PartsA : Fo → Prop
  | .nil => True
  | .cons _ k r => PartsC k ∧ PartsA r
set_option maxRecDepth 100000 in
set_option maxHeartbeats 4000000 in
theorem parts_step (k : Fo) (hA : PartsA k) : PartsC k := by
  intro n₀ B D w₀ h b o bx hrow l J Jx W ⟨hSx, hDk, hR, hn⟩ hJ hJx hY h0
  have HY := hide hY
  have HJ := hide hJ
  have HJx := hide hJx
  have HA := hide hA
  have HRow := hide hrow
  obtain ⟨hDb, ⟨v, hcell, a, n, cap, rfl, hnk, hk⟩, _⟩ := hrow
  subst hnk
  have HKi := hide hk
  have HC := hide hcell
  have hBX : Below W.heap.size W (W.alloc (.cells #[.func (.yield l) #[] #[]] 104)) := (Below.refl _ W).alloc (Nat.le_refl _) _
  have f0 := Sf.new (B := B) W #[.func (.yield l) #[] #[]] 104 hR.1 hR.2
  obtain ⟨W1, hW1⟩ : ∃ W1, W.alloc (.cells #[.func (.yield l) #[] #[]] 104) = W1 := ⟨_, rfl⟩
  have f1 := hSx.below hBX
  have d1 := hDk.below hBX
  have r1 := hR.below hBX
  have j1 := hJ.below h0 hBX
  rw [hW1] at f0 f1 d1 r1 j1 hBX
  have z1 : W1.heap.size = W.heap.size + 1 := by rw [← hW1]; simp
  have c0 : W1.cell? ⟨W.heap.size, 0, none⟩ = some (.func (.yield l) #[] #[]) := f0.cell 0
  have c1 : W1.cell? ⟨bx, 0, none⟩ = some (.pointer (some ⟨b, o, none⟩)) := f1.cell 0
  obtain ⟨fn, tmps, assign, body, hy, hRd⟩ := hY [] ⟨((b, o), (h, k)), HRow.out⟩ W1 j1 (by rw [preF_len]; simp [Fo.many])
  have HRd := hide hRd
  simp only [Pt.enc] at hy
  have HF := hide f0
  have HF1 := hide f1
  have HD := hide d1
  have HR := hide r1
  clear hY hJ hJx hA hk hcell hRd f0 f1 d1 r1 j1 hSx hDk hR h0 hBX
  refine callsIn_of_wp_marks Tryz.func42 rfl trivial ?_ rfl
  simp only [Tryz.ntmps42, List.size_toArray, List.length_cons, List.length_nil, Nat.reduceAdd, Nat.reduceSub, Array.replicate_succ, Array.replicate_zero, List.push_toArray, List.append_toArray, List.nil_append, List.cons_append]
  gi_wp2
  refine ⟨rfl, HRd.out.mono ?_⟩
  rintro e W3 (⟨rfl, hJ3, hk3, hkf3⟩ | ⟨rfl, hJ3, hkf3⟩)
  rotate_left
  · gi_wp2
    exact leaves_marks [] W3 (Mk.nil W.heap.size W3.heap.size W3) ⟨.tuple #[], results_none rfl _ _ _, ⟨_, rfl⟩, .inr ⟨_, ⟨preF k ++ preF .nil, rfl⟩, hJ3⟩⟩
  have f0 := HF.out.kept hk3
  have f1 := HF1.out.kept hk3
  have d1 := HD.out.kept hk3
  have r1 := HR.out.kept hk3
  have e1 : W3.cell? ⟨bx, 0, none⟩ = some (.pointer (some ⟨b, o, none⟩)) := f1.cell 0
  have e15 : W3.cell? ⟨b, o + 15, none⟩ = some (.slice a k.len cap) := (d1.cell hDb (o + 15)).trans (HC.out 15 (by omega))
  have z3 : W.heap.size < W3.heap.size := by have := hkf3.size; omega
  clear hy c0 c1 HF HF1 HD HR HRd hkf3 hk3 hW1 z1 W1
  have HJ3 := hide hJ3
  have HF0 := hide f0
  have HF1 := hide f1
  have HD := hide d1
  have HR := hide r1
  clear f0 f1 d1 r1 hJ3
  gi_wp2
  refine wpIn_loop (fun act wr => ∃ (i : Nat) (F : Fo) (pre : List (Pt w₀ D)) (Ds : List Nat) (u3 u4 u15 u16 u17 u18 u19 u20 u21 u22 u23 u24 u25 u26 u27 u28 u29 : Value), i + F.len = k.len ∧ (F = .nil ∨ ∃ b' o', a = some ⟨b', o', none⟩ ∧ k.len ≤ cap ∧ cap ≤ maxLen ∧ Row w₀ D F b' (o' + i * 16)) ∧ PartsA F ∧ preF (.cons h k .nil) = pre.map Pt.gh ++ preF F ∧ W.heap.size < wr.heap.size ∧ Mk W.heap.size wr.heap.size Ds wr ∧ J pre wr ∧ Sf B wr W.heap.size #[.func (.yield l) #[] #[]] 104 ∧ Sf B wr bx #[.pointer (some ⟨b, o, none⟩)] 92 ∧ Dk n₀ B D w₀ wr ∧ RowIn B wr ∧
      act = { tmps := #[.func (.yield l) #[] #[], .pointer (some ⟨bx, 0, none⟩), .pointer (some ⟨W.heap.size, 0, none⟩), u3, u4, .func (.yield l) #[] #[], .pointer (some ⟨b, o, none⟩), .bool true, .bool false, .pointer (some ⟨b, o, none⟩), .pointer (some ⟨b, o, none⟩), .pointer (some ⟨b, o + 15, none⟩), .slice a k.len cap, .int .i64 (k.len : Int), .int .i64 (i : Int), u15, u16, u17, u18, u19, u20, u21, u22, u23, u24, u25, u26, u27, u28, u29], defers := Ds.map mkD })
    (fun act _ => k.len - (intOf (act.tmps.getD 14 undef)).toNat) ?start ?round
  case start =>
    refine ⟨0, k, [⟨((b, o), (h, k)), HRow.out⟩], [], _, _, _, _, _, _, _, _, _, _, _, _, _, _, _, _, _, by omega, ?_, HA.out, by show (h, k) :: (preF k ++ []) = (h, k) :: preF k; rw [List.append_nil], z3, Mk.nil _ _ _, HJ3.out, HF0.out, HF1.out, HD.out, HR.out, rfl⟩
    rcases HKi.out with e | ⟨b', o', q1, q2, q3, q4⟩
    · exact .inl e
    · exact .inr ⟨b', o', q1, q2, q3, by simpa using q4⟩
  case round =>
    rintro _ wr ⟨i, F, pre, Ds, u3, u4, u15, u16, u17, u18, u19, u20, u21, u22, u23, u24, u25, u26, u27, u28, u29, hl, hF, hAF, hx, hz, hM, hJr, sY, sX, dK, rI, rfl⟩
    have HX := hide hx
    have HM := hide hM
    have HJr := hide hJr
    have HSY := hide sY
    have HSX := hide sX
    have HDK := hide dK
    have HRI := hide rI
    have e1 : wr.cell? ⟨bx, 0, none⟩ = some (.pointer (some ⟨b, o, none⟩)) := sX.cell 0
    have e15 : wr.cell? ⟨b, o + 15, none⟩ = some (.slice a k.len cap) := (dK.cell hDb (o + 15)).trans (HC.out 15 (by omega))
    clear hx hM hJr sY sX dK rI HJ3 HF0 HF1 HD HR z3
    match F, hl, hF, hAF, HX with
    | .nil, hl, _, _, HX =>
      have hli : ¬ (i : Int) < (k.len : Int) := by simp [Fo.len] at hl; omega
      gi_wp2
      exact leaves_marks Ds wr HM.out ⟨.tuple #[], results_none rfl _ _ _, ⟨_, rfl⟩, .inl ⟨pre, by rw [HX.out]; simp [preF], shut_ab HJ.out (Nat.le_refl _) Ds wr HM.out HJr.out⟩⟩
    | .cons h1 k1 r1, hl, hF, hAF, HX =>
      have hli : (i : Int) < (k.len : Int) := by simp [Fo.len] at hl; omega
      have hl2 : i + 1 + r1.len = k.len := by simp [Fo.len] at hl; omega
      obtain ⟨b', o', rfl, hcap1, hcap2, hrw⟩ : ∃ b' o', a = some ⟨b', o', none⟩ ∧ k.len ≤ cap ∧ cap ≤ maxLen ∧ Row w₀ D (.cons h1 k1 r1) b' (o' + i * 16) := by
        rcases hF with e | e
        · cases e
        · exact e
      obtain ⟨p1, p2, p3⟩ := hrw
      have HR1 : Hid (Row w₀ D (.cons h1 k1 .nil) b' (o' + i * 16)) := (show Row w₀ D (.cons h1 k1 .nil) b' (o' + i * 16) from ⟨p1, p2, trivial⟩)
      have HR2 : Hid (Row w₀ D r1 b' (o' + (i + 1) * 16)) := by rw [show o' + (i + 1) * 16 = o' + i * 16 + 16 by omega]; exact p3
      have HM2 := hide hcap2
      unfold maxLen at hcap2
      obtain ⟨hA1, hA2⟩ := hAF
      have HA1 := hide hA1
      have HA2 := hide hA2
      have HPa : Hid (∀ X : World, CallsIn Fence.wide 0 Tryz.prog 32 #[.pointer (some ⟨b', o' + i * 16, none⟩)] X fun e w' => e = .returned (.func (.func 42) #[] #[.pointer (some ⟨X.heap.size, 0, none⟩)]) ∧ w' = X.alloc (.cells #[.pointer (some ⟨b', o' + i * 16, none⟩)] 92)) := fun X => callsIn_wide.2 (parts_any b' (o' + i * 16) X)
      clear p1 p2 p3 hF hl hA1 hA2
      gi_wp2_with (refine ⟨trivial, rfl, ?_⟩; gi_at_call 32; refine (HPa.out _).mono ?_; rintro e wz ⟨rfl, hz2⟩; subst wz)
      have f3 := Sf.new (B := B) wr #[.pointer (some ⟨b', o' + i * 16, none⟩)] 92 HRI.out.1 HRI.out.2
      have bB : Below wr.heap.size wr (wr.alloc (.cells #[.pointer (some ⟨b', o' + i * 16, none⟩)] 92)) := (Below.refl _ _).alloc (Nat.le_refl _) _
      obtain ⟨wd, hwd⟩ : ∃ wd, wr.alloc (.cells #[.pointer (some ⟨b', o' + i * 16, none⟩)] 92) = wd := ⟨_, rfl⟩
      rw [hwd] at f3 bB ⊢
      have zd : wd.heap.size = wr.heap.size + 1 := by rw [← hwd]; simp
      have HB := hide bB
      have hBlt : B < wr.heap.size := HRI.out.1
      have hDlt : ∀ c, D c → c < wr.heap.size := HDK.out.lt
      have hbx : bx < wr.heap.size := HSX.out.lt
      have hX1 : (preF (.cons h k .nil)).length = pre.length + (k1.many + 1) + (preF r1).length := by rw [HX.out]; simp [preF, preF_len]; omega
      clear hwd HPa bB
      refine rangeR (α := Pt w₀ D) (B := B) (n₀ := n₀) (X := fun _ => False) rfl (enters_of Tryz.func42 (by kernel_rfl) rfl) (HA1.out n₀ B D w₀ h1 b' (o' + i * 16) wr.heap.size HR1.out)
        (fun X hX => ⟨f3.below hX, (HDK.out.below HB.out).below hX, (HRI.out.below HB.out).below hX, by have := hX.size; omega⟩) (fun _ => rfl) (by omega) (by omega) (fun _ h => h.elim)
        (fun pre' X => J (pre ++ pre') X ∧ Sf B X W.heap.size #[.func (.yield l) #[] #[]] 104 ∧ Sf B X bx #[.pointer (some ⟨b, o, none⟩)] 92 ∧ Dk n₀ B D w₀ X ∧ RowIn B X ∧ Mk W.heap.size wr.heap.size Ds X ∧ wd.heap.size ≤ X.heap.size)
        (fun c pre' X => c = .ret ∧ Jx (pre ++ pre') X ∧ Mk W.heap.size wr.heap.size Ds X)
        ?hI ?hIx ?h0 (fun x a' _ => a' = { tmps := #[.func (.yield l) #[] #[], .pointer (some ⟨bx, 0, none⟩), .pointer (some ⟨W.heap.size, 0, none⟩), .int .i64 (i : Int), .pointer (some ⟨x.1.1.1, x.1.1.2, none⟩), .func (.yield l) #[] #[], .pointer (some ⟨b, o, none⟩), .bool true, .bool false, .pointer (some ⟨b, o, none⟩), .pointer (some ⟨b, o, none⟩), .pointer (some ⟨b, o + 15, none⟩), .slice (some ⟨b', o', none⟩) k.len cap, .int .i64 (k.len : Int), .int .i64 (i : Int), .bool true, .int .i64 (i : Int), .pointer (some ⟨b, o, none⟩), .pointer (some ⟨b, o, none⟩), .pointer (some ⟨b, o + 15, none⟩), .slice (some ⟨b', o', none⟩) k.len cap, .int .i64 (i : Int), .pointer (some ⟨b', o' + i * 16, none⟩), .func (.func 42) #[] #[.pointer (some ⟨wr.heap.size, 0, none⟩)], .pointer (some ⟨x.1.1.1, x.1.1.2, none⟩), u25, u26, u27, u28, u29], defers := [] })
        (fun _ _ => fun _ _ _ _ h _ _ => h) ?assign ?body ?done ?stop
      case hI =>
        exact ((HJ.out.comp _).mono (by rintro r (h | h); exact h.elim; right; omega)).and ((ab_sf _ _ (by omega) (fun h => h) (by omega) (fun h => h)).and ((ab_sf _ _ (by omega) (fun h => h) (by omega) (fun h => h)).and ((ab_dk (fun c hc => ⟨by have := hDlt c hc; omega, fun h => h⟩) (by omega) (fun h => h)).and ((ab_rowIn (by omega) (fun h => h)).and ((ab_mk Ds (by omega) (fun _ h => h.elim)).and (fun _ _ _ _ h hg _ => Nat.le_trans h hg.size))))))
      case hIx =>
        intro c
        exact (ab_pure _ _ _ (fun _ => c = .ret)).and (((HJx.out.comp _).mono (by rintro r (h | h); exact h.elim; right; omega)).and (ab_mk Ds (by omega) (fun _ h => h.elim)))
      case h0 => exact ⟨by simpa using HJ.out.below HJr.out HB.out, HSY.out.below HB.out, HSX.out.below HB.out, HDK.out.below HB.out, HRI.out.below HB.out, HM.out.below HB.out, Nat.le_refl _⟩
      case assign =>
        rintro l' pre' x X K hI' hK
        simp only [Pt.enc]
        gi_wp2
        exact hK _ _ (KeepsFrom.refl _ _) (KpR.refl _ _ _) hI' rfl
      case body =>
        rintro l' pre' x _ X hl' _ ⟨hJX, sY, sX, dX, rX, mX, zX⟩ rfl hlen
        have c1 : X.cell? ⟨W.heap.size, 0, none⟩ = some (.func (.yield l) #[] #[]) := sY.cell 0
        obtain ⟨fn, tmps, assign, body, hy, hR⟩ := HY.out (pre ++ pre') x X hJX (by rw [hX1]; rw [preF_len] at hlen; simp [Fo.many] at hlen ⊢; omega)
        have HR := hide hR
        simp only [Pt.enc] at hy
        clear hR
        gi_wp2
        refine ⟨rfl, HR.out.mono ?_⟩
        rintro e X' (⟨rfl, hJ', hk', hkf⟩ | ⟨rfl, hJ', hkf⟩)
        · gi_wp2
          refine ⟨keeps_mono hkf (by omega), hk', ?_, sY.kept hk', sX.kept hk', dX.kept hk', rX.kept hk', mX.keeps hkf (Nat.le_refl _), Nat.le_trans zX hkf.size⟩
          simpa using hJ'
        · gi_wp2
          refine ⟨keeps_mono hkf (by omega), rfl, ?_, mX.keeps hkf (Nat.le_refl _)⟩
          simpa using hJ'
      case done =>
        rintro D' xs X hD' hS ⟨hJX, sY, sX, dX, rX, mX, zX⟩ hd
        have hDX : D' < X.heap.size := (Array.getElem?_eq_some_iff.1 hd).1
        gi_wp2
        refine ⟨⟨i + 1, r1, pre ++ xs, D' :: Ds, _, _, _, _, _, _, _, _, _, _, _, _, _, _, _, _, _, by omega, .inr ⟨b', o', rfl, hcap1, HM2.out, HR2.out⟩, HA2.out, ?_, by omega, mX.cons (by omega) (by omega) hDX hd, hJX, sY, sX, dX, rX, rfl⟩, ?_⟩
        · rw [HX.out, List.map_append, hS]
          simp [preF]
        · simp [intOf]
          omega
      case stop =>
        rintro D' c pre' X hD' hpre ⟨rfl, hJX, mX⟩ hd
        have hDX : D' < X.heap.size := (Array.getElem?_eq_some_iff.1 hd).1
        have hm := mX.cons (M' := X.heap.size) (D := D') (by omega) (by omega) hDX hd
        gi_wp2
        refine leaves_marks (D' :: Ds) X hm ⟨.tuple #[], results_none rfl _ _ _, ⟨_, rfl⟩, .inr ⟨_, ?_, shut_ab HJx.out (Nat.le_refl _) _ X hm hJX⟩⟩
        rw [HX.out, List.map_append]
        obtain ⟨q, hq⟩ := hpre
        exact ⟨q ++ preF r1, by rw [List.append_assoc, ← List.append_assoc _ q, hq]; simp [preF]⟩
theorem parts_all : ∀ (F : Fo), PartsA F
  | .nil => trivial
  | .cons _ k r => ⟨parts_step k (parts_all k), parts_all r⟩
end Go.Proofs.YtklldmidcmfbdaaGreatDoor
