/-
  The contract of tree.Print.
  Plain words on how long a right node's text may be.
  The contract of tree.Parse.
  The contract of the laws' again: read, and written.
  What the laws' lives reckons, at its constants.
-/
import Derived.Test.YtiaoaifoecmemaaGreatDoorRQ9
set_option maxRecDepth 100000
set_option maxHeartbeats 4000000
namespace Go.Proofs.YtiaoaifoecmemaaGreatDoor
open Go.RowKit
def printN (h : Hd) (k : Fo) : List UInt8 × Int := if checkN h k ≠ 0 then ([], checkN h k) else if 1023 < (textN h k).length then ([], 7) else (textN h k, 0)
theorem print_no (D : Nat → Prop) (h : Hd) (k : Fo) (a : Option Addr) (n cap : Nat) (w : World) (hD : ∀ c, D c → c < w.heap.size) (hk : Kv w D (.slice a n cap) k) (hm : k.many + 1 ≤ 4096) (hv : h.vs.length ≤ maxLen) (ht : h.txt.length ≤ maxLen) (ho : okF k) (hc : checkN h k ≠ 0) :
  Calls Tryz.prog 18 #[.agg (hdC h (.slice a n cap)).toArray] w fun e w' => e = .returned (.tuple #[.string ⟨#[]⟩, .int .i64 (checkN h k)]) ∧ Below w.heap.size w w' := by
 have HC : Hid (∀ W : World, Below w.heap.size w W → Calls Tryz.prog 15 #[.agg (hdC h (.slice a n cap)).toArray] W fun e w' => e = .returned (.int .i64 (checkN h k)) ∧ Below W.heap.size W w') := fun W hW => check_node D h k a n cap W (fun c hc' => Nat.lt_of_lt_of_le (hD c hc') hW.size) (kv_to hk (fun b hb => ⟨hb, hW.block b (hD b hb)⟩)) hm hv ht ho
 clear hD hk hm hv ht ho
 generalize checkN h k = C at *
 go_enter Tryz.func18, Tryz.ntmps18
 go_wp2_with (first | (with_reducible refine wpl_id ?_; refine wpl_load rfl _ rfl _ rfl (by ((repeat' (first | with_reducible (first | exact Hid.out (by assumption) | apply Box.set | exact Box.new _ _ | apply Box.other | apply Box.alloc | apply Box.drew | apply Box.drewN) | omega)); done)) ?_) | (go_at_call 15; refine (HC.out _ ((Below.refl _ _).alloc (Nat.le_refl _) _)).mono ?_; rintro e w1 ⟨rfl, hb1⟩; have HB1 := hide (below_alloc' hb1); clear hb1))
 go_ret2
 exact ⟨rfl, HB1.out⟩
theorem wr_new {w : World} (he : EnvT w) : Wr w.heap.size w.heap.size [] (w.alloc (.cells #[.pointer none, .slice none 0 0] 76)) :=
 ⟨by simp, ⟨w, he, Nat.le_refl _, (Below.refl _ _).alloc (Nat.le_refl _) _⟩, .inl ⟨Nat.le_refl _, .slice none 0 0, heap_alloc_new _ _, World.ownsRow_nil _ _ _ _, by simp [Value.ownBlock]⟩⟩
theorem print_yes (D : Nat → Prop) (h : Hd) (k : Fo) (a : Option Addr) (n cap : Nat) (w : World) (henv : EnvT w) (hD : ∀ c, D c → c < w.heap.size) (hk : Kv w D (.slice a n cap) k) (hm : k.many + 1 ≤ 4096) (hv : h.vs.length ≤ maxLen) (ht : h.txt.length ≤ maxLen) (ho : okF k) (hc : checkN h k = 0) (hs : (textN h k).length ≤ 1099511627776) (T : List UInt8) (C : Int) (hT : (if 1023 < (textN h k).length then ([], 7) else (textN h k, 0)) = (T, C)) :
    Calls Tryz.prog 18 #[.agg (hdC h (.slice a n cap)).toArray] w fun e w' => e = .returned (.tuple #[.string ⟨T.toArray⟩, .int .i64 C]) ∧ Below w.heap.size w w' := by
  have HC : Hid (∀ W : World, Below w.heap.size w W → Calls Tryz.prog 15 #[.agg (hdC h (.slice a n cap)).toArray] W fun e w' => e = .returned (.int .i64 0) ∧ Below W.heap.size W w') := fun W hW => by
    have := check_node D h k a n cap W (fun c hc' => Nat.lt_of_lt_of_le (hD c hc') hW.size) (kv_to hk (fun b hb => ⟨hb, hW.block b (hD b hb)⟩)) hm hv ht ho
    rw [hc] at this
    exact this
  have hr : rightN h k = true := by
    unfold checkN at hc
    split at hc
    · exact absurd hc (by decide)
    · split at hc
      · exact absurd hc (by decide)
      · rename_i h2; simpa using h2
  have HN : Hid (∀ w1 : World, Below (w.alloc (.cells (hdC h (.slice a n cap)).toArray 34)).heap.size (w.alloc (.cells (hdC h (.slice a n cap)).toArray 34)) w1 → Calls Tryz.prog 31 #[.pointer (some ⟨w1.heap.size, 0, none⟩), .pointer (some ⟨w.heap.size, 0, none⟩)] (w1.alloc (.cells #[.pointer none, .slice none 0 0] 76)) fun e w' => e = .returned (.tuple #[]) ∧ Wr w1.heap.size w1.heap.size (textN h k) w' ∧ Below w1.heap.size (w1.alloc (.cells #[.pointer none, .slice none 0 0] 76)) w') := fun w1 hb1 => by
    have hz : w.heap.size < w1.heap.size := by have := hb1.size; simp at this; omega
    have hrow : Row w1 (fun c => c < w1.heap.size) (.cons h k .nil) w.heap.size 0 := by
      refine node_at (pre := []) (rest := []) (t := 34) (fz := (0, 0)) ?_ rfl hz (kv_to hk (fun c hc' => ⟨by have := hD c hc'; omega, ?_⟩)) trivial
      · rw [hb1.block _ (by simp)]
        simpa using heap_alloc_new w _
      · rw [hb1.block _ (by have := hD c hc'; simp; omega), Below.heap_alloc _ _ _ (hD c hc')]
    exact write_step h k (write_all k) w1.heap.size w1.heap.size w.heap.size 0 [] _ (wr_new (henv.below (below_alloc' hb1))) (row_below hrow ((Below.refl _ _).alloc (Nat.le_refl _) _)) hr (by simpa using hs)
  clear henv hD hk hm hv ht ho hc hs hr
  generalize textN h k = X at *
  have hLn : ∀ (w1 W : World), Wr w1.heap.size w1.heap.size X W → Calls Tryz.prog 32 #[.pointer (some ⟨w1.heap.size, 0, none⟩)] W fun e w' => e = .returned (.int .i64 (X.length : Int)) ∧ w' = W := fun w1 W hW => by
    have := Tryz.Builder_Len w1.heap.size w1.heap.size _ W hW.bld
    rw [Lib.byteCells_length] at this
    exact this
  have HLn := hide hLn
  clear hLn
  have HSt : Hid (∀ (w1 W : World), Wr w1.heap.size w1.heap.size X W → Calls Tryz.prog 33 #[.pointer (some ⟨w1.heap.size, 0, none⟩)] W fun e w' => e = .returned (.string ⟨X.toArray⟩) ∧ Below w1.heap.size W w') := fun w1 W hW => Tryz.Builder_String_any w1.heap.size w1.heap.size X W hW.bld hW.size
  by_cases h1 : 1023 < X.length
  · rw [if_pos h1] at hT
    cases hT
    have h1' : (1023 : Int) < (X.length : Int) := by omega
    go_enter Tryz.func18, Tryz.ntmps18
    go_wp2_with (first | (with_reducible refine wpl_id ?_; refine wpl_load rfl _ rfl _ rfl (by ((repeat' (first | with_reducible (first | exact Hid.out (by assumption) | apply Box.set | exact Box.new _ _ | apply Box.other | apply Box.alloc | apply Box.drew | apply Box.drewN) | omega)); done)) ?_) | (go_at_call 15; refine (HC.out _ ((Below.refl _ _).alloc (Nat.le_refl _) _)).mono ?_; rintro e w1 ⟨rfl, hb1⟩; have HB1 := hide hb1; clear hb1) | (go_at_call 31; refine (HN.out _ HB1.out).mono ?_; rintro e w2 ⟨rfl, hw2, hb2⟩; have HW2 := hide hw2; have HB2 := hide hb2; clear hw2 hb2) | (go_at_call 32; refine (HLn.out _ _ HW2.out).mono ?_; rintro e wz ⟨rfl, hz⟩; subst wz))
    go_ret2
    exact ⟨rfl, (below_alloc' HB1.out).trans ((((Below.refl w1.heap.size w1).alloc (Nat.le_refl _) _).trans HB2.out).mono (below_alloc' HB1.out).size)⟩
  · rw [if_neg h1] at hT
    cases hT
    have h1' : ¬ (1023 : Int) < (T.length : Int) := by omega
    go_enter Tryz.func18, Tryz.ntmps18
    go_wp2_with (first | (with_reducible refine wpl_id ?_; refine wpl_load rfl _ rfl _ rfl (by ((repeat' (first | with_reducible (first | exact Hid.out (by assumption) | apply Box.set | exact Box.new _ _ | apply Box.other | apply Box.alloc | apply Box.drew | apply Box.drewN) | omega)); done)) ?_) | (go_at_call 15; refine (HC.out _ ((Below.refl _ _).alloc (Nat.le_refl _) _)).mono ?_; rintro e w1 ⟨rfl, hb1⟩; have HB1 := hide hb1; clear hb1) | (go_at_call 31; refine (HN.out _ HB1.out).mono ?_; rintro e w2 ⟨rfl, hw2, hb2⟩; have HW2 := hide hw2; have HB2 := hide hb2; clear hw2 hb2) | (go_at_call 32; refine (HLn.out _ _ HW2.out).mono ?_; rintro e wz ⟨rfl, hz⟩; subst wz) | (go_at_call 33; refine (HSt.out _ _ HW2.out).mono ?_; rintro e w3 ⟨rfl, hb3⟩; have HB3 := hide hb3; clear hb3))
    go_ret2
    exact ⟨rfl, (below_alloc' HB1.out).trans (((((Below.refl w1.heap.size w1).alloc (Nat.le_refl _) _).trans HB2.out).trans HB3.out).mono (below_alloc' HB1.out).size)⟩
theorem print_any (D : Nat → Prop) (h : Hd) (k : Fo) (a : Option Addr) (n cap : Nat) (w : World) (henv : EnvT w) (hD : ∀ c, D c → c < w.heap.size) (hk : Kv w D (.slice a n cap) k) (hm : k.many + 1 ≤ 4096) (hv : h.vs.length ≤ maxLen) (ht : h.txt.length ≤ maxLen) (ho : okF k) (hs : rightN h k = true → (textN h k).length ≤ 1099511627776) :
    Calls Tryz.prog 18 #[.agg (hdC h (.slice a n cap)).toArray] w fun e w' => e = .returned (.tuple #[.string ⟨(printN h k).1.toArray⟩, .int .i64 (printN h k).2]) ∧ Below w.heap.size w w' := by
  unfold printN
  by_cases hc : checkN h k = 0
  · rw [if_neg (by simp [hc])]
    have hr : rightN h k = true := by
      unfold checkN at hc
      split at hc
      · exact absurd hc (by decide)
      · split at hc
        · exact absurd hc (by decide)
        · rename_i h2; simpa using h2
    exact print_yes D h k a n cap w henv hD hk hm hv ht ho hc (hs hr) _ _ rfl
  · rw [if_pos hc]
    exact print_no D h k a n cap w hD hk hm hv ht ho hc
theorem text40 {n : Int} (h : fitsB n = true) : (textOf n).length ≤ 40 := by
 refine Classical.byContradiction fun hl => ?_
 have := parse_print h
 unfold parseR at this
 rw [if_pos (by omega)] at this
 exact absurd (congrArg Prod.snd this) (by simp)
theorem name_len {c : Int} (h1 : 1 ≤ c) (h2 : c ≤ 7) : (nameL c.toNat).length ≤ 100 := by
 have : c.toNat = 1 ∨ c.toNat = 2 ∨ c.toNat = 3 ∨ c.toNat = 4 ∨ c.toNat = 5 ∨ c.toNat = 6 ∨ c.toNat = 7 := by omega
 rcases this with e | e | e | e | e | e | e <;> rw [e] <;> decide
theorem const_len {h : Hd} (hc : constB h = true) : (constL h.vk h.vn h.vs h.vb h.vc).length ≤ 590 := by
  have hz : (⟨h.vs.toArray⟩ : ByteArray).size = h.vs.length := by show h.vs.toArray.size = _; simp
  unfold constB at hc
  simp only [Bool.and_eq_true, decide_eq_true_eq] at hc
  obtain ⟨⟨h1, h2⟩, h3⟩ := hc
  have h1' := h1
  unfold constL
  by_cases k1 : h.vk = 1
  · rw [if_pos k1]
    unfold rightB at h1
    rw [if_neg h2, if_pos k1] at h1
    simp only [Bool.and_eq_true] at h1
    have := text40 h1.1.1.1
    omega
  · rw [if_neg k1]
    by_cases k2 : h.vk = 2
    · rw [if_pos k2]
      unfold rightB at h1
      rw [if_neg h2, if_neg k1, if_pos k2] at h1
      simp only [Bool.and_eq_true] at h1
      have := of_decide_eq_true h1.1.1.2
      have := dbl_len h.vs
      simp only [List.length_cons, List.length_append, List.length_nil]
      omega
    · rw [if_neg k2]
      unfold showV
      rw [if_neg (by simp [h1'])]
      unfold rightB at h1
      rw [if_neg h2, if_neg k1, if_neg k2] at h1
      split at h1
      · rename_i k3
        rw [if_neg (by omega)]
        unfold wordsV
        rw [if_neg (by simp [h1']), if_neg (by omega), if_neg k1, if_pos k3]
        split <;> simp
      · split at h1
        · rename_i k4
          rw [if_pos k4]
          simp only [Bool.and_eq_true, decide_eq_true_eq] at h1
          have := name_len h1.1.2 h1.2
          show (nameL h.vc.toNat).length ≤ 590
          omega
        · exact absurd h1 (by simp)
def LenA : Fo → Prop
 | .nil => True
 | .cons h k r => (textN h k).length + 10 ≤ 600 * (k.many + 1) ∧ LenA r
theorem kid_len (m : Nat) (h : Hd) (k : Fo) : (kidL m h k).length ≤ (textN h k).length + 2 := by
 unfold kidL
 split <;> simp
theorem tail_len : ∀ (F : Fo), LenA F → (tailL F).length ≤ 600 * F.many
 | .nil, _ => by simp [tailL]
 | .cons h k r, e => by
  have := tail_len r e.2
  have := e.1
  simp only [tailL, List.length_cons, List.length_append, Fo.many]
  omega
theorem args_len : ∀ (F : Fo), LenA F → (argsL F).length ≤ 600 * F.many
 | .nil, _ => by simp [argsL]
 | .cons h k r, e => by
  have := tail_len r e.2
  have := e.1
  rw [args_tail]
  simp only [List.length_append, Fo.many]
  omega
theorem len_step (h : Hd) (k : Fo) (hL : LenA k) (hn : rightN h k = true) : (textN h k).length + 10 ≤ 600 * (k.many + 1) := by
  simp only [rightN, Bool.and_eq_true] at hn
  obtain ⟨ha, hal⟩ := hn
  rcases alone_cases ha with ⟨e1, e2, _⟩ | ⟨e1, e2, _⟩ | ⟨e1, e2, e3, _⟩ | ⟨e1, e2⟩ | ⟨e1, e2, e3⟩ | ⟨e1, e2⟩
  · have hk : h.kind = 1 := by rw [e1]; rfl
    rw [text_val hk]
    have := const_len e2
    omega
  · have hk : h.kind = 2 := by rw [e1]; rfl
    rw [text_cell hk]
    have := cell_len h.row h.col h.fr h.fc e2
    omega
  · have hk : h.kind = 3 := by rw [e1]; rfl
    rw [text_range hk]
    have := cell_len h.row h.col h.fr h.fc e2
    have := cell_len h.row2 h.col2 h.fr2 h.fc2 e3
    simp only [List.length_append, List.length_cons]
    omega
  · have hk : h.kind = 4 := by rw [e1]; rfl
    obtain ⟨h1, k1, rfl⟩ := fo_one e2
    rw [text_neg hk]
    have := kid_len 5 h1 k1
    have := hL.1
    simp only [List.length_cons, Fo.many]
    omega
  · have hk : h.kind = 5 := by rw [e1]; rfl
    obtain ⟨h1, k1, h2, k2, rfl⟩ := fo_two e3
    rw [text_bin hk]
    have := kid_len (bindN h.txt) h1 k1
    have := kid_len (bindN h.txt + 1) h2 k2
    have := hL.1
    have := hL.2.1
    have := bind_len e2
    simp only [List.length_append, Fo.many]
    omega
  · have hk : h.kind = 6 := by rw [e1]; rfl
    rw [text_call hk]
    have := args_len k hL
    unfold nameOk at e2
    simp only [Bool.and_eq_true, decide_eq_true_eq] at e2
    have := e2.1.1.2
    simp only [List.length_append, List.length_cons, List.length_nil]
    omega
theorem len_all : ∀ (F : Fo), allB F = true → LenA F
 | .nil, _ => trivial
 | .cons h k r, e => by
  simp only [allB, Bool.and_eq_true] at e
  exact ⟨len_step h k (len_all k e.1.2) (by simp [rightN, e.1.1, e.1.2]), len_all r e.2⟩
theorem text_len {h : Hd} {k : Fo} (hn : rightN h k = true) : (textN h k).length + 10 ≤ 600 * (k.many + 1) := by
 refine len_step h k (len_all k ?_) hn
 simp only [rightN, Bool.and_eq_true] at hn
 exact hn.2
theorem print_node (D : Nat → Prop) (h : Hd) (k : Fo) (a : Option Addr) (n cap : Nat) (w : World) (henv : EnvT w) (hD : ∀ c, D c → c < w.heap.size) (hk : Kv w D (.slice a n cap) k) (hm : k.many + 1 ≤ 4096) (hv : h.vs.length ≤ maxLen) (ht : h.txt.length ≤ maxLen) (ho : okF k) :
  Calls Tryz.prog 18 #[.agg (hdC h (.slice a n cap)).toArray] w fun e w' => e = .returned (.tuple #[.string ⟨(printN h k).1.toArray⟩, .int .i64 (printN h k).2]) ∧ Below w.heap.size w w' :=
 print_any D h k a n cap w henv hD hk hm hv ht ho (fun hr => by have := text_len hr; omega)
def One (w : World) (b t : Nat) (x : Int) : Prop := w.heap[b]? = some (.cells #[.int .i64 x] t (0, 0))
theorem One.lt {w : World} {b t : Nat} {x : Int} (h : One w b t x) : b < w.heap.size := (Array.getElem?_eq_some_iff.1 h).1
theorem One.below {w w' : World} {b t : Nat} {x : Int} (h : One w b t x) (k : Below w.heap.size w w') : One w' b t x := by
 unfold One; rw [k.block b h.lt]; exact h
theorem One.row {w : World} {b t : Nat} {x : Int} (h : One w b t x) {g : Nat} (hg : b ≠ g) (cs : Array Value) : One (w.setRow g cs) b t x := by
 unfold One; rw [setRow_heap _ _ _ _ hg]; exact h
theorem One.other {w : World} {b t : Nat} {x : Int} (h : One w b t x) {g : Nat} (hg : b ≠ g) (i : Nat) (v : Value) : One (w.setCell ⟨g, i, none⟩ v) b t x := by
 unfold One; rw [Below.heap_setCell _ _ _ _ hg]; exact h
theorem One.cell {w : World} {b t : Nat} {x : Int} (h : One w b t x) : w.cell? ⟨b, 0, none⟩ = some (.int .i64 x) := by
 rw [cell_of_row w b 0 _ _ _ h]; rfl
theorem One.free {w : World} {b t : Nat} {x : Int} (h : One w b t x) : w.frozen? ⟨b, 0, none⟩ = false := by
 unfold World.frozen?
 simp only [show w.heap[b]? = _ from h]
 rfl
theorem catch_panicking (b0 b1 b2 : Nat) (x y a1 a2 : Int) (w : World) (he : EnvE w) (cs0 : List Value) (hl0 : cs0.length = 16) (h0 : Box w b0 cs0) (h1 : One w b1 3 a1) (h2 : One w b2 35 a2) (d1 : b0 ≠ b1) (d2 : b0 ≠ b2) (d3 : b1 ≠ b2) :
  CallsD Tryz.prog 22 #[.pointer (some ⟨b0, 0, none⟩), .pointer (some ⟨b1, 0, none⟩), .pointer (some ⟨b2, 0, none⟩)] (.panicking [{ v := .iface 82 (.agg #[.int .i64 x, .int .i64 y]), recovered := false }]) w fun e u' w' =>
   e = .returned (.tuple #[]) ∧ u' = .panicking [{ v := .iface 82 (.agg #[.int .i64 x, .int .i64 y]), recovered := true }] ∧ ∃ w1, Below w.heap.size w w1 ∧ w' = ((w1.setRow b0 (hdC zh (.slice none 0 0)).toArray).setCell ⟨b1, 0, none⟩ (.int .i64 x)).setCell ⟨b2, 0, none⟩ (.int .i64 y) := by
 have HR := hide (refused_any x y w he)
 have H0 := hide h0
 have H1 := hide h1
 have H2 := hide h2
 clear he h0 h1 h2
 refine callsD_of_wpS Tryz.func22 rfl fun c₀ cs hu => ?_
 apply wpS_seq
 apply wpS_region
 simp [wpOpsS, go_sem, recoverD, hu, Tryz.ntmps22, Exit.thenS]
 refine wpS_of_wp ?_
 simp only [Array.replicate_succ, Array.replicate_zero, List.push_toArray, List.append_toArray, List.nil_append, List.cons_append, List.setIfInBounds_toArray, List.set_cons_zero, List.set_cons_succ]
 go_wp2_with (first | (go_at_call 23; refine HR.out.mono ?_; rintro e w1 ⟨rfl, hb1⟩; have HB1 := hide hb1; have HX1 := hide (Box.below H0.out hb1); have HY1 := H1.out.below hb1; have HY2 := H2.out.below hb1; have c1 := (HY1.row (Ne.symm d1) (hdC zh (.slice none 0 0)).toArray).cell; have f1 := (HY1.row (Ne.symm d1) (hdC zh (.slice none 0 0)).toArray).free; have c2 := ((HY2.row (Ne.symm d2) (hdC zh (.slice none 0 0)).toArray).other (Ne.symm d3) 0 (.int .i64 x)).cell; have f2 := ((HY2.row (Ne.symm d2) (hdC zh (.slice none 0 0)).toArray).other (Ne.symm d3) 0 (.int .i64 x)).free; clear hb1 HY1 HY2) | (with_reducible refine wpl_id ?_; refine wpl_store rfl _ _ rfl _ rfl rfl HX1.out hl0 ?_))
 exact ⟨rfl, _, rfl, .tuple #[], results_none rfl _ _ _, rfl, rfl, w1, HB1.out, rfl⟩
theorem catch_idle (p q r : Value) (w : World) :
  CallsD Tryz.prog 22 #[p, q, r] .returning w fun e u' w' => e = .returned (.tuple #[]) ∧ u' = .returning ∧ w' = w := by
 refine callsD_of_wpS Tryz.func22 rfl fun c₀ cs hu => ?_
 apply wpS_seq
 apply wpS_region
 simp [wpOpsS, go_sem, recoverD, hu, Tryz.ntmps22, Exit.thenS]
 refine wpS_of_wp ?_
 simp only [Array.replicate_succ, Array.replicate_zero, List.push_toArray, List.append_toArray, List.nil_append, List.cons_append, List.setIfInBounds_toArray, List.set_cons_zero, List.set_cons_succ]
 go_wp2
 refine ⟨rfl, .returning, ?_, .tuple #[], results_none rfl _ _ _, rfl, rfl, rfl⟩
 cases c₀
 simp_all
theorem Box.retP {fn : Func} {p t u : Tmp} (hf : fn.results = #[.cell p 34, .cell t 3, .cell u 35]) {tmps : Array Value} {w : World} {b0 b1 b2 : Nat} {h : Hd} {v : Value} (k : Box w b0 (hdC h v)) {x y : Int} (k1 : One w b1 3 x) (k2 : One w b2 35 y) (hp : tmps.getD p undef = .pointer (some ⟨b0, 0, none⟩)) (ht : tmps.getD t undef = .pointer (some ⟨b1, 0, none⟩)) (hu : tmps.getD u undef = .pointer (some ⟨b2, 0, none⟩)) :
  (results fn tmps).run Tryz.prog w = .ok (.tuple #[nodeV h v, .int .i64 x, .int .i64 y]) w := by
 have hp' : tmps[p]?.getD undef = .pointer (some ⟨b0, 0, none⟩) := by simpa using hp
 have ht' : tmps[t]?.getD undef = .pointer (some ⟨b1, 0, none⟩) := by simpa using ht
 have hu' : tmps[u]?.getD undef = .pointer (some ⟨b2, 0, none⟩) := by simpa using hu
 have c1 : (loadVar 3 ⟨b1, 0, none⟩).run Tryz.prog w = .ok (.int .i64 x) w := by simp [go_sem, k1.cell]
 have c2 : (loadVar 35 ⟨b2, 0, none⟩).run Tryz.prog w = .ok (.int .i64 y) w := by simp [go_sem, k2.cell]
 simp [results, hf, hp', ht', hu', asAddr, c1, c2, run_loadVar_row w b0 34 34 (hdC h v).toArray (0, 0) _ k Tryz.underlying34 rfl (by rw [sizeNode]; rfl)]
 rfl
theorem One.set {w : World} {b t : Nat} {x : Int} (h : One w b t x) (y : Int) : One (w.setCell ⟨b, 0, none⟩ (.int .i64 y)) b t y := by
 unfold One at *
 simp [World.setCell, Array.getElem?_modify, h]
theorem three (w : World) : Below w.heap.size w (((w.alloc (.cells (hdC zh (.slice none 0 0)).toArray 34)).alloc (.cells #[.int .i64 0] 3)).alloc (.cells #[.int .i64 0] 35)) ∧
    Box (((w.alloc (.cells (hdC zh (.slice none 0 0)).toArray 34)).alloc (.cells #[.int .i64 0] 3)).alloc (.cells #[.int .i64 0] 35)) w.heap.size (hdC zh (.slice none 0 0)) ∧
    One (((w.alloc (.cells (hdC zh (.slice none 0 0)).toArray 34)).alloc (.cells #[.int .i64 0] 3)).alloc (.cells #[.int .i64 0] 35)) (w.heap.size + 1) 3 0 ∧
    One (((w.alloc (.cells (hdC zh (.slice none 0 0)).toArray 34)).alloc (.cells #[.int .i64 0] 3)).alloc (.cells #[.int .i64 0] 35)) (w.heap.size + 1 + 1) 35 0 := by
  refine ⟨(((Below.refl _ _).alloc (Nat.le_refl _) _).alloc (by simp) _).alloc (by simp; omega) _, ((Box.new w _).alloc _).alloc _, ?_, ?_⟩
  · refine One.below (w := (w.alloc (.cells (hdC zh (.slice none 0 0)).toArray 34)).alloc (.cells #[.int .i64 0] 3)) ?_ ((Below.refl _ _).alloc (Nat.le_refl _) _)
    have := heap_alloc_new (w.alloc (.cells (hdC zh (.slice none 0 0)).toArray 34)) (.cells #[.int .i64 0] 3)
    rw [World.size_alloc] at this
    exact this
  · have := heap_alloc_new ((w.alloc (.cells (hdC zh (.slice none 0 0)).toArray 34)).alloc (.cells #[.int .i64 0] 3)) (.cells #[.int .i64 0] 35)
    rw [World.size_alloc, World.size_alloc] at this
    exact this
theorem parse_no (s : ByteArray) (w : World) (hl : EnvL w) (he : EnvE w) (hs : s.size ≤ maxLen) (x y : Int) (hp : parseN s.data.toList = .no x y) :
  Calls Tryz.prog 10 #[.string s] w fun e w' => e = .returned (.tuple #[nodeV zh (.slice none 0 0), .int .i64 x, .int .i64 y]) ∧ Below w.heap.size w w' := by
 have hmf : ∀ (fn : Fn) (first cap : Array Value) (w : World), (Instr.makeFunc fn first cap).run Tryz.prog w = .ok (.func fn first cap) w := fun _ _ _ _ => rfl
 have HR : Hid (∀ W : World, EnvL W → Calls Tryz.prog 24 #[.string s] W fun e w' => e = .panicked [{ v := .iface 82 (.agg #[.int .i64 x, .int .i64 y]), recovered := false }] ∧ Below W.heap.size W w') := fun W hW => by
  have := read_any s W hW hs
  rw [hp] at this
  exact this
 have HL := hide (hl.below (three w).1)
 have HE := hide (he.below (three w).1)
 have HT := hide (three w)
 clear hl he hp
 go_enter_defers Tryz.func10, Tryz.ntmps10
 go_wp2_with (first | (go_at_call 24; refine (HR.out _ HL.out).mono ?_; rintro e w1 ⟨rfl, hb1⟩; have HB1 := hide hb1; clear hb1))
 refine leaves_cons (f := 22) (args := #[.pointer (some ⟨w.heap.size, 0, none⟩), .pointer (some ⟨w.heap.size + 1, 0, none⟩), .pointer (some ⟨w.heap.size + 1 + 1, 0, none⟩)]) (by simp) (by simp [go_sem]) ?_
 refine (catch_panicking w.heap.size (w.heap.size + 1) (w.heap.size + 1 + 1) x y 0 0 w1 (HE.out.below HB1.out) (hdC zh (.slice none 0 0)) rfl (Box.below HT.out.2.1 HB1.out) (One.below HT.out.2.2.1 HB1.out) (One.below HT.out.2.2.2 HB1.out) (by omega) (by omega) (by omega)).mono ?_
 rintro e u' w'' ⟨rfl, rfl, w2, hb2, rfl⟩
 have hx := (HT.out.2.1.below HB1.out).below hb2
 have h1 := (HT.out.2.2.1.below HB1.out).below hb2
 have h2 := (HT.out.2.2.2.below HB1.out).below hb2
 have hb := bar_below (bar_below HT.out.1 (Bar.of HB1.out)) (Bar.of hb2)
 refine ⟨_, Box.retP rfl (((hx.set (hdC zh (.slice none 0 0))).setOther (by omega) _ _).setOther (by omega) _ _) (((h1.row (by omega) _).set x).other (by omega) _ _) (((h2.row (by omega) _).other (by omega) _ _).set y) rfl rfl rfl, rfl, ?_⟩
 exact ((((Bar.of (R := w.heap.size) hb).row (Nat.le_refl _) _).setNew (Nat.le_succ _) _).setNew (Nat.le_succ_of_le (Nat.le_succ _)) _).up (Nat.le_refl _)
theorem parse_ok (s : ByteArray) (w : World) (hl : EnvL w) (hs : s.size ≤ maxLen) (h : Hd) (k : Fo) (hp : parseN s.data.toList = .ok h k) :
    Calls Tryz.prog 10 #[.string s] w fun e w' => ∃ a n cap, e = .returned (.tuple #[nodeV h (.slice a n cap), .int .i64 0, .int .i64 0]) ∧ Kv w' (New w w') (.slice a n cap) k ∧ Below w.heap.size w w' := by
  have hmf : ∀ (fn : Fn) (first cap : Array Value) (w : World), (Instr.makeFunc fn first cap).run Tryz.prog w = .ok (.func fn first cap) w := fun _ _ _ _ => rfl
  have HR : Hid (∀ W : World, EnvL W → Calls Tryz.prog 24 #[.string s] W fun e w' => ∃ a n cap, e = .returned (nodeV h (.slice a n cap)) ∧ Kv w' (New W w') (.slice a n cap) k ∧ Below W.heap.size W w') := fun W hW => by
    have := read_any s W hW hs
    rw [hp] at this
    exact this
  have HL := hide (hl.below (three w).1)
  have HT := hide (three w)
  clear hl hp
  go_enter_defers Tryz.func10, Tryz.ntmps10
  go_wp2_with (first | (go_at_call 24; refine (HR.out _ HL.out).mono ?_; rintro e w1 ⟨a, n, cap, rfl, hk1, hb1⟩; have HK1 := hide hk1; have HB1 := hide hb1; have HX1 := hide (HT.out.2.1.below hb1); have HY1 := HT.out.2.2.1.below hb1; have HY2 := HT.out.2.2.2.below hb1; have c1 := (HY1.row (g := w.heap.size) (by omega) (hdC h (.slice a n cap)).toArray).cell; have f1 := (HY1.row (g := w.heap.size) (by omega) (hdC h (.slice a n cap)).toArray).free; have c2 := ((HY2.row (g := w.heap.size) (by omega) (hdC h (.slice a n cap)).toArray).other (g := w.heap.size + 1) (by omega) 0 (.int .i64 0)).cell; have f2 := ((HY2.row (g := w.heap.size) (by omega) (hdC h (.slice a n cap)).toArray).other (g := w.heap.size + 1) (by omega) 0 (.int .i64 0)).free; clear hk1 hb1) | (with_reducible refine wpl_id ?_; refine wpl_store rfl _ _ rfl _ rfl rfl HX1.out rfl ?_))
  refine leaves_cons (f := 22) (args := #[.pointer (some ⟨w.heap.size, 0, none⟩), .pointer (some ⟨w.heap.size + 1, 0, none⟩), .pointer (some ⟨w.heap.size + 1 + 1, 0, none⟩)]) (by simp) (by simp [go_sem]) ?_
  refine (catch_idle _ _ _ _).mono ?_
  rintro e u' w'' ⟨rfl, rfl, rfl⟩
  have hb := bar_below HT.out.1 (Bar.of HB1.out)
  refine ⟨_, Box.retP rfl (((HX1.out.set (hdC h (.slice a n cap))).setOther (by omega) _ _).setOther (by omega) _ _) (((HY1.row (by omega) _).set 0).other (by omega) _ _) (((HY2.row (by omega) _).other (by omega) _ _).set 0) rfl rfl rfl, a, n, cap, rfl, ?_, ?_⟩
  · refine kv_to HK1.out (fun b hb => ?_)
    have h1 := hb.1
    simp only [World.size_alloc] at h1
    refine ⟨⟨by omega, by simpa [setRow_size] using hb.2⟩, ?_⟩
    rw [Below.heap_setCell _ _ _ _ (by show b ≠ w.heap.size + 1 + 1; omega), Below.heap_setCell _ _ _ _ (by show b ≠ w.heap.size + 1; omega), setRow_heap _ _ _ _ (by omega)]
  · exact ((((Bar.of (R := w.heap.size) hb).row (Nat.le_refl _) _).setNew (Nat.le_succ _) _).setNew (Nat.le_succ_of_le (Nat.le_succ _)) _).up (Nat.le_refl _)
theorem parse_fine {l : List UInt8} {h : Hd} {k : Fo} (e : parseN l = .ok h k) : rightN h k = true ∧ k.many + 1 ≤ 1025 ∧ k.deep + 1 ≤ 40 := by
  unfold parseN at e
  split at e
  · cases e
  · rename_i h0
    have h0' : (scanR l).2.2 = 0 := by simpa using h0
    cases hr : rd (.form 1) (scanR l).1 with
    | bad r => rw [hr] at e; cases e
    | ok h' k' r =>
      rw [hr] at e
      unfold endR at e
      simp only at e
      split at e
      · cases e
      · split at e
        · cases e
        · cases e
          obtain ⟨h1, h2⟩ := read_right h0' hr
          exact ⟨h1, h2, by omega⟩
theorem again_ok (s : ByteArray) (w : World) (hl : EnvL w) (ht : EnvT w) (hs : s.size ≤ maxLen) (h : Hd) (k : Fo) (hp : parseN s.data.toList = .ok h k) :
  Calls Tryz.prog 21 #[.string s] w fun e w' => e = .returned (.string ⟨(printN h k).1.toArray⟩) ∧ Below w.heap.size w w' := by
 obtain ⟨f1, f2, f3⟩ := parse_fine hp
 simp only [rightN, Bool.and_eq_true] at f1
 obtain ⟨s1, s2⟩ := alone_small f1.1
 have ho := right_ok k f1.2
 have HP : Hid (∀ W : World, EnvL W → Calls Tryz.prog 10 #[.string s] W fun e w' => ∃ a n cap, e = .returned (.tuple #[nodeV h (.slice a n cap), .int .i64 0, .int .i64 0]) ∧ Kv w' (New W w') (.slice a n cap) k ∧ Below W.heap.size W w') := fun W hW => parse_ok s W hW hs h k hp
 have HQ : Hid (∀ (D : Nat → Prop) (a : Option Addr) (n cap : Nat) (W : World), EnvT W → (∀ c, D c → c < W.heap.size) → Kv W D (.slice a n cap) k → Calls Tryz.prog 18 #[.agg (hdC h (.slice a n cap)).toArray] W fun e w' => e = .returned (.tuple #[.string ⟨(printN h k).1.toArray⟩, .int .i64 (printN h k).2]) ∧ Below W.heap.size W w') := fun D a n cap W hW hD hk => print_node D h k a n cap W hW hD hk (by omega) s1 s2 ho
 have HL := hide hl
 have HT := hide ht
 clear hp f1 f2 f3 s1 s2 ho hl ht
 generalize printN h k = X at *
 go_enter Tryz.func21, Tryz.ntmps21
 go_wp2_with (first | (go_at_call 10; refine (HP.out _ HL.out).mono ?_; rintro e w1 ⟨a, n, cap, rfl, hk1, hb1⟩; have HK1 := hide hk1; have HB1 := hide hb1; clear hk1 hb1) | (with_reducible refine wpl_id ?_; refine wpl_load rfl _ rfl _ rfl (by ((repeat' (first | with_reducible (first | exact Hid.out (by assumption) | apply Box.set | exact Box.new _ _ | apply Box.other | apply Box.alloc | apply Box.drew | apply Box.drewN) | omega)); done)) ?_) | (with_reducible refine wpl_id ?_; refine wpl_store rfl _ _ rfl _ rfl rfl (by ((repeat' (first | with_reducible (first | exact Hid.out (by assumption) | apply Box.set | exact Box.new _ _ | apply Box.other | apply Box.alloc | apply Box.drew | apply Box.drewN) | omega)); done)) rfl ?_) | (go_at_call 18; refine (HQ.out (fun c => c < w1.heap.size) a n cap _ ?_ ?_ ?_).mono ?_; (focus (exact HT.out.below (bar_below HB1.out (Bar.of (below_row _ _))))); (focus (intro c hc; exact Nat.lt_of_lt_of_le hc (below_row _ _).size)); (focus (exact kv_to HK1.out (fun b hb => ⟨hb.2, (below_row _ _).block b hb.2⟩))); rintro e w2 ⟨rfl, hb2⟩; have HB2 := hide (bar_below (bar_below HB1.out (Bar.of (below_row _ _))) (Bar.of hb2)); clear hb2))
 go_ret
 exact ⟨rfl, HB2.out⟩
def numH (n : Int) : Hd := ⟨1, 1, n, [], false, 0, 0, 0, false, false, 0, 0, false, false, []⟩
theorem lives_a : parseN [49, 43, 50, 42, 51] = .ok (binH [43]) (.cons (numH 1000000) .nil (.cons (binH [42]) (.cons (numH 2000000) .nil (.cons (numH 3000000) .nil .nil)) .nil)) := by kernel_rfl
theorem lives_b : parseN [49, 43] = .no 2 5 := by kernel_rfl
theorem lives_c : parseN [49, 45, 40, 50, 45, 51, 41] = .ok (binH [45]) (.cons (numH 1000000) .nil (.cons (binH [45]) (.cons (numH 2000000) .nil (.cons (numH 3000000) .nil .nil)) .nil)) := by kernel_rfl
theorem lives_c2 : (printN (binH [45]) (.cons (numH 1000000) .nil (.cons (binH [45]) (.cons (numH 2000000) .nil (.cons (numH 3000000) .nil .nil)) .nil))).1 = [49, 45, 40, 50, 45, 51, 41] := by kernel_rfl
theorem lives_d : parseN [40, 49, 45, 50, 41, 45, 51] = .ok (binH [45]) (.cons (binH [45]) (.cons (numH 1000000) .nil (.cons (numH 2000000) .nil .nil)) (.cons (numH 3000000) .nil .nil)) := by kernel_rfl
theorem lives_d2 : (printN (binH [45]) (.cons (binH [45]) (.cons (numH 1000000) .nil (.cons (numH 2000000) .nil .nil)) (.cons (numH 3000000) .nil .nil))).1 = [49, 45, 50, 45, 51] := by kernel_rfl
theorem lives_e : parseN [45, 40, 49, 43, 50, 41, 42, 51] = .ok (binH [42]) (.cons negH (.cons (binH [43]) (.cons (numH 1000000) .nil (.cons (numH 2000000) .nil .nil)) .nil) (.cons (numH 3000000) .nil .nil)) := by kernel_rfl
theorem lives_e2 : (printN (binH [42]) (.cons negH (.cons (binH [43]) (.cons (numH 1000000) .nil (.cons (numH 2000000) .nil .nil)) .nil) (.cons (numH 3000000) .nil .nil))).1 = [45, 40, 49, 43, 50, 41, 42, 51] := by kernel_rfl
theorem lives_f : parseN [115, 117, 109, 40, 32, 65, 49, 32, 41] = .ok (callH [83, 85, 77]) (.cons ⟨2, 0, 0, [], false, 0, 1, 1, false, false, 0, 0, false, false, []⟩ .nil .nil) := by kernel_rfl
theorem lives_f2 : (printN (callH [83, 85, 77]) (.cons ⟨2, 0, 0, [], false, 0, 1, 1, false, false, 0, 0, false, false, []⟩ .nil .nil)).1 = [83, 85, 77, 40, 65, 49, 41] := by kernel_rfl
end Go.Proofs.YtiaoaifoecmemaaGreatDoor
