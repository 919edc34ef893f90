/-
  A node that came in as an argument: what it is, and where its kids lie.
-/
import Derived.Test.YtiaoaifoecmemaaGreatDoorQ5
import Derived.ProofKit
import Derived.OpenShut
import Derived.WalkKit
import Derived.ChangeArms
import Derived.ChangeOld
import Derived.DataReads
import Derived.Deep.Slices
namespace Go.Proofs.YtiaoaifoecmemaaGreatDoor
open Go.ChangeShapes Go.WideShapes Go.ChangeAt Go.RowKit

theorem cut_at (cs : List Value) (a n : Nat) : cs.drop a = (cs.drop a).take n ++ cs.drop (a + n) := by
  rw [← List.drop_drop]; exact (List.take_append_drop n _).symm
theorem fld {H : Type} {enc : TypeId × Value → H} {W : World} {base : Nat} {sp : Nat → Bool} {held : Bool} {cs : List Value} {n t off c i : Nat} {xs : List (DataW H × List MemPlace)} (hc : Tryz.prog.cellsOf t = c) (hi : i < xs.length) (h : DataW.trod enc Tryz.prog W base sp held n t ((cs.drop off).take (Tryz.prog.cellsOf t)) = xs[i]?) : ∃ y, DataW.trod enc Tryz.prog W base sp held n t ((cs.drop off).take c) = some y := by
  rw [hc, List.getElem?_eq_getElem hi] at h; exact ⟨_, h⟩
theorem cut_end {cs : List Value} {n : Nat} (h : cs.length = n) : cs.drop n = [] := List.drop_eq_nil_of_le (by omega)
set_option maxRecDepth 100000 in
theorem open_spot {H : Type} {enc : TypeId × Value → H} {W : World} {base : Nat} {sp : Nat → Bool} {held : Bool} {fuel : Nat} {cs : List Value} {x : DataW H × List MemPlace} (h : DataW.trod enc Tryz.prog W base sp held fuel 29 cs = some x) : ∃ a b : Int, cs = [.int .i64 a, .int .i64 b] := by
  obtain ⟨xs, n, rfl, rfl, hl, hs, hfs⟩ := DataW.trod_struct Tryz.underlying29 h
  have hc : Tryz.prog.cellsOf 29 = 2 := by kernel_rfl
  have h1 : Tryz.prog.cellsOf 3 = 1 := by kernel_rfl
  have hs' : xs.length = 2 := hs
  obtain ⟨y0, f0⟩ := fld (t := 3) (off := 0) (i := 0) h1 (by omega) (hfs 0 _ rfl)
  obtain ⟨y1, f1⟩ := fld (t := 3) (off := 1) (i := 1) h1 (by omega) (hfs 1 _ rfl)
  obtain ⟨a0, e0, _⟩ := DataW.trod_int Tryz.underlying3 f0
  obtain ⟨a1, e1, _⟩ := DataW.trod_int Tryz.underlying3 f1
  have k0 := cut_at cs 0 1
  have k1 := cut_at cs 1 1
  rw [e0, Nat.zero_add] at k0; rw [e1, cut_end (hl.trans hc)] at k1
  exact ⟨a0, a1, by simpa [k1] using k0⟩
set_option maxRecDepth 100000 in
theorem open_cell8 {H : Type} {enc : TypeId × Value → H} {W : World} {base : Nat} {sp : Nat → Bool} {held : Bool} {fuel : Nat} {cs : List Value} {x : DataW H × List MemPlace} (h : DataW.trod enc Tryz.prog W base sp held fuel 31 cs = some x) : ∃ (a b : Int) (p q : Bool), cs = [.int .i64 a, .int .i64 b, .bool p, .bool q] := by
  obtain ⟨xs, n, rfl, rfl, hl, hs, hfs⟩ := DataW.trod_struct Tryz.underlying31 h
  have hc : Tryz.prog.cellsOf 31 = 4 := by kernel_rfl
  have ha : Tryz.prog.cellsOf 29 = 2 := by kernel_rfl
  have hb : Tryz.prog.cellsOf 4 = 1 := by kernel_rfl
  have hs' : xs.length = 3 := hs
  obtain ⟨y0, f0⟩ := fld (t := 29) (off := 0) (i := 0) ha (by omega) (hfs 0 _ rfl)
  obtain ⟨y1, f1⟩ := fld (t := 4) (off := 2) (i := 1) hb (by omega) (hfs 1 _ rfl)
  obtain ⟨y2, f2⟩ := fld (t := 4) (off := 3) (i := 2) hb (by omega) (hfs 2 _ rfl)
  obtain ⟨a0, b0, e0⟩ := open_spot f0
  obtain ⟨a1, e1, _⟩ := DataW.trod_bool Tryz.underlying4 f1
  obtain ⟨a2, e2, _⟩ := DataW.trod_bool Tryz.underlying4 f2
  have k0 := cut_at cs 0 2
  have k1 := cut_at cs 2 1
  have k2 := cut_at cs 3 1
  rw [e0, Nat.zero_add] at k0; rw [e1] at k1; rw [e2, cut_end (hl.trans hc)] at k2
  exact ⟨a0, b0, a1, a2, by simpa [k1, k2] using k0⟩
set_option maxRecDepth 100000 in
theorem open_value8 {H : Type} {enc : TypeId × Value → H} {W : World} {base : Nat} {sp : Nat → Bool} {held : Bool} {fuel : Nat} {cs : List Value} {x : DataW H × List MemPlace} (h : DataW.trod enc Tryz.prog W base sp held fuel 27 cs = some x) : ∃ (k n : Int) (s : ByteArray) (b : Bool) (c : Int), cs = [.int .i64 k, .int .i64 n, .string s, .bool b, .int .i64 c] ∧ s.size ≤ maxLen := by
  obtain ⟨xs, n, rfl, rfl, hl, hs, hfs⟩ := DataW.trod_struct Tryz.underlying27 h
  have hc : Tryz.prog.cellsOf 27 = 5 := by kernel_rfl
  have h1 : Tryz.prog.cellsOf 3 = 1 := by kernel_rfl
  have h1k : Tryz.prog.cellsOf 24 = 1 := by kernel_rfl
  have h1c : Tryz.prog.cellsOf 25 = 1 := by kernel_rfl
  have h1s : Tryz.prog.cellsOf 9 = 1 := by kernel_rfl
  have h1b : Tryz.prog.cellsOf 4 = 1 := by kernel_rfl
  have hs' : xs.length = 5 := hs
  obtain ⟨y0, f0⟩ := fld (t := 24) (off := 0) (i := 0) h1k (by omega) (hfs 0 _ rfl)
  obtain ⟨y1, f1⟩ := fld (t := 3) (off := 1) (i := 1) h1 (by omega) (hfs 1 _ rfl)
  obtain ⟨y2, f2⟩ := fld (t := 9) (off := 2) (i := 2) h1s (by omega) (hfs 2 _ rfl)
  obtain ⟨y3, f3⟩ := fld (t := 4) (off := 3) (i := 3) h1b (by omega) (hfs 3 _ rfl)
  obtain ⟨y4, f4⟩ := fld (t := 25) (off := 4) (i := 4) h1c (by omega) (hfs 4 _ rfl)
  obtain ⟨a0, e0, _⟩ := DataW.trod_int Tryz.underlying24 f0
  obtain ⟨a1, e1, _⟩ := DataW.trod_int Tryz.underlying3 f1
  obtain ⟨a2, e2, _, w2⟩ := DataW.trod_string Tryz.underlying9 f2
  obtain ⟨a3, e3, _⟩ := DataW.trod_bool Tryz.underlying4 f3
  obtain ⟨a4, e4, _⟩ := DataW.trod_int Tryz.underlying25 f4
  have k0 := cut_at cs 0 1
  have k1 := cut_at cs 1 1
  have k2 := cut_at cs 2 1
  have k3 := cut_at cs 3 1
  have k4 := cut_at cs 4 1
  rw [e0, Nat.zero_add] at k0; rw [e1] at k1; rw [e2] at k2; rw [e3] at k3; rw [e4, cut_end (hl.trans hc)] at k4
  exact ⟨a0, a1, a2, a3, a4, by simpa [k1, k2, k3, k4] using k0, w2⟩
set_option maxRecDepth 100000 in
/-- A node's cells: a head, and its kids' slice, read with less. -/
theorem open_head {H : Type} {enc : TypeId × Value → H} {W : World} {base : Nat} {sp : Nat → Bool} {held : Bool} {fuel : Nat} {cs : List Value} {x : DataW H × List MemPlace} (h : DataW.trod enc Tryz.prog W base sp held fuel 34 cs = some x) :
    ∃ (hd : Hd) (v : Value) (m : Nat) (y : DataW H × List MemPlace), cs = hdC hd v ∧ hd.vs.length ≤ maxLen ∧ hd.txt.length ≤ maxLen ∧ fuel = m + 1 ∧ DataW.trod enc Tryz.prog W base sp held m 32 [v] = some y := by
  obtain ⟨xs, n, rfl, rfl, hl, hs, hfs⟩ := DataW.trod_struct Tryz.underlying34 h
  have hc : Tryz.prog.cellsOf 34 = 16 := by kernel_rfl
  have h1k : Tryz.prog.cellsOf 23 = 1 := by kernel_rfl
  have h5 : Tryz.prog.cellsOf 27 = 5 := by kernel_rfl
  have h4 : Tryz.prog.cellsOf 31 = 4 := by kernel_rfl
  have h1s : Tryz.prog.cellsOf 9 = 1 := by kernel_rfl
  have h1n : Tryz.prog.cellsOf 32 = 1 := by kernel_rfl
  have hs' : xs.length = 6 := hs
  obtain ⟨y0, f0⟩ := fld (t := 23) (off := 0) (i := 0) h1k (by omega) (hfs 0 _ rfl)
  obtain ⟨y1, f1⟩ := fld (t := 27) (off := 1) (i := 1) h5 (by omega) (hfs 1 _ rfl)
  obtain ⟨y2, f2⟩ := fld (t := 31) (off := 6) (i := 2) h4 (by omega) (hfs 2 _ rfl)
  obtain ⟨y3, f3⟩ := fld (t := 31) (off := 10) (i := 3) h4 (by omega) (hfs 3 _ rfl)
  obtain ⟨y4, f4⟩ := fld (t := 9) (off := 14) (i := 4) h1s (by omega) (hfs 4 _ rfl)
  obtain ⟨y5, f5⟩ := fld (t := 32) (off := 15) (i := 5) h1n (by omega) (hfs 5 _ rfl)
  obtain ⟨a0, e0, _⟩ := DataW.trod_int Tryz.underlying23 f0
  obtain ⟨k, m, s, b, c, e1, w1⟩ := open_value8 f1
  obtain ⟨r, l, p, q, e2⟩ := open_cell8 f2
  obtain ⟨r', l', p', q', e3⟩ := open_cell8 f3
  obtain ⟨t, e4, _, w4⟩ := DataW.trod_string Tryz.underlying9 f4
  have e5 : ∃ v, (cs.drop 15).take 1 = [v] := by
    have : ((cs.drop 15).take 1).length = 1 := by simp; omega
    match hm : (cs.drop 15).take 1, this with
    | [v], _ => exact ⟨v, rfl⟩
  obtain ⟨v, e5⟩ := e5
  rw [e5] at f5
  have k0 := cut_at cs 0 1
  have k1 := cut_at cs 1 5
  have k2 := cut_at cs 6 4
  have k3 := cut_at cs 10 4
  have k4 := cut_at cs 14 1
  have k5 := cut_at cs 15 1
  rw [e0, Nat.zero_add] at k0; rw [e1] at k1; rw [e2] at k2; rw [e3] at k3; rw [e4] at k4; rw [e5, cut_end (hl.trans hc)] at k5
  exact ⟨⟨a0, k, m, s.data.toList, b, c, r, l, p, q, r', l', p', q', t.data.toList⟩, v, n, _, by simpa [k1, k2, k3, k4, k5, hdC] using k0, by simpa using w1, by simpa using w4, rfl, f5⟩
/-- Nodes read one behind the other. -/
theorem row_read {W : World} {D : Nat → Prop} {b o : Nat} (hD : D b) (len : Nat)
    (hx : ∀ i, i < len → ∃ hd v fo, (∀ j, j < 16 → W.cell? ⟨b, o + i * 16 + j, none⟩ = (hdC hd v)[j]?) ∧ Kv W D v fo ∧ hd.vs.length ≤ maxLen ∧ hd.txt.length ≤ maxLen ∧ okF fo) :
    ∀ (m i : Nat), i + m = len → ∃ F : Fo, F.len = m ∧ Row W D F b (o + i * 16) ∧ okF F
  | 0, _, _ => ⟨.nil, rfl, trivial, trivial⟩
  | m + 1, i, h => by
    obtain ⟨F, h1, h2, h3⟩ := row_read hD len hx m (i + 1) (by omega)
    obtain ⟨hd, v, fo, c1, c2, c3, c4, c5⟩ := hx i (by omega)
    exact ⟨.cons hd fo F, by rw [Fo.len, h1], row_cons.2 ⟨hD, ⟨v, c1, c2⟩, by rw [show o + i * 16 + 16 = o + (i + 1) * 16 by omega]; exact h2⟩, ⟨⟨c3, c4⟩, c5, h3⟩⟩
set_option maxRecDepth 100000 in
/-- A slice of nodes that can be read: some nodes. -/
theorem open_kids {H : Type} {enc : TypeId × Value → H} {W : World} {base : Nat} {sp : Nat → Bool} {held : Bool} : ∀ (f fuel : Nat) (v : Value) (x : DataW H × List MemPlace), fuel ≤ f →
    DataW.trod enc Tryz.prog W base sp held fuel 32 [v] = some x → ∃ fo : Fo, Kv W (fun c => c < W.heap.size) v fo ∧ okF fo
  | 0, fuel, v, x, hf, h => by
    obtain rfl : fuel = 0 := by omega
    simp [DataW.trod] at h
  | f + 1, fuel, v, x, hf, h => by
    have hc : Tryz.prog.cellsOf 34 = 16 := by kernel_rfl
    rcases DataW.trod_slice Tryz.underlying32 h with ⟨e, _⟩ | ⟨a, len, cap, elems, rest, n, rfl, e, _, _, hlc, hcap, hlen, hel, _⟩
    · obtain rfl : v = .slice none 0 0 := by simpa using e
      exact ⟨.nil, kv_nil _ _ _ _, trivial⟩
    · obtain rfl : v = .slice (some a) len cap := by simpa using e
      rcases Nat.eq_zero_or_pos len with h0 | hpos
      · subst h0; exact ⟨.nil, kv_nil _ _ _ _, trivial⟩
      · have hall : ∀ i, i < len → ∃ cs', W.cells? base (a.add (i * 16)) 16 = some cs' ∧ ∃ y, DataW.trod enc Tryz.prog W base sp held n 34 cs' = some y := by
          intro i hi
          have := hel i hi
          rw [hc, List.getElem?_eq_getElem (by omega)] at this
          obtain ⟨cs', h1, h2⟩ := Option.bind_eq_some_iff.1 this
          exact ⟨cs', h1, _, h2⟩
        have hz : a.spot = none ∧ a.block < W.heap.size := by
          obtain ⟨cs', h1, _⟩ := hall 0 hpos
          rw [Nat.zero_mul, show a.add 0 = a from rfl] at h1
          refine ⟨?_, World.cells?_block h1 (by omega)⟩
          obtain ⟨_, hl, hg⟩ := World.cells?_some h1
          have h2 := hg 0 (by omega)
          rw [show a.add 0 = a from rfl] at h2
          unfold World.cell? at h2
          split at h2
          · split at h2
            · rw [List.getElem?_eq_getElem (by omega)] at h2; cases h2
            · rename_i hn; cases hs : a.spot with
              | none => rfl
              | some u => rw [hs] at hn; simp at hn
          · rw [List.getElem?_eq_getElem (by omega)] at h2; cases h2
        obtain ⟨b, o, s⟩ := a
        obtain rfl : s = none := hz.1
        obtain ⟨F, h1, h2, h3⟩ := row_read (W := W) (D := fun c => c < W.heap.size) (b := b) (o := o) hz.2 len (fun i hi => by
          obtain ⟨cs', h1, y, h2⟩ := hall i hi
          obtain ⟨hd, u, m, z, rfl, w1, w2, e3, h3⟩ := open_head h2
          obtain ⟨fo, k1, k2⟩ := open_kids f m u z (by omega) h3
          refine ⟨hd, u, fo, fun j hj => ?_, k1, w1, w2, k2⟩
          obtain ⟨_, _, hg⟩ := World.cells?_some h1
          have := hg j hj
          rw [← this]
          congr 1
          unfold Addr.add
          split <;> split <;> simp_all <;> omega) len 0 (by omega)
        exact ⟨F, ⟨_, _, _, rfl, h1.symm, .inr ⟨b, o, rfl, hlc, hcap, by simpa using h2⟩⟩, h3⟩
set_option maxRecDepth 100000 in
theorem open_node {H : Type} {enc : TypeId × Value → H} {W : World} {base : Nat} {sp : Nat → Bool} {held : Bool} {r : Reach} {b0 : Nat} {v : Value} {d : DataW H} {ps : List MemPlace}
    (hval : Value.okWide Tryz.prog W r b0 34 v) (h : DataW.Trod enc Tryz.prog W base sp held 34 v d ps) :
    ∃ (hd : Hd) (fo : Fo) (sa : Option Addr) (sn sc : Nat), v = .agg (hdC hd (.slice sa sn sc)).toArray ∧ Kv W (fun c => c < W.heap.size) (.slice sa sn sc) fo ∧ hd.vs.length ≤ maxLen ∧ hd.txt.length ≤ maxLen ∧ okF fo := by
  simp only [Value.okWide, Tryz.underlying34] at hval
  obtain ⟨cs, rfl, _, _⟩ := hval
  obtain ⟨fuel, hf⟩ := h
  obtain ⟨hd, u, m, y, e, w1, w2, _, h3⟩ := open_head hf
  obtain ⟨fo, k1, k2⟩ := open_kids m m u y (Nat.le_refl _) h3
  obtain ⟨a, n, cap, rfl, _⟩ := k1
  refine ⟨hd, fo, a, n, cap, ?_, ⟨a, n, cap, rfl, ‹_›⟩, w1, w2, k2⟩
  simp only [Value.cells] at e
  rw [← e]
end Go.Proofs.YtiaoaifoecmemaaGreatDoor
