/-
  The contract of codes' write: a section's pieces, written.
-/
import Derived.Test.YtnhaapcpklfkpaaGreatDoorCd5
import Derived.Test.YtnhaapcpklfkpaaGreatDoorCd2
import Derived.Shelf.Strings.BuilderK
import Derived.RangeFuncRecord
namespace Go.Proofs.YtnhaapcpklfkpaaGreatDoor
open Go.RowKit

/-- What a piece writes; what a section writes. -/
def pieceT (p : Plc) (n y m d : Nat) (x : List UInt8) (q : Pc) : List UInt8 :=
  if q.k = 1 then numT p n else if q.k = 3 then dayT q.t y m d else if q.k = 4 then x else q.t
def secT (p : Plc) (n y m d : Nat) (x : List UInt8) (ps : List Pc) : List UInt8 := ps.flatMap (pieceT p n y m d x)
/-- Pieces that lie in a row. -/
def PcsAt (w : World) (u : Value) (ps : List Pc) : Prop :=
  ∃ p cap, u = .slice p ps.length cap ∧ (ps = [] ∨ ∃ gp, p = some ⟨gp, 0, none⟩ ∧ gp < w.heap.size ∧ ∀ i q, ps[i]? = some q → w.cell? ⟨gp, i * 2, none⟩ = some (.int .i64 q.k) ∧ w.cell? ⟨gp, i * 2 + 1, none⟩ = some (.string ⟨q.t.toArray⟩))
theorem PcsAt.below {w w' : World} {u : Value} {ps : List Pc} (h : PcsAt w u ps) (k : Below w.heap.size w w') : PcsAt w' u ps := by
  obtain ⟨p, cap, e, h⟩ := h
  refine ⟨p, cap, e, h.imp id fun ⟨gp, ep, hg, hc⟩ => ⟨gp, ep, Nat.lt_of_lt_of_le hg k.size, fun i q hq => ?_⟩⟩
  obtain ⟨h1, h2⟩ := hc i q hq
  exact ⟨(k.cell (p := ⟨gp, i * 2, none⟩) hg).trans h1, (k.cell (p := ⟨gp, i * 2 + 1, none⟩) hg).trans h2⟩
theorem clays166 : Go.Proofs.Lays.n166 Tryz.prog Tryz.lays156_ren := { Tryz.lays156 with }
theorem writes_any (B b : Nat) (bs : List Value) (s : ByteArray) (w : World) (h : Lib.IsBuilderF 104 5 B b bs w) (hlen : bs.length + s.size ≤ 140737488355328) (hBw : B ≤ w.heap.size) :
    Calls Tryz.prog 56 #[.pointer (some ⟨b, 0, none⟩), .string s] w fun e w' => e = .returned (.tuple #[.int .i64 s.size, .nilIface]) ∧ (Lib.BuilderAtF 104 5 B b (.pointer (some ⟨b, 0, none⟩)) (bs ++ Lib.strCells s) w' ∧ Below B w w' ∧ Lib.OthersKept 5 (some b) w w') :=
  Any.Builder_WriteString_k clays166 Tryz.Builder_Extra_156 B b bs s w h hlen hBw
theorem string_any (B b : Nat) (l : List UInt8) (w : World) (h : Lib.IsBuilderF 104 5 B b (Lib.byteCells l) w) (hBw : B ≤ w.heap.size) :
    Calls Tryz.prog 58 #[.pointer (some ⟨b, 0, none⟩)] w fun e w' => e = .returned (.string ⟨l.toArray⟩) ∧ (Lib.IsBuilderF 104 5 B b (Lib.byteCells l) w' ∧ Below B w w' ∧ Lib.OthersKept 5 (some b) w w') :=
  Any.Builder_String_any_k Tryz.lays169 Tryz.Builder_Extra_169 B b l w h hBw
theorem grown_none {w w' : World} (h : Below w.heap.size w w') : w.grownBy w' none := ⟨h.os, h.tape, h.output, h.size, fun k hk _ => h.block k hk⟩
theorem atF_below {B b : Nat} {p : Value} {bs : List Value} {w w' : World} (h : Lib.BuilderAtF 104 5 B b p bs w) (k : Below w.heap.size w w') : Lib.BuilderAtF 104 5 B b p bs w' := by
  obtain ⟨hB, v, hb, ho, hn⟩ := h
  exact ⟨hB, v, (k.block b (Array.getElem?_eq_some_iff.1 hb).1).trans hb, ho.kept (grown_none k) (Classical.or_iff_not_imp_left.2 fun h => h), hn⟩
theorem isF_below {B b : Nat} {bs : List Value} {w w' : World} (h : Lib.IsBuilderF 104 5 B b bs w) (k : Below w.heap.size w w') : Lib.IsBuilderF 104 5 B b bs w' :=
  h.imp (fun x => atF_below x k) (fun x => atF_below x k)
/-- The state of the writing: the writer's block, the builder's, and what is written. -/
structure WrS (w0 : World) (bw bb : Nat) (p : Plc) (n y m d : Nat) (x l : List UInt8) (X : World) : Prop where
  bel : Below w0.heap.size w0 X
  wr : WrAt X bw p n y m d x
  bld : Lib.IsBuilderF 104 5 w0.heap.size bb (Lib.byteCells l) X
  ne : bw ≠ bb
theorem WrS.below {w0 : World} {bw bb : Nat} {p : Plc} {n y m d : Nat} {x l : List UInt8} {X Y : World} (h : WrS w0 bw bb p n y m d x l X) (k : Below X.heap.size X Y) : WrS w0 bw bb p n y m d x l Y :=
  ⟨up h.bel k, h.wr.below k, isF_below h.bld k, h.ne⟩
theorem WrS.wrote {w0 : World} {bw bb : Nat} {p : Plc} {n y m d : Nat} {x l t : List UInt8} {X Y : World} (h : WrS w0 bw bb p n y m d x l X) (h1 : Lib.BuilderAtF 104 5 w0.heap.size bb (.pointer (some ⟨bb, 0, none⟩)) (Lib.byteCells l ++ Lib.strCells ⟨t.toArray⟩) Y) (h2 : Below w0.heap.size X Y) (h3 : Lib.OthersKept 5 (some bb) X Y) : WrS w0 bw bb p n y m d x (l ++ t) Y :=
  ⟨h.bel.trans h2, h3 bw _ h.wr (fun e => h.ne (by cases e; rfl)) (fun c fz e => by cases e), .inr (by rw [Lib.byteCells_append]; exact h1), h.ne⟩
theorem secT_snoc (p : Plc) (n y m d : Nat) (x : List UInt8) (ps : List Pc) (k : Nat) (q : Pc) (h : ps[k]? = some q) : secT p n y m d x (ps.take (k + 1)) = secT p n y m d x (ps.take k) ++ pieceT p n y m d x q := by
  unfold secT
  rw [List.take_add_one, h]
  simp
/-- What is held while a piece is written. -/
def PwS (b k : Nat) (t : ByteArray) (w0 X : World) : Prop := X.cell? ⟨b, 0, none⟩ = some (.int .i64 k) ∧ X.cell? ⟨b, 1, none⟩ = some (.string t) ∧ X.heap[b]? = some (.cells #[.int .i64 k, .string t] 93 (0, 0)) ∧ Below w0.heap.size w0 X
theorem PwS.of {b k : Nat} {t : ByteArray} {w0 X : World} (h : X.heap[b]? = some (.cells #[.int .i64 k, .string t] 93 (0, 0))) (hb : Below w0.heap.size w0 X) : PwS b k t w0 X :=
  ⟨by simp [World.cell?, h], by simp [World.cell?, h], h, hb⟩
theorem PwS.below {b k : Nat} {t : ByteArray} {w0 X Y : World} (h : PwS b k t w0 X) (j : Below X.heap.size X Y) : PwS b k t w0 Y :=
  .of ((j.block b (Array.getElem?_eq_some_iff.1 h.2.2.1).1).trans h.2.2.1) (up h.2.2.2 j)
theorem PwS.drew {b k : Nat} {t : ByteArray} {w0 X : World} (h : PwS b k t w0 X) : PwS b k t w0 X.drew := h.below (Below.refl _ _).drew
theorem PwS.wrote {b k bb : Nat} {t : ByteArray} {w0 X Y : World} (h : PwS b k t w0 X) (hne : b ≠ bb) (h2 : Below w0.heap.size X Y) (h3 : Lib.OthersKept 5 (some bb) X Y) : PwS b k t w0 Y :=
  .of (h3 b _ h.2.2.1 (fun e => hne (by cases e; rfl)) (fun c fz e => by cases e)) (h.2.2.2.trans h2)
/-- What calls the method that a kind has, and what it tells. -/
def ByOk (F : Nat) (w0 : World) (bw bb : Nat) (p : Plc) (n y m d : Nat) (x : List UInt8) (q : Pc) : Prop :=
  (∀ W : World, Calls Tryz.prog 57 #[.pointer (some ⟨bw, 0, none⟩), .int .i64 q.k] W fun e w' => e = .returned (.func (.func F) #[.pointer (some ⟨bw, 0, none⟩)] #[]) ∧ w' = W) ∧
  ∀ (W : World) (l : List UInt8), WrS w0 bw bb p n y m d x l W → Calls Tryz.prog F #[.pointer (some ⟨bw, 0, none⟩), pcV q] W fun e w' => e = .returned (.string ⟨(pieceT p n y m d x q).toArray⟩) ∧ Below W.heap.size W w'
theorem by_ok (w0 : World) (bw bb : Nat) (p : Plc) (n y m d : Nat) (x : List UInt8) (q : Pc) (ht : TabOk w0) (hn : n ≤ 9223372036854775807) (hp : p.noughts ≤ 1000) (hf : p.fixed ≤ 1000) (hy : y ≤ 100000) (hm : m ≤ 100000) (hd : d ≤ 100000) (hq : q.t.length ≤ 1000) :
    ByOk 81 w0 bw bb p n y m d x q ∨ ByOk 82 w0 bw bb p n y m d x q ∨ ByOk 83 w0 bw bb p n y m d x q ∨ ByOk 84 w0 bw bb p n y m d x q := by
  by_cases h1 : q.k = 1
  · refine .inl ⟨fun W => by_num _ _ W h1, fun W l h => ?_⟩
    have e : pieceT p n y m d x q = numT p n := by unfold pieceT; rw [if_pos h1]
    rw [e]
    exact digits_any bw p n y m d x q W h.wr hn hp hf (tab_below ht h.bel)
  by_cases h3 : q.k = 3
  · refine .inr (.inl ⟨fun W => by_day _ _ W h3, fun W l h => ?_⟩)
    have e : pieceT p n y m d x q = dayT q.t y m d := by unfold pieceT; rw [if_neg h1, if_pos h3]
    rw [e]
    exact wpart_any bw p n y m d x q W h.wr hy hm hd hq (tab_below ht h.bel)
  by_cases h4 : q.k = 4
  · refine .inr (.inr (.inl ⟨fun W => by_text _ _ W h4, fun W l h => ?_⟩))
    have e : pieceT p n y m d x q = x := by unfold pieceT; rw [if_neg h1, if_neg h3, if_pos h4]
    rw [e]
    exact wwhole_any bw p n y m d x q W h.wr
  · refine .inr (.inr (.inr ⟨fun W => by_self _ _ W h1 h3 h4, fun W l h => ?_⟩))
    have e : pieceT p n y m d x q = q.t := by unfold pieceT; rw [if_neg h1, if_neg h3, if_neg h4]
    rw [e]
    exact itself_any _ q W
theorem secT_len (p : Plc) (n y m d : Nat) (x : List UInt8) : ∀ (ps : List Pc), (∀ q ∈ ps, (pieceT p n y m d x q).length ≤ 5000) → (secT p n y m d x ps).length ≤ ps.length * 5000
  | [], _ => by simp [secT]
  | q :: ps, h => by
    have h1 := h q (List.mem_cons_self ..)
    have h2 := secT_len p n y m d x ps (fun q hq => h q (List.mem_cons_of_mem _ hq))
    unfold secT at *
    rw [List.flatMap_cons, List.length_append, List.length_cons]
    omega
theorem wr_start (w0 : World) (p : Plc) (n y m d : Nat) (x : List UInt8) : WrS w0 w0.heap.size (w0.heap.size + 1) p n y m d x [] ((w0.alloc (.cells (wrC p n y m d x).toArray 70)).alloc (.cells #[.pointer none, .slice none 0 0] 104)) := by
  have z : (w0.alloc (.cells (wrC p n y m d x).toArray 70)).heap.size = w0.heap.size + 1 := by simp
  refine ⟨by repeat' (first | with_reducible exact Below.refl _ _ | with_reducible refine Below.setCell ?_ ?_ _ | with_reducible refine Below.alloc ?_ ?_ _ | with_reducible refine below_drewN ?_ _ | with_reducible refine Below.drew ?_ | with_reducible refine Below.trans ?_ (Below.mono (by assumption) ?_) | with_reducible exact Nat.le_refl _ | with_reducible refine Nat.le_trans ?_ (Below.size (by assumption)) | with_reducible refine Nat.le_trans ?_ (size_alloc _ _) | with_reducible refine Nat.le_trans ?_ (size_set _ _ _) | with_reducible refine Nat.le_trans ?_ (size_drewN _ _) | with_reducible refine Nat.le_trans ?_ (size_drew _) | (simp; done) | (simp; omega) | omega), ?_, .inl ⟨by omega, .slice none 0 0, ?_, World.ownsRowF_nil _ _ _ _, by simp [Value.ownBlock]⟩, by omega⟩
  · exact (Below.heap_alloc _ _ _ (by simp)).trans (World.alloc_heap_new w0 _)
  · have := World.alloc_heap_new (w0.alloc (.cells (wrC p n y m d x).toArray 70)) (.cells #[.pointer none, .slice none 0 0] 104)
    rw [z] at this
    exact this
set_option maxHeartbeats 8000000 in
theorem write_any (g off : Nat) (u : Value) (ps : List Pc) (p : Plc) (n y m d : Nat) (x : List UInt8) (w0 : World) (hs : SecAt w0 g off u ps) (hpc : PcsAt w0 u ps) (ht : TabOk w0) (hn : n ≤ 9223372036854775807) (hp : p.noughts ≤ 1000) (hf : p.fixed ≤ 1000) (hy : y ≤ 100000) (hm : m ≤ 100000) (hd : d ≤ 100000)
    (hq : ∀ q ∈ ps, q.t.length ≤ 1000) (hl : ∀ q ∈ ps, (pieceT p n y m d x q).length ≤ 5000) (hk : ps.length ≤ 1000) :
    Calls Tryz.prog 30 #[.pointer (some ⟨g, off, none⟩), .agg (wrC p n y m d x).toArray] w0 fun e w' => e = .returned (.string ⟨(secT p n y m d x ps).toArray⟩) ∧ Below w0.heap.size w0 w' := by
  have HBY := hide (fun bw bb q (h : q ∈ ps) => by_ok w0 bw bb p n y m d x q ht hn hp hf hy hm hd (hq q h))
  have HL := hide hl
  have HSL := hide (fun k => secT_len p n y m d x (ps.take k) (fun q h => hl q (List.mem_of_mem_take h)))
  have HW := hide (wr_start w0 p n y m d x)
  obtain ⟨pp, cap, rfl, hpc⟩ := hpc
  have hc0 : w0.cell? ⟨g, off, none⟩ = some (.slice pp ps.length cap) := hs.2 0 (by omega)
  have hg := hs.1
  have HPC := hide hpc
  clear hs ht hn hp hf hy hm hd hq hl hpc
  have hb0 : Below w0.heap.size w0 ((w0.alloc (.cells (wrC p n y m d x).toArray 70)).alloc (.cells #[.pointer none, .slice none 0 0] 104)) := HW.out.bel
  have hc1 : ((w0.alloc (.cells (wrC p n y m d x).toArray 70)).alloc (.cells #[.pointer none, .slice none 0 0] 104)).cell? ⟨g, off, none⟩ = some (.slice pp ps.length cap) := (hb0.cell (p := ⟨g, off, none⟩) hg).trans hc0
  simp only [wrC] at hc1
  simp only [wrC]
  go_enter Tryz.func30, Tryz.ntmps30
  go_wp2
  go_loopw [13] (fun ks wr => ∃ k : Nat, k ≤ ps.length ∧ ks = .int .i64 k ∧ WrS w0 w0.heap.size (w0.heap.size + 1) p n y m d x (secT p n y m d x (ps.take k)) wr) (fun ks _ => ps.length - (intOf ks).toNat)
  case atStart => exact ⟨0, Nat.zero_le _, rfl, HW.out⟩
  case round =>
    obtain ⟨k, hkl, rfl, hst⟩ := hrel
    have HST := hide hst
    have hki : (k : Int) ≤ 1000 := by omega
    have hpi : (ps.length : Int) ≤ 1000 := by omega
    clear hst hb0 hc1 hc0
    by_cases hlt : k < ps.length
    · have hq : ps[k]? = some ps[k] := List.getElem?_eq_getElem hlt
      have hmem : ps[k] ∈ ps := List.getElem_mem hlt
      have HSN := hide (secT_snoc p n y m d x ps k ps[k] hq)
      have hbok := HBY.out w0.heap.size (w0.heap.size + 1) ps[k] hmem
      have hpl := HL.out ps[k] hmem
      have hsl : (secT p n y m d x (ps.take k)).length ≤ 5000000 := by
        have h1 := HSL.out k
        have h2 : (ps.take k).length ≤ 1000 := by rw [List.length_take]; omega
        have : (ps.take k).length * 5000 ≤ 1000 * 5000 := Nat.mul_le_mul_right _ h2
        omega
      rcases HPC.out with he | ⟨gp, rfl, hgp, hcs⟩
      · rw [he] at hlt; simp at hlt
      obtain ⟨ha, hb⟩ := hcs k _ hq
      have ha' : wr.cell? ⟨gp, k * 2, none⟩ = some (.int .i64 ps[k].k) := (HST.out.bel.cell (p := ⟨gp, k * 2, none⟩) hgp).trans ha
      have hb' : wr.cell? ⟨gp, k * 2 + 1, none⟩ = some (.string ⟨ps[k].t.toArray⟩) := (HST.out.bel.cell (p := ⟨gp, k * 2 + 1, none⟩) hgp).trans hb
      clear ha hb hq hmem hcs
      generalize secT p n y m d x (ps.take k) = S0 at *
      generalize ps[k] = q at *
      have hz := HST.out.bel.size
      have hwz : w0.heap.size + 1 < wr.heap.size := by
        rcases HST.out.bld with h | h
        · exact (Array.getElem?_eq_some_iff.1 h.2.choose_spec.1).1
        · exact (Array.getElem?_eq_some_iff.1 h.2.choose_spec.1).1
      have HA : Hid (WrS w0 w0.heap.size (w0.heap.size + 1) p n y m d x S0 (wr.alloc (.cells #[.int .i64 q.k, .string ⟨q.t.toArray⟩] 93)).drew) := HST.out.below (((Below.refl _ wr).alloc (Nat.le_refl _) _).drew)
      have HP : Hid (PwS wr.heap.size q.k ⟨q.t.toArray⟩ w0 (wr.alloc (.cells #[.int .i64 q.k, .string ⟨q.t.toArray⟩] 93)).drew) := PwS.of (World.alloc_heap_new wr _) HA.out.bel
      have hne : wr.heap.size ≠ w0.heap.size + 1 := by omega
      have sz := mk_size (pieceT p n y m d x q)
      rcases hbok with hbok | hbok | hbok | hbok
      all_goals
        obtain ⟨hby, hme⟩ := hbok
        have HB1 := hide hby
        have HB2 := hide hme
        simp only [pcV] at HB2
        clear hby hme
        generalize pieceT p n y m d x q = T at *
        go_wp2_with fail
        go_region_held3 (fun X => X.cell? ⟨wr.heap.size, 0, none⟩ = some (.int .i64 q.k) ∧ X.cell? ⟨wr.heap.size, 1, none⟩ = some (.string ⟨q.t.toArray⟩) ∧ X.heap[wr.heap.size]? = some (.cells #[.int .i64 q.k, .string ⟨q.t.toArray⟩] 93 (0, 0)) ∧ Below w0.heap.size w0 X) (first | exact HP.out | assumption) (first | (go_at_call 57; refine (HB1.out _).mono ?_; rintro e wz ⟨rfl, hz0⟩; subst wz) | ((first | go_at_call 81 | go_at_call 82 | go_at_call 83 | go_at_call 84); refine (HB2.out _ _ HA.out).mono ?_; rintro e w2 ⟨rfl, hb2⟩; have HA2 := hide (HA.out.below hb2); have hs2 := PwS.below HP.out hb2) | (go_at_call 56; refine (writes_any w0.heap.size (w0.heap.size + 1) (Lib.byteCells S0) ⟨T.toArray⟩ _ HA2.out.bld (by (rw [Lib.byteCells_length, sz]; omega)) HA2.out.bel.size).mono ?_; rintro e w3 ⟨rfl, j1, j2, j3⟩; have HA3 := hide (HA2.out.wrote j1 j2 j3); have hs3 := PwS.wrote hs2 hne j2 j3))
      all_goals go_wp2
      all_goals go_roundw
      all_goals first
        | exact ⟨k + 1, by omega, by go_num, HSN.out.symm ▸ HA3.out⟩
        | (simp [intOf]; omega)
    · obtain rfl : k = ps.length := by omega
      have hlast : ps.take ps.length = ps := List.take_length
      rw [hlast] at HST
      clear hlast
      go_wp2_with (go_at_call 58; refine (string_any w0.heap.size (w0.heap.size + 1) _ _ HST.out.bld HST.out.bel.size).mono ?_; rintro e w3 ⟨rfl, j1, j2, j3⟩)
      go_ret
      exact ⟨rfl, HST.out.bel.trans j2⟩
end Go.Proofs.YtnhaapcpklfkpaaGreatDoor
