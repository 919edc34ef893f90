/-
  The contracts of codes' refuse, row, plain, quoted, escaped, partOfDay and first.
-/
import Derived.Test.YtnhaapcpklfkpaaGreatDoorCd1
import Derived.Test.YtnhaapcpklfkpaaGreatDoorVNum2
import Derived.Shelf.Strings.SlTrimAscii
import Derived.Laws.EntriesVeiled
namespace Go.Proofs.YtnhaapcpklfkpaaGreatDoor
open Go.RowKit

/-- What a reader gives up with: the text is no format. -/
def RF : List PanicEntry := [{ v := .iface 57 (.int .i64 5), recovered := false }]
/-- A piece, as the program has it. -/
def pcV (p : Pc) : Value := .agg #[.int .i64 p.k, .string ⟨p.t.toArray⟩]
/-- A piece and its length, or none. -/
def toldP (o : Option (Pc × Nat)) (e : Ending) : Prop :=
  match o with
  | some x => e = .returned (.tuple #[pcV x.1, .int .i64 x.2])
  | none => e = .panicked RF

theorem refuse_any (w : World) : Calls Tryz.prog 47 #[] w fun e w' => e = .panicked RF ∧ w' = w := by
  go_enter Tryz.func47, Tryz.ntmps47
  go_wp2
  exact ⟨rfl, rfl, rfl⟩
theorem info_set : (Tryz.prog.info? (Tryz.lays161_ren.t 116)).map (fun i => (i.zero, i.size)) = some (some (.agg (Array.replicate 256 (.bool false))), 256) := by kernel_rfl
theorem trimLeft_any (s cs : List UInt8) (w : World) (hcs : cs.length ≤ 1000) (h : ∀ b ∈ cs, b.toNat < 128) :
    Calls Tryz.prog 125 #[.string ⟨s.toArray⟩, .string ⟨cs.toArray⟩] w fun e w' => e = .returned (.string ⟨(Lib.trimLeftS s cs).toArray⟩) ∧ Below w.heap.size w w' :=
  Any.strings_TrimLeft_ascii Tryz.lays161 (zero_of_info info_set).1 (zero_of_info info_set).2 ⟨s.toArray⟩ ⟨cs.toArray⟩ w (by rw [mk_size]; omega) (fun j b hb => h b (List.mem_of_getElem? hb))
theorem row_any (s cs : List UInt8) (w : World) (hs : s.length ≤ 100000) (hcs : cs.length ≤ 1000) (h : ∀ b ∈ cs, b.toNat < 128) :
    Calls Tryz.prog 103 #[.string ⟨s.toArray⟩, .string ⟨cs.toArray⟩] w fun e w' => e = .returned (.int .i64 (rowLen s cs)) ∧ Below w.heap.size w w' := by
  have HT := hide (fun W => trimLeft_any s cs W hcs h)
  have hl : (Lib.trimLeftS s cs).length ≤ s.length := by
    unfold Lib.trimLeftS; exact (List.dropWhile_sublist _).length_le
  have hr : (s.length : Int) - ((Lib.trimLeftS s cs).length : Int) = (rowLen s cs : Int) := by unfold rowLen; omega
  have sz := mk_size s
  have szt := mk_size (Lib.trimLeftS s cs)
  generalize rowLen s cs = N at *
  generalize Lib.trimLeftS s cs = T at *
  clear h
  go_enter Tryz.func103, Tryz.ntmps103
  go_wp2_with (go_at_call 125; refine (HT.out _).mono ?_; rintro e w1 ⟨rfl, hb1⟩)
  go_ret
  exact ⟨ret_num rfl, by repeat' (first | with_reducible exact Below.refl _ _ | with_reducible refine Below.setCell ?_ ?_ _ | with_reducible refine Below.alloc ?_ ?_ _ | with_reducible refine below_drewN ?_ _ | with_reducible refine Below.drew ?_ | with_reducible refine Below.trans ?_ (Below.mono (by assumption) ?_) | with_reducible exact Nat.le_refl _ | with_reducible refine Nat.le_trans ?_ (Below.size (by assumption)) | with_reducible refine Nat.le_trans ?_ (size_alloc _ _) | with_reducible refine Nat.le_trans ?_ (size_set _ _ _) | with_reducible refine Nat.le_trans ?_ (size_drewN _ _) | with_reducible refine Nat.le_trans ?_ (size_drew _) | (simp; done) | (simp; omega) | omega)⟩
set_option maxHeartbeats 1000000 in
theorem plain_any (k n : Nat) (s : List UInt8) (w : World) (hn : n ≤ s.length) :
    Calls Tryz.prog 101 #[.int .i64 k, .string ⟨s.toArray⟩, .int .i64 n] w fun e w' => e = .returned (.tuple #[pcV ⟨k, s.take n⟩, .int .i64 n]) ∧ Below w.heap.size w w' := by
  have sz := mk_size s
  have x1 := mk_take s n
  simp only [pcV]
  go_enter Tryz.func101, Tryz.ntmps101
  go_wp2
  refine bodyPost_ret (v := .tuple #[.agg #[.int .i64 k, .string ⟨(s.take n).toArray⟩], .int .i64 n]) (by simp [results, Tryz.results101, go_sem]) rfl ⟨rfl, ?_⟩
  repeat' (first | with_reducible exact Below.refl _ _ | with_reducible refine Below.setCell ?_ ?_ _ | with_reducible refine Below.alloc ?_ ?_ _ | with_reducible refine below_drewN ?_ _ | with_reducible refine Below.drew ?_ | with_reducible refine Below.trans ?_ (Below.mono (by assumption) ?_) | with_reducible exact Nat.le_refl _ | with_reducible refine Nat.le_trans ?_ (Below.size (by assumption)) | with_reducible refine Nat.le_trans ?_ (size_alloc _ _) | with_reducible refine Nat.le_trans ?_ (size_set _ _ _) | with_reducible refine Nat.le_trans ?_ (size_drewN _ _) | with_reducible refine Nat.le_trans ?_ (size_drew _) | (simp; done) | (simp; omega) | omega)
theorem cut_at (s : List UInt8) (c : UInt8) (w : World) (hs : s.length ≤ 100000) (hc : CellOk w) :
    Calls Tryz.prog 105 #[.string ⟨s.toArray⟩, .string ⟨#[c]⟩] w fun e w' => e = .returned (.tuple #[.string ⟨(Lib.cut s [c]).1.toArray⟩, .string ⟨(Lib.cut s [c]).2.1.toArray⟩, .bool (Lib.cut s [c]).2.2]) ∧ Below w.heap.size w w' := by
  obtain ⟨m, hm⟩ := hc
  refine (Tryz.strings_Cut ⟨s.toArray⟩ ⟨#[c]⟩ m w (by rw [mk_size]; omega) hm).mono ?_
  rintro e w' ⟨rfl, n, rfl⟩
  exact ⟨rfl, below_drewN (Below.refl _ _) n⟩
theorem mk_tail (c : UInt8) (r : List UInt8) : (⟨(c :: r).toArray⟩ : ByteArray).extract 1 (r.length + 1) = ⟨r.toArray⟩ := by
  rw [Lib.extract_mk]
  congr 2
  simp
set_option maxHeartbeats 2000000 in
theorem quoted_any (c : UInt8) (r : List UInt8) (w : World) (hs : r.length ≤ 10000) (hc : CellOk w) :
    Calls Tryz.prog 99 #[.string ⟨(c :: r).toArray⟩] w fun e w' => toldP (quotedR r) e ∧ Below w.heap.size w w' := by
  have HC : Hid (∀ W : World, Below w.heap.size w W → Calls Tryz.prog 105 #[.string ⟨r.toArray⟩, .string ⟨#[34]⟩] W fun e w' => e = .returned (.tuple #[.string ⟨(Lib.cut r [34]).1.toArray⟩, .string ⟨(Lib.cut r [34]).2.1.toArray⟩, .bool (Lib.cut r [34]).2.2]) ∧ Below W.heap.size W w') := fun W hW => cut_at r 34 W (by omega) (cellOk_below hc hW)
  have hq : quotedR r = if (Lib.cut r [34]).2.2 then some (⟨0, (Lib.cut r [34]).1⟩, (Lib.cut r [34]).1.length + 2) else none := rfl
  have hl := ccut_len r
  have sz : (⟨(c :: r).toArray⟩ : ByteArray).size = r.length + 1 := mk_size (c :: r)
  have x1 := mk_tail c r
  rw [hq]
  clear hq hc
  generalize (⟨(c :: r).toArray⟩ : ByteArray) = S at *
  generalize (Lib.cut r [34]).2.1 = B at *
  have szA := mk_size (Lib.cut r [34]).1
  generalize (Lib.cut r [34]).1 = A at *
  cases hb : (Lib.cut r [34]).2.2
  · rw [hb] at HC
    go_enter Tryz.func99, Tryz.ntmps99
    go_wp2_with (first | (go_at_call 105; refine (HC.out _ (by repeat' (first | with_reducible exact Below.refl _ _ | with_reducible refine Below.setCell ?_ ?_ _ | with_reducible refine Below.alloc ?_ ?_ _ | with_reducible refine below_drewN ?_ _ | with_reducible refine Below.drew ?_ | with_reducible refine Below.trans ?_ (Below.mono (by assumption) ?_) | with_reducible exact Nat.le_refl _ | with_reducible refine Nat.le_trans ?_ (Below.size (by assumption)) | with_reducible refine Nat.le_trans ?_ (size_alloc _ _) | with_reducible refine Nat.le_trans ?_ (size_set _ _ _) | with_reducible refine Nat.le_trans ?_ (size_drewN _ _) | with_reducible refine Nat.le_trans ?_ (size_drew _) | (simp; done) | (simp; omega) | omega))).mono ?_; rintro e w1 ⟨rfl, hb1⟩) | (go_at_call 47; refine (refuse_any _).mono ?_; rintro e wz ⟨rfl, hz⟩; subst wz))
    exact ⟨rfl, rfl, by repeat' (first | with_reducible exact Below.refl _ _ | with_reducible refine Below.setCell ?_ ?_ _ | with_reducible refine Below.alloc ?_ ?_ _ | with_reducible refine below_drewN ?_ _ | with_reducible refine Below.drew ?_ | with_reducible refine Below.trans ?_ (Below.mono (by assumption) ?_) | with_reducible exact Nat.le_refl _ | with_reducible refine Nat.le_trans ?_ (Below.size (by assumption)) | with_reducible refine Nat.le_trans ?_ (size_alloc _ _) | with_reducible refine Nat.le_trans ?_ (size_set _ _ _) | with_reducible refine Nat.le_trans ?_ (size_drewN _ _) | with_reducible refine Nat.le_trans ?_ (size_drew _) | (simp; done) | (simp; omega) | omega)⟩
  · rw [hb] at HC
    have hA := hl hb
    have n2 : (A.length : Int) + 2 = ((A.length + 2 : Nat) : Int) := by omega
    have HN := hide n2
    clear hl n2
    go_enter Tryz.func99, Tryz.ntmps99
    go_wp2_with (first | (go_at_call 105; refine (HC.out _ (by repeat' (first | with_reducible exact Below.refl _ _ | with_reducible refine Below.setCell ?_ ?_ _ | with_reducible refine Below.alloc ?_ ?_ _ | with_reducible refine below_drewN ?_ _ | with_reducible refine Below.drew ?_ | with_reducible refine Below.trans ?_ (Below.mono (by assumption) ?_) | with_reducible exact Nat.le_refl _ | with_reducible refine Nat.le_trans ?_ (Below.size (by assumption)) | with_reducible refine Nat.le_trans ?_ (size_alloc _ _) | with_reducible refine Nat.le_trans ?_ (size_set _ _ _) | with_reducible refine Nat.le_trans ?_ (size_drewN _ _) | with_reducible refine Nat.le_trans ?_ (size_drew _) | (simp; done) | (simp; omega) | omega))).mono ?_; rintro e w1 ⟨rfl, hb1⟩; obtain ⟨hc1, hf1⟩ := cbcell hb1; have hz1 : w.heap.size < w1.heap.size := by (have := hb1.size; simp at this; omega)) | (go_at_call 47; refine (refuse_any _).mono ?_; rintro e wz ⟨rfl, hz⟩; subst wz))
    refine bodyPost_ret (v := .tuple #[.agg #[.int .i64 0, .string ⟨A.toArray⟩], .int .i64 ((A.length : Int) + 2)]) (by simp [results, Tryz.results99, go_sem, hc1]) rfl ⟨?_, ?_⟩
    · rw [HN.out]; rfl
    · repeat' (first | with_reducible exact Below.refl _ _ | with_reducible refine Below.setCell ?_ ?_ _ | with_reducible refine Below.alloc ?_ ?_ _ | with_reducible refine below_drewN ?_ _ | with_reducible refine Below.drew ?_ | with_reducible refine Below.trans ?_ (Below.mono (by assumption) ?_) | with_reducible exact Nat.le_refl _ | with_reducible refine Nat.le_trans ?_ (Below.size (by assumption)) | with_reducible refine Nat.le_trans ?_ (size_alloc _ _) | with_reducible refine Nat.le_trans ?_ (size_set _ _ _) | with_reducible refine Nat.le_trans ?_ (size_drewN _ _) | with_reducible refine Nat.le_trans ?_ (size_drew _) | (simp; done) | (simp; omega) | omega)
theorem mk_one (c d : UInt8) (r : List UInt8) : (⟨(c :: d :: r).toArray⟩ : ByteArray).extract 1 2 = ⟨[d].toArray⟩ := by
  rw [Lib.extract_mk]
  rfl
set_option maxHeartbeats 2000000 in
theorem escaped_any (c : UInt8) (r : List UInt8) (w : World) (hs : r.length ≤ 10000) :
    Calls Tryz.prog 100 #[.string ⟨(c :: r).toArray⟩] w fun e w' => toldP (escapedR r) e ∧ Below w.heap.size w w' := by
  have sz : (⟨(c :: r).toArray⟩ : ByteArray).size = r.length + 1 := mk_size (c :: r)
  cases r with
  | nil =>
    have sz' : (⟨(c :: []).toArray⟩ : ByteArray).size = 1 := sz
    clear sz
    generalize (⟨(c :: []).toArray⟩ : ByteArray) = S at *
    go_enter Tryz.func100, Tryz.ntmps100
    go_wp2_with (go_at_call 47; refine (refuse_any _).mono ?_; rintro e wz ⟨rfl, hz⟩; subst wz)
    exact ⟨rfl, rfl, by repeat' (first | with_reducible exact Below.refl _ _ | with_reducible refine Below.setCell ?_ ?_ _ | with_reducible refine Below.alloc ?_ ?_ _ | with_reducible refine below_drewN ?_ _ | with_reducible refine Below.drew ?_ | with_reducible refine Below.trans ?_ (Below.mono (by assumption) ?_) | with_reducible exact Nat.le_refl _ | with_reducible refine Nat.le_trans ?_ (Below.size (by assumption)) | with_reducible refine Nat.le_trans ?_ (size_alloc _ _) | with_reducible refine Nat.le_trans ?_ (size_set _ _ _) | with_reducible refine Nat.le_trans ?_ (size_drewN _ _) | with_reducible refine Nat.le_trans ?_ (size_drew _) | (simp; done) | (simp; omega) | omega)⟩
  | cons d r =>
    have x1 := mk_one c d r
    have hlt : ¬ ((r.length : Int) + 1 + 1 < 2) := by omega
    have sz' : (⟨(c :: d :: r).toArray⟩ : ByteArray).size = r.length + 1 + 1 := by rw [sz]; simp
    clear sz
    generalize (⟨(c :: d :: r).toArray⟩ : ByteArray) = S at *
    go_enter Tryz.func100, Tryz.ntmps100
    go_wp2
    refine bodyPost_ret (v := .tuple #[.agg #[.int .i64 0, .string ⟨[d].toArray⟩], .int .i64 2]) (by simp [results, Tryz.results100, go_sem]) rfl ⟨rfl, ?_⟩
    repeat' (first | with_reducible exact Below.refl _ _ | with_reducible refine Below.setCell ?_ ?_ _ | with_reducible refine Below.alloc ?_ ?_ _ | with_reducible refine below_drewN ?_ _ | with_reducible refine Below.drew ?_ | with_reducible refine Below.trans ?_ (Below.mono (by assumption) ?_) | with_reducible exact Nat.le_refl _ | with_reducible refine Nat.le_trans ?_ (Below.size (by assumption)) | with_reducible refine Nat.le_trans ?_ (size_alloc _ _) | with_reducible refine Nat.le_trans ?_ (size_set _ _ _) | with_reducible refine Nat.le_trans ?_ (size_drewN _ _) | with_reducible refine Nat.le_trans ?_ (size_drew _) | (simp; done) | (simp; omega) | omega)
theorem or6 {a b c d e f : Bool} (h : true = (a || b || c || d || e || f)) : a = true ∨ (a = false ∧ b = true) ∨ (a = false ∧ b = false ∧ c = true) ∨ (a = false ∧ b = false ∧ c = false ∧ d = true) ∨ (a = false ∧ b = false ∧ c = false ∧ d = false ∧ e = true) ∨ (a = false ∧ b = false ∧ c = false ∧ d = false ∧ e = false ∧ f = true) := by
  cases a <;> cases b <;> cases c <;> cases d <;> cases e <;> cases f <;> simp_all
set_option maxHeartbeats 4000000 in
theorem partOfDay_any (c : UInt8) (r : List UInt8) (w : World) (hs : r.length ≤ 10000) (hc : c.toNat < 128) :
    Calls Tryz.prog 102 #[.string ⟨(c :: r).toArray⟩] w fun e w' => toldP (partR c r) e ∧ Below w.heap.size w w' := by
  have HR : Hid (∀ W : World, Calls Tryz.prog 103 #[.string ⟨(c :: r).toArray⟩, .string ⟨[c].toArray⟩] W fun e w' => e = .returned (.int .i64 (rowLen (c :: r) [c])) ∧ Below W.heap.size W w') := fun W => row_any (c :: r) [c] W (by simp; omega) (by simp) (by simpa using hc)
  have hn := rowLen_le (c :: r) [c]
  have HP : Hid (∀ W : World, Calls Tryz.prog 101 #[.int .i64 3, .string ⟨(c :: r).toArray⟩, .int .i64 (rowLen (c :: r) [c])] W fun e w' => e = .returned (.tuple #[pcV ⟨3, (c :: r).take (rowLen (c :: r) [c])⟩, .int .i64 (rowLen (c :: r) [c])]) ∧ Below W.heap.size W w') := fun W => plain_any 3 (rowLen (c :: r) [c]) (c :: r) W hn
  have hp : partR c r = if partB ((c :: r).take (rowLen (c :: r) [c])) then some (⟨3, (c :: r).take (rowLen (c :: r) [c])⟩, rowLen (c :: r) [c]) else none := rfl
  rw [hp]
  clear hp
  have x0 : (⟨(c :: r).toArray⟩ : ByteArray).extract 0 1 = ⟨[c].toArray⟩ := mk_take (c :: r) 1
  generalize rowLen (c :: r) [c] = N at *
  have x1 := mk_take (c :: r) N
  have sz : (⟨(c :: r).toArray⟩ : ByteArray).size = r.length + 1 := mk_size (c :: r)
  have hn' : N ≤ r.length + 1 := by simpa using hn
  have hn2 : (N : Int) ≤ (r.length : Int) + 1 := by omega
  clear hn
  generalize (c :: r).take N = T at *
  generalize (⟨(c :: r).toArray⟩ : ByteArray) = S at *
  simp only [pcV] at HP
  have HB : Hid (partB T = (T == [121, 121, 121, 121] || T == [121, 121] || T == [109, 109] || T == [109] || T == [100, 100] || T == [100])) := rfl
  cases hb : partB T
  · have HB2 := HB.out
    rw [hb] at HB2
    have b := HB2.symm
    simp only [Bool.or_eq_false_iff] at b
    obtain ⟨⟨⟨⟨⟨b1, b2⟩, b3⟩, b4⟩, b5⟩, b6⟩ := b
    clear HB HB2 hb HP
    go_enter Tryz.func102, Tryz.ntmps102
    go_wp2_with (first | (go_at_call 103; refine (HR.out _).mono ?_; rintro e w1 ⟨rfl, hb1⟩) | (go_at_call 47; refine (refuse_any _).mono ?_; rintro e wz ⟨rfl, hz⟩; subst wz))
    exact ⟨rfl, rfl, by repeat' (first | with_reducible exact Below.refl _ _ | with_reducible refine Below.setCell ?_ ?_ _ | with_reducible refine Below.alloc ?_ ?_ _ | with_reducible refine below_drewN ?_ _ | with_reducible refine Below.drew ?_ | with_reducible refine Below.trans ?_ (Below.mono (by assumption) ?_) | with_reducible exact Nat.le_refl _ | with_reducible refine Nat.le_trans ?_ (Below.size (by assumption)) | with_reducible refine Nat.le_trans ?_ (size_alloc _ _) | with_reducible refine Nat.le_trans ?_ (size_set _ _ _) | with_reducible refine Nat.le_trans ?_ (size_drewN _ _) | with_reducible refine Nat.le_trans ?_ (size_drew _) | (simp; done) | (simp; omega) | omega)⟩
  · have HB2 := HB.out
    rw [hb] at HB2
    have key := or6 HB2
    clear HB HB2 hb
    rw [if_pos rfl]
    rcases key with q1 | ⟨q1, q2⟩ | ⟨q1, q2, q3⟩ | ⟨q1, q2, q3, q4⟩ | ⟨q1, q2, q3, q4, q5⟩ | ⟨q1, q2, q3, q4, q5, q6⟩
    all_goals
      go_enter Tryz.func102, Tryz.ntmps102
      go_wp2_with (first | (go_at_call 103; refine (HR.out _).mono ?_; rintro e w1 ⟨rfl, hb1⟩; obtain ⟨hc1, hf1⟩ := cbcell hb1; have hz1 : w.heap.size < w1.heap.size := by (have := hb1.size; simp at this; omega)) | (go_at_call 101; refine (HP.out _).mono ?_; rintro e w2 ⟨rfl, hb2⟩; obtain ⟨hc2, hf2⟩ := cbcell hb2; have hz2 : w.heap.size < w2.heap.size := by (have := hb2.size; omega)))
      refine bodyPost_ret (v := .tuple #[.agg #[.int .i64 3, .string ⟨T.toArray⟩], .int .i64 N]) (by simp [results, Tryz.results102, go_sem, hc1, hc2, hz1]) rfl ⟨rfl, ?_⟩
      repeat' (first | with_reducible exact Below.refl _ _ | with_reducible refine Below.setCell ?_ ?_ _ | with_reducible refine Below.alloc ?_ ?_ _ | with_reducible refine below_drewN ?_ _ | with_reducible refine Below.drew ?_ | with_reducible refine Below.trans ?_ (Below.mono (by assumption) ?_) | with_reducible exact Nat.le_refl _ | with_reducible refine Nat.le_trans ?_ (Below.size (by assumption)) | with_reducible refine Nat.le_trans ?_ (size_alloc _ _) | with_reducible refine Nat.le_trans ?_ (size_set _ _ _) | with_reducible refine Nat.le_trans ?_ (size_drewN _ _) | with_reducible refine Nat.le_trans ?_ (size_drew _) | (simp; done) | (simp; omega) | omega)
end Go.Proofs.YtnhaapcpklfkpaaGreatDoor
