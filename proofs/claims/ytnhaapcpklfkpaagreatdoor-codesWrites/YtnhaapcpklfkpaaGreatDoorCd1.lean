/-
  The contracts of codes' padded, grouped, decimals, and of a place's whole, fraction and write.
-/
import Derived.Test.YtnhaapcpklfkpaaGreatDoorCd0
import Derived.Test.YtnhaapcpklfkpaaGreatDoorVNum
import Derived.Lib.MinMax
import Derived.Deep.RegionHeld3
import Derived.Deep.QuietTactic
import Derived.BigQuiet
import Derived.Lib.AppendIntMem
import Derived.Laws.IdiomStrings
namespace Go.Proofs.YtnhaapcpklfkpaaGreatDoor
open Go.RowKit

theorem cbcell {W w1 : World} (hb : Below W.heap.size W w1) : (∀ b o, b < W.heap.size → w1.cell? ⟨b, o, none⟩ = W.cell? ⟨b, o, none⟩) ∧ (∀ b o, b < W.heap.size → w1.frozen? ⟨b, o, none⟩ = W.frozen? ⟨b, o, none⟩) :=
  ⟨fun b o h => hb.cell (p := ⟨b, o, none⟩) h, fun b o h => hb.frozen (p := ⟨b, o, none⟩) h⟩
theorem ret_str {a b : ByteArray} (h : a = b) : Ending.returned (.string a) = .returned (.string b) := by rw [h]
theorem ret_num {k : IntKind} {a b : Int} (h : a = b) : Ending.returned (.int k a) = .returned (.int k b) := by rw [h]
theorem cnd_le : ∀ (k u : Nat), u < 10 ^ (k + 1) → Lib.nDigits u ≤ k + 1
  | 0, u, h => by rw [Lib.nDigits_small (by simpa using h)]; omega
  | k + 1, u, h => by
    by_cases a : u < 10
    · rw [Lib.nDigits_small a]; omega
    · rw [Lib.nDigits_big a]
      have := cnd_le k (u / 10) (by rw [Nat.div_lt_iff_lt_mul (by decide)]; rw [Nat.pow_succ] at h; exact h)
      omega
/-- The digits of a number, none of 0; noughts ahead; commas; a whole part, a fraction, and both, in a place. -/
def digL (n : Nat) : List UInt8 := if 0 < n then Lib.decDigits n else []
def padTo (d : List UInt8) (w : Nat) : List UInt8 := Lib.repeatL [48] (w - d.length) ++ d
def groupF : Nat → List UInt8 → List UInt8 → List UInt8
  | 0, d, out => d ++ out
  | n + 1, d, out => if 3 < d.length then groupF n (d.take (d.length - 3)) (44 :: d.drop (d.length - 3) ++ out) else d ++ out
def groupR (d : List UInt8) : List UInt8 := groupF d.length d []
def wholeT (p : Plc) (n : Nat) : List UInt8 := if p.comma then groupR (padTo (digL n) p.noughts) else padTo (digL n) p.noughts
def fracD (p : Plc) (m : Nat) : List UInt8 := padTo (Lib.decDigits m) 6 ++ Lib.repeatL [48] (p.fixed - 6)
def fracP (p : Plc) (m : Nat) : List UInt8 := (fracD p m).take p.fixed ++ Lib.trimRightB ((fracD p m).drop p.fixed) 48
def numT (p : Plc) (n : Nat) : List UInt8 := if p.point then wholeT p (n / 1000000) ++ 46 :: fracP p (n % 1000000) else wholeT p (n / 1000000)
/-- A place, as the program has it. -/
def plcV (p : Plc) : Value := .agg #[.bool p.comma, .bool p.point, .int .i64 p.noughts, .int .i64 p.fixed, .int .i64 p.free]

theorem padTo_len (d : List UInt8) (w : Nat) : (padTo d w).length = max d.length w := by
  unfold padTo; rw [List.length_append, Lib.repeatL_length]; simp; omega
theorem digL_len {n : Nat} (h : n < 18446744073709551616) : (digL n).length ≤ 20 := by
  unfold digL; split
  · exact dec_len h
  · simp
theorem mk_size (l : List UInt8) : (⟨l.toArray⟩ : ByteArray).size = l.length := by show l.toArray.size = _; simp
theorem itoa_at (n : Nat) (w : World) (h1 : n ≤ 9223372036854775807) (ht : TabOk w) : Calls Tryz.prog 119 #[.int .i64 n] w fun e w' => e = .returned (.string ⟨(Lib.decDigits n).toArray⟩) ∧ Below w.heap.size w w' :=
  (Tryz.strconv_Itoa n (by omega) (by omega) w ht).mono fun e w' ⟨h, k, os, e2⟩ => ⟨by rw [h, Lib.itoa, if_neg (by omega), Int.toNat_natCast], by rw [e2]; exact Go.Lib.below_grow w.heap.size w (Nat.le_refl _) k os⟩
set_option maxHeartbeats 1000000 in
theorem cpadded_any (D : List UInt8) (wd : Nat) (w : World) (hd : D.length ≤ 100000) (hw : wd ≤ 100000) :
    Calls Tryz.prog 118 #[.string ⟨D.toArray⟩, .int .i64 wd] w fun e w' => e = .returned (.string ⟨(padTo D wd).toArray⟩) ∧ Below w.heap.size w w' := by
  unfold padTo
  obtain ⟨c, hc⟩ : ∃ c : Nat, c = wd - D.length := ⟨_, rfl⟩
  rw [← hc]
  have HR : Hid (∀ W : World, Calls Tryz.prog 142 #[.string ⟨#[48]⟩, .int .i64 (c : Int)] W fun e w' => e = .returned (.string ⟨(Lib.repeatL [48] c).toArray⟩) ∧ Below W.heap.size W w') := fun W => Tryz.strings_Repeat ⟨#[48]⟩ c W (by omega) (by show 1 * c ≤ _; omega)
  have HE : Hid ((⟨(Lib.repeatL [48] c ++ D).toArray⟩ : ByteArray) = ⟨(Lib.repeatL [48] c).toArray⟩ ++ ⟨D.toArray⟩) := (ba_app _ _).symm
  rw [HE.out]
  have HZ : Hid ((Lib.repeatL [48] c).length = c) := by show _ = _; rw [Lib.repeatL_length]; simp
  have m1 : max (0 : Int) ((wd : Int) - (D.length : Int)) = (c : Int) := by omega
  have m2 : IntKind.i64.wrap ((wd : Int) - (D.length : Int)) = (wd : Int) - (D.length : Int) := by rw [IntKind.wrap_i64]; omega
  have n1 : ¬ 9223372036854775807 < (Lib.repeatL [48] c).length + D.length := by rw [HZ.out]; omega
  have n2 : (9223372036854775807 < (Lib.repeatL [48] c).length + D.length) = False := eq_false n1
  generalize Lib.repeatL [48] c = Z at *
  have sz := mk_size D
  clear HE HZ hc
  go_enter Tryz.func118, Tryz.ntmps118
  go_wp2_with (go_at_call 142; refine (HR.out _).mono ?_; rintro e w2 ⟨rfl, hb2⟩)
  go_ret
  refine ⟨rfl, ?_⟩
  repeat' (first | with_reducible exact Below.refl _ _ | with_reducible refine Below.setCell ?_ ?_ _ | with_reducible refine Below.alloc ?_ ?_ _ | with_reducible refine below_drewN ?_ _ | with_reducible refine Below.drew ?_ | with_reducible refine Below.trans ?_ (Below.mono (by assumption) ?_) | with_reducible exact Nat.le_refl _ | with_reducible refine Nat.le_trans ?_ (Below.size (by assumption)) | with_reducible refine Nat.le_trans ?_ (size_alloc _ _) | with_reducible refine Nat.le_trans ?_ (size_set _ _ _) | with_reducible refine Nat.le_trans ?_ (size_drewN _ _) | with_reducible refine Nat.le_trans ?_ (size_drew _) | (simp; done) | (simp; omega) | omega)
theorem group_big (n : Nat) (d out : List UInt8) (h : 3 < d.length) : groupF (n + 1) d out = groupF n (d.take (d.length - 3)) (44 :: d.drop (d.length - 3) ++ out) := by
  rw [groupF, if_pos h]
theorem group_small (n : Nat) (d out : List UInt8) (h : ¬ 3 < d.length) : groupF n d out = d ++ out := by
  cases n with
  | zero => rfl
  | succ n => rw [groupF, if_neg h]
theorem mk_take (d : List UInt8) (k : Nat) : (⟨d.toArray⟩ : ByteArray).extract 0 k = ⟨(d.take k).toArray⟩ := by
  rw [Lib.extract_mk]; simp
theorem mk_drop (d : List UInt8) (k : Nat) : (⟨d.toArray⟩ : ByteArray).extract k d.length = ⟨(d.drop k).toArray⟩ := by
  rw [Lib.extract_mk]
  congr 2
  exact List.take_of_length_le (by simp)
theorem mk_comma (d out : List UInt8) : (⟨#[44]⟩ : ByteArray) ++ ⟨d.toArray⟩ ++ ⟨out.toArray⟩ = ⟨(44 :: d ++ out).toArray⟩ := by
  show (⟨[44].toArray⟩ : ByteArray) ++ _ ++ _ = _
  rw [ba_app, ba_app]; rfl
set_option maxHeartbeats 2000000 in
theorem cgrouped_any (D : List UInt8) (w : World) (hd : D.length ≤ 100000) :
    Calls Tryz.prog 161 #[.string ⟨D.toArray⟩] w fun e w' => e = .returned (.string ⟨(groupR D).toArray⟩) ∧ Below w.heap.size w w' := by
  have sz0 := mk_size D
  go_enter Tryz.func161, Tryz.ntmps161
  go_wp2
  go_loopw [0, 3] (fun ds os wr => ∃ (n : Nat) (d out : List UInt8), d.length ≤ n ∧ n ≤ 100000 ∧ out.length + d.length * 2 ≤ 200000 ∧ groupF n d out = groupR D ∧ ds = .string ⟨d.toArray⟩ ∧ os = .string ⟨out.toArray⟩ ∧ Below w.heap.size w wr) (fun ds _ _ => Lib.strSize ds)
  case atStart => exact ⟨D.length, D, [], Nat.le_refl _, hd, by simp; omega, rfl, rfl, rfl, Below.refl _ _⟩
  case round =>
    obtain ⟨n, d, out, hn, hn2, hl, hg, rfl, rfl, hbr⟩ := hrel
    have sz := mk_size d
    have szo := mk_size out
    by_cases h3 : 3 < d.length
    · obtain ⟨m, rfl⟩ : ∃ m, n = m + 1 := ⟨n - 1, by omega⟩
      rw [group_big m d out h3] at hg
      obtain ⟨c, hc⟩ : ∃ c : Nat, c = d.length - 3 := ⟨_, rfl⟩
      have hc1 : (d.length : Int) - 3 = (c : Int) := by omega
      have hc2 : IntKind.i64.wrap (d.length : Int) - 3 = IntKind.i64.wrap (d.length : Int) - 3 := rfl
      rw [← hc] at hg
      have x1 := mk_take d c
      have x2 := mk_drop d c
      have x3 := mk_comma (d.drop c) out
      have szd := mk_size (d.drop c)
      have hcl : (d.drop c).length = 3 := by simp; omega
      have HG := hide hg
      have g3 : (3 : Int) < (d.length : Int) := by omega
      have gc : c ≤ d.length := by omega
      have gi : (c : Int) ≤ (d.length : Int) := by omega
      clear hg hc
      go_wp2
      go_roundw
      case rel => exact ⟨m, d.take c, 44 :: (d.drop c ++ out), by simp; omega, by omega, by simp; omega, HG.out, rfl, rfl, hbr⟩
      case measure => simp [Lib.strSize_string, mk_size]; omega
    · have HG := hide ((group_small n d out h3).symm.trans hg)
      clear hg
      go_wp2
      go_ret
      exact ⟨ret_str (by rw [ba_app, HG.out]), hbr⟩
theorem group_len : ∀ (n : Nat) (d out : List UInt8), (groupF n d out).length ≤ d.length + out.length + d.length
  | 0, d, out => by simp [groupF]
  | n + 1, d, out => by
    by_cases h : 3 < d.length
    · rw [group_big n d out h]
      have := group_len n (d.take (d.length - 3)) (44 :: d.drop (d.length - 3) ++ out)
      simp at this ⊢
      omega
    · rw [group_small _ d out h]; simp
theorem wholeT_len {p : Plc} {n : Nat} (h : n < 18446744073709551616) (hp : p.noughts ≤ 1000) : (wholeT p n).length ≤ 2100 := by
  unfold wholeT
  have h1 := digL_len h
  have h2 := padTo_len (digL n) p.noughts
  split
  · have := group_len (padTo (digL n) p.noughts).length (padTo (digL n) p.noughts) []
    unfold groupR
    simp at this
    omega
  · omega
theorem fracD_len (p : Plc) {m : Nat} (h : m < 1000000) : (fracD p m).length = max 6 p.fixed := by
  unfold fracD
  have h2 := padTo_len (Lib.decDigits m) 6
  have h1 : (Lib.decDigits m).length ≤ 6 := by
    rw [Lib.decDigits_length]; exact cnd_le 5 m (by omega)
  rw [List.length_append, Lib.repeatL_length, h2]
  simp; omega
theorem fracP_len (p : Plc) {m : Nat} (h : m < 1000000) : (fracP p m).length ≤ max 6 p.fixed := by
  have h1 := fracD_len p h
  have h2 := trim_len ((fracD p m).drop p.fixed) 48
  unfold fracP
  rw [List.length_append, List.length_take]
  simp at h2
  omega
/-- A place in a block of its own. -/
structure BoxP (w : World) (b : Nat) (p : Plc) : Prop where
  lt : b < w.heap.size
  c0 : w.cell? ⟨b, 0, none⟩ = some (.bool p.comma)
  c1 : w.cell? ⟨b, 1, none⟩ = some (.bool p.point)
  c2 : w.cell? ⟨b, 2, none⟩ = some (.int .i64 p.noughts)
  c3 : w.cell? ⟨b, 3, none⟩ = some (.int .i64 p.fixed)
  c4 : w.cell? ⟨b, 4, none⟩ = some (.int .i64 p.free)
theorem BoxP.below {w w' : World} {b : Nat} {p : Plc} (h : BoxP w b p) (k : Below w.heap.size w w') : BoxP w' b p :=
  ⟨Nat.lt_of_lt_of_le h.lt k.size, (k.cell (p := ⟨b, 0, none⟩) h.lt).trans h.c0, (k.cell (p := ⟨b, 1, none⟩) h.lt).trans h.c1, (k.cell (p := ⟨b, 2, none⟩) h.lt).trans h.c2, (k.cell (p := ⟨b, 3, none⟩) h.lt).trans h.c3, (k.cell (p := ⟨b, 4, none⟩) h.lt).trans h.c4⟩
theorem BoxP.new (w : World) (p : Plc) : BoxP (w.alloc (.cells #[.bool p.comma, .bool p.point, .int .i64 p.noughts, .int .i64 p.fixed, .int .i64 p.free] 64)) w.heap.size p :=
  ⟨by simp, by simp [go_sem], by simp [go_sem], by simp [go_sem], by simp [go_sem], by simp [go_sem]⟩
set_option maxHeartbeats 1000000 in
theorem cdecimals_any (p : Plc) (w : World) (h1 : p.fixed ≤ 1000) (h2 : p.free ≤ 1000) :
    Calls Tryz.prog 63 #[plcV p] w fun e w' => e = .returned (.int .i64 ((p.fixed + p.free : Nat) : Int)) ∧ Below w.heap.size w w' := by
  obtain ⟨c, pt, n, f, r⟩ := p
  simp only [plcV] at *
  go_enter Tryz.func63, Tryz.ntmps63
  go_wp2
  go_ret
  exact ⟨by go_num, by repeat' (first | with_reducible exact Below.refl _ _ | with_reducible refine Below.setCell ?_ ?_ _ | with_reducible refine Below.alloc ?_ ?_ _ | with_reducible refine below_drewN ?_ _ | with_reducible refine Below.drew ?_ | with_reducible refine Below.trans ?_ (Below.mono (by assumption) ?_) | with_reducible exact Nat.le_refl _ | with_reducible refine Nat.le_trans ?_ (Below.size (by assumption)) | with_reducible refine Nat.le_trans ?_ (size_alloc _ _) | with_reducible refine Nat.le_trans ?_ (size_set _ _ _) | with_reducible refine Nat.le_trans ?_ (size_drewN _ _) | with_reducible refine Nat.le_trans ?_ (size_drew _) | (simp; done) | (simp; omega) | omega)⟩
set_option maxHeartbeats 2000000 in
theorem cwhole_any (p : Plc) (n : Nat) (w : World) (hn : n ≤ 9223372036854775807) (hp : p.noughts ≤ 1000) (ht : TabOk w) :
    Calls Tryz.prog 140 #[plcV p, .int .i64 n] w fun e w' => e = .returned (.string ⟨(wholeT p n).toArray⟩) ∧ Below w.heap.size w w' := by
  have HI : Hid (∀ W : World, Below w.heap.size w W → Calls Tryz.prog 119 #[.int .i64 n] W fun e w' => e = .returned (.string ⟨(Lib.decDigits n).toArray⟩) ∧ Below W.heap.size W w') := fun W hW => itoa_at n W hn (tab_below ht hW)
  have hl := digL_len (n := n) (by omega)
  have hl2 := padTo_len (digL n) p.noughts
  have HP : Hid (∀ W : World, Calls Tryz.prog 118 #[.string ⟨(digL n).toArray⟩, .int .i64 p.noughts] W fun e w' => e = .returned (.string ⟨(padTo (digL n) p.noughts).toArray⟩) ∧ Below W.heap.size W w') := fun W => cpadded_any (digL n) p.noughts W (by omega) (by omega)
  have HG : Hid (∀ W : World, Calls Tryz.prog 161 #[.string ⟨(padTo (digL n) p.noughts).toArray⟩] W fun e w' => e = .returned (.string ⟨(groupR (padTo (digL n) p.noughts)).toArray⟩) ∧ Below W.heap.size W w') := fun W => cgrouped_any (padTo (digL n) p.noughts) W (by omega)
  obtain ⟨c, pt, no, f, r⟩ := p
  simp only [plcV, wholeT] at *
  clear hl hl2 ht
  generalize groupR (padTo (digL n) no) = G at *
  generalize padTo (digL n) no = D at *
  by_cases h0 : 0 < n
  · have hd : digL n = Lib.decDigits n := by unfold digL; rw [if_pos h0]
    rw [hd] at HP
    generalize Lib.decDigits n = A at *
    clear hd
    cases c
    all_goals
      go_enter Tryz.func140, Tryz.ntmps140
      go_wp2_with (first | (go_at_call 119; refine (HI.out _ (by repeat' (first | with_reducible exact Below.refl _ _ | with_reducible refine Below.setCell ?_ ?_ _ | with_reducible refine Below.alloc ?_ ?_ _ | with_reducible refine below_drewN ?_ _ | with_reducible refine Below.drew ?_ | with_reducible refine Below.trans ?_ (Below.mono (by assumption) ?_) | with_reducible exact Nat.le_refl _ | with_reducible refine Nat.le_trans ?_ (Below.size (by assumption)) | with_reducible refine Nat.le_trans ?_ (size_alloc _ _) | with_reducible refine Nat.le_trans ?_ (size_set _ _ _) | with_reducible refine Nat.le_trans ?_ (size_drewN _ _) | with_reducible refine Nat.le_trans ?_ (size_drew _) | (simp; done) | (simp; omega) | omega))).mono ?_; rintro e w1 ⟨rfl, hb1⟩; obtain ⟨hc1, hf1⟩ := cbcell hb1; have hz1 : w.heap.size < w1.heap.size := by (have := hb1.size; simp at this; omega)) | (go_at_call 118; refine (HP.out _).mono ?_; rintro e w2 ⟨rfl, hb2⟩; obtain ⟨hc2, hf2⟩ := cbcell hb2) | (go_at_call 161; refine (HG.out _).mono ?_; rintro e w3 ⟨rfl, hb3⟩))
      go_ret
      exact ⟨rfl, by repeat' (first | with_reducible exact Below.refl _ _ | with_reducible refine Below.setCell ?_ ?_ _ | with_reducible refine Below.alloc ?_ ?_ _ | with_reducible refine below_drewN ?_ _ | with_reducible refine Below.drew ?_ | with_reducible refine Below.trans ?_ (Below.mono (by assumption) ?_) | with_reducible exact Nat.le_refl _ | with_reducible refine Nat.le_trans ?_ (Below.size (by assumption)) | with_reducible refine Nat.le_trans ?_ (size_alloc _ _) | with_reducible refine Nat.le_trans ?_ (size_set _ _ _) | with_reducible refine Nat.le_trans ?_ (size_drewN _ _) | with_reducible refine Nat.le_trans ?_ (size_drew _) | (simp; done) | (simp; omega) | omega)⟩
  · have hd : digL n = [] := by unfold digL; rw [if_neg h0]
    rw [hd] at HP
    clear hd
    have h1 : ¬ (0 : Int) < (n : Int) := by omega
    cases c
    all_goals
      go_enter Tryz.func140, Tryz.ntmps140
      go_wp2_with (first | (go_at_call 118; refine (HP.out _).mono ?_; rintro e w2 ⟨rfl, hb2⟩; obtain ⟨hc2, hf2⟩ := cbcell hb2) | (go_at_call 161; refine (HG.out _).mono ?_; rintro e w3 ⟨rfl, hb3⟩))
      go_ret
      exact ⟨rfl, by repeat' (first | with_reducible exact Below.refl _ _ | with_reducible refine Below.setCell ?_ ?_ _ | with_reducible refine Below.alloc ?_ ?_ _ | with_reducible refine below_drewN ?_ _ | with_reducible refine Below.drew ?_ | with_reducible refine Below.trans ?_ (Below.mono (by assumption) ?_) | with_reducible exact Nat.le_refl _ | with_reducible refine Nat.le_trans ?_ (Below.size (by assumption)) | with_reducible refine Nat.le_trans ?_ (size_alloc _ _) | with_reducible refine Nat.le_trans ?_ (size_set _ _ _) | with_reducible refine Nat.le_trans ?_ (size_drewN _ _) | with_reducible refine Nat.le_trans ?_ (size_drew _) | (simp; done) | (simp; omega) | omega)⟩
set_option maxHeartbeats 4000000 in
theorem cfraction_any (p : Plc) (m : Nat) (w : World) (hm : m < 1000000) (hp : p.fixed ≤ 1000) (ht : TabOk w) :
    Calls Tryz.prog 141 #[plcV p, .int .i64 m] w fun e w' => e = .returned (.string ⟨(fracP p m).toArray⟩) ∧ Below w.heap.size w w' := by
  have HI : Hid (∀ W : World, Below w.heap.size w W → Calls Tryz.prog 119 #[.int .i64 m] W fun e w' => e = .returned (.string ⟨(Lib.decDigits m).toArray⟩) ∧ Below W.heap.size W w') := fun W hW => itoa_at m W (by omega) (tab_below ht hW)
  have hl1 : (Lib.decDigits m).length ≤ 6 := by rw [Lib.decDigits_length]; exact cnd_le 5 m (by omega)
  have HP : Hid (∀ W : World, Calls Tryz.prog 118 #[.string ⟨(Lib.decDigits m).toArray⟩, .int .i64 6] W fun e w' => e = .returned (.string ⟨(padTo (Lib.decDigits m) 6).toArray⟩) ∧ Below W.heap.size W w') := fun W => cpadded_any (Lib.decDigits m) 6 W (by omega) (by omega)
  obtain ⟨c, hc⟩ : ∃ c : Nat, c = p.fixed - 6 := ⟨_, rfl⟩
  have HR : Hid (∀ W : World, Calls Tryz.prog 142 #[.string ⟨#[48]⟩, .int .i64 (c : Int)] W fun e w' => e = .returned (.string ⟨(Lib.repeatL [48] c).toArray⟩) ∧ Below W.heap.size W w') := fun W => Tryz.strings_Repeat ⟨#[48]⟩ c W (by omega) (by show 1 * c ≤ _; omega)
  have hD := fracD_len p hm
  have hDe : fracD p m = padTo (Lib.decDigits m) 6 ++ Lib.repeatL [48] c := by rw [hc]; rfl
  have hl2 := padTo_len (Lib.decDigits m) 6
  have hl3 : (Lib.repeatL [48] c).length = c := by rw [Lib.repeatL_length]; simp
  obtain ⟨cm, pt, no, f, r⟩ := p
  simp only [plcV, fracP] at *
  generalize hDD : fracD ⟨cm, pt, no, f, r⟩ m = D at *
  have HT : Hid (∀ W : World, Calls Tryz.prog 79 #[.string ⟨(D.drop f).toArray⟩, .string ⟨#[48]⟩] W fun e w' => e = .returned (.string ⟨(Lib.trimRightB (D.drop f) 48).toArray⟩) ∧ w' = W) := fun W => Tryz.strings_TrimRight_one ⟨(D.drop f).toArray⟩ 48 (by decide) W (by rw [mk_size, List.length_drop]; omega)
  have hl4 := trim_len (D.drop f) 48
  have hl5 : (D.drop f).length = D.length - f := List.length_drop
  have hl6 : (D.take f).length = f := by rw [List.length_take]; omega
  clear ht hDD
  generalize Lib.trimRightB (D.drop f) 48 = T at *
  generalize padTo (Lib.decDigits m) 6 = A at *
  generalize Lib.decDigits m = M at *
  generalize Lib.repeatL [48] c = Z at *
  have hAZ : (⟨A.toArray⟩ : ByteArray) ++ ⟨Z.toArray⟩ = ⟨D.toArray⟩ := by rw [ba_app, hDe]
  have x1 := mk_take D f
  have x2 := mk_drop D f
  have sz := mk_size D
  have szA := mk_size A
  have szZ := mk_size Z
  have szt := mk_size (D.take f)
  have szd := mk_size (D.drop f)
  have szT := mk_size T
  have HE : Hid ((⟨(D.take f ++ T).toArray⟩ : ByteArray) = ⟨(D.take f).toArray⟩ ++ ⟨T.toArray⟩) := (ba_app _ _).symm
  rw [HE.out]
  have m1 : max (0 : Int) ((f : Int) - 6) = (c : Int) := by omega
  have m2 : IntKind.i64.wrap ((f : Int) - 6) = (f : Int) - 6 := by rw [IntKind.wrap_i64]; omega
  have n1 : (9223372036854775807 < A.length + Z.length) = False := eq_false (by omega)
  have n2 : (9223372036854775807 < (D.take f).length + T.length) = False := eq_false (by omega)
  have n3 : ¬ 9223372036854775807 < A.length + Z.length := by omega
  have n4 : ¬ 9223372036854775807 < (D.take f).length + T.length := by omega
  have g1 : f ≤ D.length := by omega
  have g2 : (f : Int) ≤ (D.length : Int) := by omega
  clear HE hDe hD hl1 hl2 hl3 hl4 hl5 hl6 hc
  go_enter Tryz.func141, Tryz.ntmps141
  go_wp2_with (first | (go_at_call 119; refine (HI.out _ (by repeat' (first | with_reducible exact Below.refl _ _ | with_reducible refine Below.setCell ?_ ?_ _ | with_reducible refine Below.alloc ?_ ?_ _ | with_reducible refine below_drewN ?_ _ | with_reducible refine Below.drew ?_ | with_reducible refine Below.trans ?_ (Below.mono (by assumption) ?_) | with_reducible exact Nat.le_refl _ | with_reducible refine Nat.le_trans ?_ (Below.size (by assumption)) | with_reducible refine Nat.le_trans ?_ (size_alloc _ _) | with_reducible refine Nat.le_trans ?_ (size_set _ _ _) | with_reducible refine Nat.le_trans ?_ (size_drewN _ _) | with_reducible refine Nat.le_trans ?_ (size_drew _) | (simp; done) | (simp; omega) | omega))).mono ?_; rintro e w1 ⟨rfl, hb1⟩; obtain ⟨hc1, hf1⟩ := cbcell hb1; have hz1 : w.heap.size < w1.heap.size := by (have := hb1.size; simp at this; omega)) | (go_at_call 118; refine (HP.out _).mono ?_; rintro e w2 ⟨rfl, hb2⟩; obtain ⟨hc2, hf2⟩ := cbcell hb2; have hz2 : w.heap.size < w2.heap.size := by (have := hb2.size; omega)) | (go_at_call 142; refine (HR.out _).mono ?_; rintro e w3 ⟨rfl, hb3⟩; obtain ⟨hc3, hf3⟩ := cbcell hb3; have hz3 : w.heap.size < w3.heap.size := by (have := hb3.size; omega)))
  go_quiet ((go_at_call 79; exact Calls.quiet_of_same (HT.out _)))
  go_wp2
  go_ret
  exact ⟨rfl, by repeat' (first | with_reducible exact Below.refl _ _ | with_reducible refine Below.setCell ?_ ?_ _ | with_reducible refine Below.alloc ?_ ?_ _ | with_reducible refine below_drewN ?_ _ | with_reducible refine Below.drew ?_ | with_reducible refine Below.trans ?_ (Below.mono (by assumption) ?_) | with_reducible exact Nat.le_refl _ | with_reducible refine Nat.le_trans ?_ (Below.size (by assumption)) | with_reducible refine Nat.le_trans ?_ (size_alloc _ _) | with_reducible refine Nat.le_trans ?_ (size_set _ _ _) | with_reducible refine Nat.le_trans ?_ (size_drewN _ _) | with_reducible refine Nat.le_trans ?_ (size_drew _) | (simp; done) | (simp; omega) | omega)⟩
set_option maxHeartbeats 4000000 in
theorem cwrite_any (p : Plc) (n : Nat) (w : World) (hn : n ≤ 9223372036854775807) (hp : p.noughts ≤ 1000) (hf : p.fixed ≤ 1000) (ht : TabOk w) :
    Calls Tryz.prog 117 #[plcV p, .int .i64 n] w fun e w' => e = .returned (.string ⟨(numT p n).toArray⟩) ∧ Below w.heap.size w w' := by
  obtain ⟨q, eq⟩ : ∃ q : Nat, q = n / 1000000 := ⟨_, rfl⟩
  obtain ⟨s, es⟩ : ∃ s : Nat, s = n % 1000000 := ⟨_, rfl⟩
  have HW : Hid (∀ W : World, Below w.heap.size w W → Calls Tryz.prog 140 #[plcV p, .int .i64 (q : Int)] W fun e w' => e = .returned (.string ⟨(wholeT p q).toArray⟩) ∧ Below W.heap.size W w') := fun W hW => cwhole_any p q W (by omega) hp (tab_below ht hW)
  have HF : Hid (∀ W : World, Below w.heap.size w W → Calls Tryz.prog 141 #[plcV p, .int .i64 (s : Int)] W fun e w' => e = .returned (.string ⟨(fracP p s).toArray⟩) ∧ Below W.heap.size W w') := fun W hW => cfraction_any p s W (by omega) hf (tab_below ht hW)
  have l1 := wholeT_len (p := p) (n := q) (by omega) hp
  have l2 := fracP_len p (m := s) (by omega)
  have hq : ((n : Nat) : Int) / 1000000 = (q : Int) := by omega
  have hr : ((n : Nat) : Int) % 1000000 = (s : Int) := by omega
  have hq' : ((n : Nat) : Int).tdiv 1000000 = (q : Int) := by rw [Int.tdiv_eq_ediv_of_nonneg (by omega)]; exact hq
  have hr' : ((n : Nat) : Int).tmod 1000000 = (s : Int) := by rw [Int.tmod_eq_emod_of_nonneg (by omega)]; exact hr
  obtain ⟨cm, pt, no, f, r⟩ := p
  simp only [plcV, numT] at *
  rw [← eq, ← es]
  generalize wholeT ⟨cm, pt, no, f, r⟩ q = A at *
  generalize fracP ⟨cm, pt, no, f, r⟩ s = B at *
  have szA := mk_size A
  have szB := mk_size B
  have n1 : (9223372036854775807 < 1 + B.length) = False := eq_false (by omega)
  have n2 : (9223372036854775807 < A.length + (1 + B.length)) = False := eq_false (by omega)
  clear ht l1 l2 eq es
  cases pt
  · clear HF
    go_enter Tryz.func117, Tryz.ntmps117
    go_wp2_with (go_at_call 140; refine (HW.out _ (by repeat' (first | with_reducible exact Below.refl _ _ | with_reducible refine Below.setCell ?_ ?_ _ | with_reducible refine Below.alloc ?_ ?_ _ | with_reducible refine below_drewN ?_ _ | with_reducible refine Below.drew ?_ | with_reducible refine Below.trans ?_ (Below.mono (by assumption) ?_) | with_reducible exact Nat.le_refl _ | with_reducible refine Nat.le_trans ?_ (Below.size (by assumption)) | with_reducible refine Nat.le_trans ?_ (size_alloc _ _) | with_reducible refine Nat.le_trans ?_ (size_set _ _ _) | with_reducible refine Nat.le_trans ?_ (size_drewN _ _) | with_reducible refine Nat.le_trans ?_ (size_drew _) | (simp; done) | (simp; omega) | omega))).mono ?_; rintro e w1 ⟨rfl, hb1⟩; obtain ⟨hc1, hf1⟩ := cbcell hb1; have hz1 : w.heap.size < w1.heap.size := by (have := hb1.size; simp at this; omega))
    go_ret
    exact ⟨rfl, by repeat' (first | with_reducible exact Below.refl _ _ | with_reducible refine Below.setCell ?_ ?_ _ | with_reducible refine Below.alloc ?_ ?_ _ | with_reducible refine below_drewN ?_ _ | with_reducible refine Below.drew ?_ | with_reducible refine Below.trans ?_ (Below.mono (by assumption) ?_) | with_reducible exact Nat.le_refl _ | with_reducible refine Nat.le_trans ?_ (Below.size (by assumption)) | with_reducible refine Nat.le_trans ?_ (size_alloc _ _) | with_reducible refine Nat.le_trans ?_ (size_set _ _ _) | with_reducible refine Nat.le_trans ?_ (size_drewN _ _) | with_reducible refine Nat.le_trans ?_ (size_drew _) | (simp; done) | (simp; omega) | omega)⟩
  · have HE : Hid ((⟨(A ++ 46 :: B).toArray⟩ : ByteArray) = ⟨A.toArray⟩ ++ (⟨#[46]⟩ ++ ⟨B.toArray⟩)) := by
      show _ = _
      rw [show (⟨#[46]⟩ : ByteArray) = ⟨[46].toArray⟩ from rfl, ba_app, ba_app]; rfl
    rw [if_pos rfl, HE.out]
    clear HE
    go_enter Tryz.func117, Tryz.ntmps117
    go_wp2_with (first | (go_at_call 140; refine (HW.out _ (by repeat' (first | with_reducible exact Below.refl _ _ | with_reducible refine Below.setCell ?_ ?_ _ | with_reducible refine Below.alloc ?_ ?_ _ | with_reducible refine below_drewN ?_ _ | with_reducible refine Below.drew ?_ | with_reducible refine Below.trans ?_ (Below.mono (by assumption) ?_) | with_reducible exact Nat.le_refl _ | with_reducible refine Nat.le_trans ?_ (Below.size (by assumption)) | with_reducible refine Nat.le_trans ?_ (size_alloc _ _) | with_reducible refine Nat.le_trans ?_ (size_set _ _ _) | with_reducible refine Nat.le_trans ?_ (size_drewN _ _) | with_reducible refine Nat.le_trans ?_ (size_drew _) | (simp; done) | (simp; omega) | omega))).mono ?_; rintro e w1 ⟨rfl, hb1⟩; obtain ⟨hc1, hf1⟩ := cbcell hb1; have hz1 : w.heap.size < w1.heap.size := by (have := hb1.size; simp at this; omega)) | (go_at_call 141; refine (HF.out _ (by repeat' (first | with_reducible exact Below.refl _ _ | with_reducible refine Below.setCell ?_ ?_ _ | with_reducible refine Below.alloc ?_ ?_ _ | with_reducible refine below_drewN ?_ _ | with_reducible refine Below.drew ?_ | with_reducible refine Below.trans ?_ (Below.mono (by assumption) ?_) | with_reducible exact Nat.le_refl _ | with_reducible refine Nat.le_trans ?_ (Below.size (by assumption)) | with_reducible refine Nat.le_trans ?_ (size_alloc _ _) | with_reducible refine Nat.le_trans ?_ (size_set _ _ _) | with_reducible refine Nat.le_trans ?_ (size_drewN _ _) | with_reducible refine Nat.le_trans ?_ (size_drew _) | (simp; done) | (simp; omega) | omega))).mono ?_; rintro e w2 ⟨rfl, hb2⟩))
    go_ret
    exact ⟨rfl, by repeat' (first | with_reducible exact Below.refl _ _ | with_reducible refine Below.setCell ?_ ?_ _ | with_reducible refine Below.alloc ?_ ?_ _ | with_reducible refine below_drewN ?_ _ | with_reducible refine Below.drew ?_ | with_reducible refine Below.trans ?_ (Below.mono (by assumption) ?_) | with_reducible exact Nat.le_refl _ | with_reducible refine Nat.le_trans ?_ (Below.size (by assumption)) | with_reducible refine Nat.le_trans ?_ (size_alloc _ _) | with_reducible refine Nat.le_trans ?_ (size_set _ _ _) | with_reducible refine Nat.le_trans ?_ (size_drewN _ _) | with_reducible refine Nat.le_trans ?_ (size_drew _) | (simp; done) | (simp; omega) | omega)⟩
end Go.Proofs.YtnhaapcpklfkpaaGreatDoor
