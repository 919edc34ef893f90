/-
  The contracts of lex's fault and sign; of value's Show at a fault; the variable of signs.
-/
import Derived.Test.YtiaoaifoecmemaaGreatDoorRLxB
import Derived.Test.YtiaoaifoecmemaaGreatDoorRLxM1
set_option maxRecDepth 100000
set_option maxHeartbeats 4000000
namespace Go.Proofs.YtiaoaifoecmemaaGreatDoor
open Go.RowKit
def SignsOk (w : World) : Prop := w.var? Tryz.prog "foolscap/lex.signs" = some (signs.map fun l => Value.string ⟨l.toArray⟩).toArray
theorem gSigns : Tryz.prog.globalNamed "foolscap/lex.signs" = some 2 := by kernel_rfl
theorem signs_below {w w' : World} (h : SignsOk w) (hb : Below w.heap.size w w') : SignsOk w' := Joins.var_stays gSigns h hb (Nat.le_refl _)
theorem signs_cell {w : World} (h : SignsOk w) (i : Nat) : w.cell? ⟨2, i, none⟩ = (signs.map fun l => Value.string ⟨l.toArray⟩)[i]? := by
 rw [World.var?_cell gSigns h i]
 simp
theorem show_fault (j : Nat) (w : World) (h1 : 1 ≤ j) (hj : j < 8) (hn : NamesOk w) :
  Calls Tryz.prog 86 #[.agg #[.int .i64 4, .int .i64 0, .string ⟨#[]⟩, .bool false, .int .i64 (j : Int)]] w fun e w' => e = .returned (.tuple #[.string ⟨(nameL j).toArray⟩, .int .i64 0]) ∧ Below w.heap.size w w' := by
 have HR : Hid (∀ W : World, Calls Tryz.prog 117 #[.agg #[.int .i64 4, .int .i64 0, .string ⟨#[]⟩, .bool false, .int .i64 (j : Int)]] W fun e w' => e = .returned (.bool true) ∧ Below W.heap.size W w') := fun W => by
  have := right_any 4 0 ⟨#[]⟩ false (j : Int) W (by unfold maxLen; decide)
  rw [show rightB 4 0 ⟨#[]⟩ false (j : Int) = true by simp [rightB]; omega] at this
  exact this
 have HC : Hid (∀ W : World, NamesOk W → W.cell? ⟨1, j, none⟩ = some (.string ⟨(nameL j).toArray⟩)) := fun W hW => names_cell hW j hj
 have HN := hide hn
 generalize (⟨(nameL j).toArray⟩ : ByteArray) = T at *
 have i1 : (0 : Int) ≤ (j : Int) := by omega
 have i2 : (j : Int) < 8 := by omega
 clear h1 hj hn
 go_enter Tryz.func86, Tryz.ntmps86
 go_wp2_with (go_at_call 117; refine (HR.out _).mono ?_; rintro e w1 ⟨rfl, hb1⟩; obtain ⟨q0, q1, q2, q3, q4, q5, q6⟩ := box_cells hb1; have q7 := HC.out _ (names_below HN.out q6))
 go_ret2
 exact ⟨rfl, q6⟩
theorem lxfault_any (s : ByteArray) (w : World) (hn : NamesOk w) :
    Calls Tryz.prog 128 #[.string s] w fun e w' => e = .returned (.tuple #[tokV (faultT s.data.toList).1, .int .i64 ((faultT s.data.toList).2.1 : Int), .int .i64 (faultT s.data.toList).2.2]) ∧ Below w.heap.size w w' := by
  have HS : Hid (∀ (j : Nat) (W : World), 1 ≤ j → j < 8 → NamesOk W → Calls Tryz.prog 86 #[.agg #[.int .i64 4, .int .i64 0, .string ⟨#[]⟩, .bool false, .int .i64 (j : Int)]] W fun e w' => e = .returned (.tuple #[.string ⟨(nameL j).toArray⟩, .int .i64 0]) ∧ Below W.heap.size W w') := fun j W h1 h2 h3 => show_fault j W h1 h2 h3
  have HP : Hid (∀ (T : ByteArray) (W : World), Calls Tryz.prog 160 #[.string s, .string T] W fun e w' => e = .returned (.bool (Lib.hasPrefix s.data.toList T.data.toList)) ∧ w' = W) := fun T W => Tryz.strings_HasPrefix s T W
  have HN := hide hn
  clear hn
  unfold faultT
  go_enter Tryz.func128, Tryz.ntmps128
  go_wp2
  go_loopw [5] (fun i wr => ∃ k : Nat, 1 ≤ k ∧ k ≤ 8 ∧ i = .int .i64 k ∧ pick nameL s.data.toList 1 7 = pick nameL s.data.toList k (8 - k) ∧ Below (w.heap.size + 1) (w.alloc (.cells #[.int .i64 0, .int .i64 0, .int .i64 0, .string ⟨#[]⟩, .bool false, .int .i64 0, .int .i64 0, .int .i64 0, .bool false, .bool false, .string ⟨#[]⟩, .int .i64 0] 66)) wr) (fun i _ => 8 - (intOf i).toNat)
  case atStart => exact ⟨1, by omega, by omega, rfl, rfl, Below.refl _ _⟩
  case round =>
    obtain ⟨k, hk1, hk2, rfl, hp, hB⟩ := hrel
    have HK := hide hp
    clear hp
    obtain ⟨c_r, f_r⟩ := bcelln hB
    have z_r : w.heap.size < wr.heap.size := by have := hB.size; simp at this; omega
    have hNr : Below w.heap.size w wr := ((Below.refl _ _).alloc (Nat.le_refl _) _).trans (hB.mono (by omega))
    by_cases h8 : k = 8
    · have HF : Hid (pick nameL s.data.toList 1 7 = none) := by show _ = _; rw [HK.out, h8]; rfl
      have HW : Hid (∀ W : World, Calls Tryz.prog 157 #[.int .i64 5] W fun r w' => r = .returned (.tuple #[.agg #[.int .i64 0, .int .i64 0, .int .i64 0, .string ⟨#[]⟩, .bool false, .int .i64 0, .int .i64 0, .int .i64 0, .bool false, .bool false, .string ⟨#[]⟩, .int .i64 0], .int .i64 0, .int .i64 5]) ∧ Below W.heap.size W w') := fun W => wrong_any 5 W
      have g8 : ¬ (k : Int) ≤ 7 := by omega
      clear HS HP hk2 h8
      go_wp2_with (go_at_call 157; refine (HW.out _).mono ?_; rintro e w2 ⟨rfl, hb_w2⟩; obtain ⟨c_w2, f_w2⟩ := bcell hb_w2)
      rw [HF.out]
      refine bodyPost_ret (v := .tuple #[.agg #[.int .i64 0, .int .i64 0, .int .i64 0, .string ⟨#[]⟩, .bool false, .int .i64 0, .int .i64 0, .int .i64 0, .bool false, .bool false, .string ⟨#[]⟩, .int .i64 0], .int .i64 0, .int .i64 5]) (by simp [results, Tryz.results128, go_sem, *]) rfl ⟨rfl, ?_⟩
      repeat' (first | with_reducible (first | exact Below.refl _ _ | refine Below.setCell ?_ ?_ _ | refine Below.alloc ?_ ?_ _ | refine below_drewN ?_ _ | refine Below.drew ?_ | refine Below.trans ?_ (Below.mono (by assumption) ?_) | exact Nat.le_refl _ | refine Nat.le_trans ?_ (Below.size (by assumption)) | refine zzA ?_ | refine zzB ?_ | refine zzC ?_ | refine zzD ?_) | (simp; done) | (simp; omega) | omega)
    · have g8 : (k : Int) ≤ 7 := by omega
      have HT : Hid ((⟨(nameL k).toArray⟩ : ByteArray).data.toList = nameL k) := rfl
      have HZ : Hid ((⟨(nameL k).toArray⟩ : ByteArray).size = (nameL k).length) := by show (nameL k).toArray.size = _; simp
      have HS' := hide (fun W => HS.out k W hk1 (by omega))
      generalize (⟨(nameL k).toArray⟩ : ByteArray) = T at *
      have HP' := hide (HP.out T)
      rw [HT.out] at HP'
      obtain ⟨q, hq⟩ : ∃ q, 8 - k = q + 1 := ⟨7 - k, by omega⟩
      clear HS HP
      cases hpf : Lib.hasPrefix s.data.toList (nameL k)
      · rw [hpf] at HP'
        have HM : Hid (pick nameL s.data.toList 1 7 = pick nameL s.data.toList (k + 1) (8 - (k + 1))) := by show _ = _; rw [HK.out, hq, pick_miss hpf, show q = 8 - (k + 1) by omega]
        clear hpf hq
        go_wp2_with (first | (go_at_call 86; refine (HS'.out _ (names_below HN.out (hNr.alloc (by omega) _))).mono ?_; rintro e w1 ⟨rfl, hb_w1⟩; obtain ⟨c_w1, f_w1⟩ := bcell hb_w1; have z_w1 : wr.heap.size < w1.heap.size := by have := hb_w1.size; simp at this; omega) | (go_at_call 160; refine (HP'.out _).mono ?_; rintro e wz ⟨rfl, hz⟩; subst wz))
        go_roundw
        case rel => exact ⟨k + 1, by omega, by omega, by go_num, HM.out, (hB.alloc (by omega) _).trans (hb_w1.mono (by simp; omega))⟩
        case measure => simp [intOf]; omega
      · rw [hpf] at HP'
        have HM : Hid (pick nameL s.data.toList 1 7 = some k) := by show _ = _; rw [HK.out, hq, pick_hit hpf]
        have HV : Hid (∀ W : World, Calls Tryz.prog 158 #[.agg #[.int .i64 4, .int .i64 0, .string ⟨#[]⟩, .bool false, .int .i64 (k : Int)], .int .i64 (T.size : Int)] W fun r w' => r = .returned (.tuple #[.agg #[.int .i64 1, .int .i64 4, .int .i64 0, .string ⟨#[]⟩, .bool false, .int .i64 (k : Int), .int .i64 0, .int .i64 0, .bool false, .bool false, .string ⟨#[]⟩, .int .i64 0], .int .i64 (T.size : Int), .int .i64 0]) ∧ Below W.heap.size W w') := fun W => valued_any 4 0 ⟨#[]⟩ false k T.size W
        clear hpf hq
        go_wp2_with (first | (go_at_call 86; refine (HS'.out _ (names_below HN.out (hNr.alloc (by omega) _))).mono ?_; rintro e w1 ⟨rfl, hb_w1⟩; obtain ⟨c_w1, f_w1⟩ := bcell hb_w1; have z_w1 : wr.heap.size < w1.heap.size := (by have := hb_w1.size; simp at this; omega); have y_w1 : w.heap.size < w1.heap.size := by omega) | (go_at_call 160; refine (HP'.out _).mono ?_; rintro e wz ⟨rfl, hz⟩; subst wz) | (go_at_call 158; refine (HV.out _).mono ?_; rintro e w2 ⟨rfl, hb_w2⟩; obtain ⟨c_w2, f_w2⟩ := bcell hb_w2))
        rw [HM.out]
        obtain ⟨c_e, f_e⟩ := bcelln (((hB.alloc (by omega) _).trans (hb_w1.mono (by simp; omega))).trans (hb_w2.mono (by omega)))
        clear c_w1 f_w1 c_w2 f_w2 c_r f_r
        refine bodyPost_ret (v := .tuple #[.agg #[.int .i64 1, .int .i64 4, .int .i64 0, .string ⟨#[]⟩, .bool false, .int .i64 (k : Int), .int .i64 0, .int .i64 0, .bool false, .bool false, .string ⟨#[]⟩, .int .i64 0], .int .i64 (T.size : Int), .int .i64 0]) (by simp [results, Tryz.results128, go_sem, *]) rfl ⟨by rw [HZ.out]; rfl, ?_⟩
        repeat' (first | with_reducible (first | exact Below.refl _ _ | refine Below.setCell ?_ ?_ _ | refine Below.alloc ?_ ?_ _ | refine below_drewN ?_ _ | refine Below.drew ?_ | refine Below.trans ?_ (Below.mono (by assumption) ?_) | exact Nat.le_refl _ | refine Nat.le_trans ?_ (Below.size (by assumption)) | refine zzA ?_ | refine zzB ?_ | refine zzC ?_ | refine zzD ?_) | (simp; done) | (simp; omega) | omega)
theorem run_sign (arr : Array Value) (k : Nat) (hk : (k : Int) < 15) (T : ByteArray) (h : arr[k]? = some (.string T)) (W : World) : (Instr.index 215 (.agg arr) (.int .i64 (k : Int))).run Tryz.prog W = .ok (.string T) W := by
 have hk' : k < 15 := by omega
 simp [Instr.index, run_underlying Tryz.underlying215, asIntOf, go_sem, hk', h]
theorem lxsign_any (s : ByteArray) (w : World) (hn : SignsOk w) :
    Calls Tryz.prog 131 #[.string s] w fun e w' => e = .returned (.tuple #[tokV (signT s.data.toList).1, .int .i64 ((signT s.data.toList).2.1 : Int), .int .i64 (signT s.data.toList).2.2]) ∧ Below w.heap.size w w' := by
  have HP : Hid (∀ (T : ByteArray) (W : World), Calls Tryz.prog 160 #[.string s, .string T] W fun e w' => e = .returned (.bool (Lib.hasPrefix s.data.toList T.data.toList)) ∧ w' = W) := fun T W => Tryz.strings_HasPrefix s T W
  have s0 := signs_cell (signs_below hn ((Below.refl _ _).alloc (Nat.le_refl _) (.cells #[.int .i64 0, .int .i64 0, .int .i64 0, .string ⟨#[]⟩, .bool false, .int .i64 0, .int .i64 0, .int .i64 0, .bool false, .bool false, .string ⟨#[]⟩, .int .i64 0] 66))) 0
  have s1 := signs_cell (signs_below hn ((Below.refl _ _).alloc (Nat.le_refl _) (.cells #[.int .i64 0, .int .i64 0, .int .i64 0, .string ⟨#[]⟩, .bool false, .int .i64 0, .int .i64 0, .int .i64 0, .bool false, .bool false, .string ⟨#[]⟩, .int .i64 0] 66))) 1
  have s2 := signs_cell (signs_below hn ((Below.refl _ _).alloc (Nat.le_refl _) (.cells #[.int .i64 0, .int .i64 0, .int .i64 0, .string ⟨#[]⟩, .bool false, .int .i64 0, .int .i64 0, .int .i64 0, .bool false, .bool false, .string ⟨#[]⟩, .int .i64 0] 66))) 2
  have s3 := signs_cell (signs_below hn ((Below.refl _ _).alloc (Nat.le_refl _) (.cells #[.int .i64 0, .int .i64 0, .int .i64 0, .string ⟨#[]⟩, .bool false, .int .i64 0, .int .i64 0, .int .i64 0, .bool false, .bool false, .string ⟨#[]⟩, .int .i64 0] 66))) 3
  have s4 := signs_cell (signs_below hn ((Below.refl _ _).alloc (Nat.le_refl _) (.cells #[.int .i64 0, .int .i64 0, .int .i64 0, .string ⟨#[]⟩, .bool false, .int .i64 0, .int .i64 0, .int .i64 0, .bool false, .bool false, .string ⟨#[]⟩, .int .i64 0] 66))) 4
  have s5 := signs_cell (signs_below hn ((Below.refl _ _).alloc (Nat.le_refl _) (.cells #[.int .i64 0, .int .i64 0, .int .i64 0, .string ⟨#[]⟩, .bool false, .int .i64 0, .int .i64 0, .int .i64 0, .bool false, .bool false, .string ⟨#[]⟩, .int .i64 0] 66))) 5
  have s6 := signs_cell (signs_below hn ((Below.refl _ _).alloc (Nat.le_refl _) (.cells #[.int .i64 0, .int .i64 0, .int .i64 0, .string ⟨#[]⟩, .bool false, .int .i64 0, .int .i64 0, .int .i64 0, .bool false, .bool false, .string ⟨#[]⟩, .int .i64 0] 66))) 6
  have s7 := signs_cell (signs_below hn ((Below.refl _ _).alloc (Nat.le_refl _) (.cells #[.int .i64 0, .int .i64 0, .int .i64 0, .string ⟨#[]⟩, .bool false, .int .i64 0, .int .i64 0, .int .i64 0, .bool false, .bool false, .string ⟨#[]⟩, .int .i64 0] 66))) 7
  have s8 := signs_cell (signs_below hn ((Below.refl _ _).alloc (Nat.le_refl _) (.cells #[.int .i64 0, .int .i64 0, .int .i64 0, .string ⟨#[]⟩, .bool false, .int .i64 0, .int .i64 0, .int .i64 0, .bool false, .bool false, .string ⟨#[]⟩, .int .i64 0] 66))) 8
  have s9 := signs_cell (signs_below hn ((Below.refl _ _).alloc (Nat.le_refl _) (.cells #[.int .i64 0, .int .i64 0, .int .i64 0, .string ⟨#[]⟩, .bool false, .int .i64 0, .int .i64 0, .int .i64 0, .bool false, .bool false, .string ⟨#[]⟩, .int .i64 0] 66))) 9
  have s10 := signs_cell (signs_below hn ((Below.refl _ _).alloc (Nat.le_refl _) (.cells #[.int .i64 0, .int .i64 0, .int .i64 0, .string ⟨#[]⟩, .bool false, .int .i64 0, .int .i64 0, .int .i64 0, .bool false, .bool false, .string ⟨#[]⟩, .int .i64 0] 66))) 10
  have s11 := signs_cell (signs_below hn ((Below.refl _ _).alloc (Nat.le_refl _) (.cells #[.int .i64 0, .int .i64 0, .int .i64 0, .string ⟨#[]⟩, .bool false, .int .i64 0, .int .i64 0, .int .i64 0, .bool false, .bool false, .string ⟨#[]⟩, .int .i64 0] 66))) 11
  have s12 := signs_cell (signs_below hn ((Below.refl _ _).alloc (Nat.le_refl _) (.cells #[.int .i64 0, .int .i64 0, .int .i64 0, .string ⟨#[]⟩, .bool false, .int .i64 0, .int .i64 0, .int .i64 0, .bool false, .bool false, .string ⟨#[]⟩, .int .i64 0] 66))) 12
  have s13 := signs_cell (signs_below hn ((Below.refl _ _).alloc (Nat.le_refl _) (.cells #[.int .i64 0, .int .i64 0, .int .i64 0, .string ⟨#[]⟩, .bool false, .int .i64 0, .int .i64 0, .int .i64 0, .bool false, .bool false, .string ⟨#[]⟩, .int .i64 0] 66))) 13
  have s14 := signs_cell (signs_below hn ((Below.refl _ _).alloc (Nat.le_refl _) (.cells #[.int .i64 0, .int .i64 0, .int .i64 0, .string ⟨#[]⟩, .bool false, .int .i64 0, .int .i64 0, .int .i64 0, .bool false, .bool false, .string ⟨#[]⟩, .int .i64 0] 66))) 14
  simp only [signs, List.map_cons, List.map_nil, List.getElem?_cons_zero, List.getElem?_cons_succ] at s0 s1 s2 s3 s4 s5 s6 s7 s8 s9 s10 s11 s12 s13 s14
  clear hn
  unfold signT
  go_enter Tryz.func131, Tryz.ntmps131
  go_wp2
  clear s0 s1 s2 s3 s4 s5 s6 s7 s8 s9 s10 s11 s12 s13 s14
  have HA : Hid (∀ k : Nat, k < 15 → (#[Value.string ⟨#[60, 62]⟩, Value.string ⟨#[60, 61]⟩, Value.string ⟨#[62, 61]⟩, Value.string ⟨#[60]⟩, Value.string ⟨#[62]⟩, Value.string ⟨#[61]⟩, Value.string ⟨#[43]⟩, Value.string ⟨#[45]⟩, Value.string ⟨#[42]⟩, Value.string ⟨#[47]⟩, Value.string ⟨#[38]⟩, Value.string ⟨#[40]⟩, Value.string ⟨#[41]⟩, Value.string ⟨#[44]⟩, Value.string ⟨#[58]⟩] : Array Value)[k]? = some (.string ⟨(signL k).toArray⟩)) := fun k hk => by
    have : k = 0 ∨ k = 1 ∨ k = 2 ∨ k = 3 ∨ k = 4 ∨ k = 5 ∨ k = 6 ∨ k = 7 ∨ k = 8 ∨ k = 9 ∨ k = 10 ∨ k = 11 ∨ k = 12 ∨ k = 13 ∨ k = 14 := by omega
    rcases this with rfl | rfl | rfl | rfl | rfl | rfl | rfl | rfl | rfl | rfl | rfl | rfl | rfl | rfl | rfl <;> rfl
  have ha : (#[Value.string ⟨#[60, 62]⟩, Value.string ⟨#[60, 61]⟩, Value.string ⟨#[62, 61]⟩, Value.string ⟨#[60]⟩, Value.string ⟨#[62]⟩, Value.string ⟨#[61]⟩, Value.string ⟨#[43]⟩, Value.string ⟨#[45]⟩, Value.string ⟨#[42]⟩, Value.string ⟨#[47]⟩, Value.string ⟨#[38]⟩, Value.string ⟨#[40]⟩, Value.string ⟨#[41]⟩, Value.string ⟨#[44]⟩, Value.string ⟨#[58]⟩] : Array Value).size = 15 := rfl
  generalize (#[Value.string ⟨#[60, 62]⟩, Value.string ⟨#[60, 61]⟩, Value.string ⟨#[62, 61]⟩, Value.string ⟨#[60]⟩, Value.string ⟨#[62]⟩, Value.string ⟨#[61]⟩, Value.string ⟨#[43]⟩, Value.string ⟨#[45]⟩, Value.string ⟨#[42]⟩, Value.string ⟨#[47]⟩, Value.string ⟨#[38]⟩, Value.string ⟨#[40]⟩, Value.string ⟨#[41]⟩, Value.string ⟨#[44]⟩, Value.string ⟨#[58]⟩] : Array Value) = arr at *
  go_loopw [8] (fun i wr => ∃ k : Nat, k ≤ 15 ∧ i = .int .i64 k ∧ pick signL s.data.toList 0 15 = pick signL s.data.toList k (15 - k) ∧ Below (w.heap.size + 1) (w.alloc (.cells #[.int .i64 0, .int .i64 0, .int .i64 0, .string ⟨#[]⟩, .bool false, .int .i64 0, .int .i64 0, .int .i64 0, .bool false, .bool false, .string ⟨#[]⟩, .int .i64 0] 66)) wr) (fun i _ => 15 - (intOf i).toNat)
  case atStart => exact ⟨0, by omega, rfl, rfl, Below.refl _ _⟩
  case round =>
    obtain ⟨k, hk2, rfl, hp, hB⟩ := hrel
    have HK := hide hp
    clear hp
    obtain ⟨c_r, f_r⟩ := bcelln hB
    have z_r : w.heap.size < wr.heap.size := by have := hB.size; simp at this; omega
    by_cases h8 : k = 15
    · have HF : Hid (pick signL s.data.toList 0 15 = none) := by show _ = _; rw [HK.out, h8]; rfl
      have HW : Hid (∀ W : World, Calls Tryz.prog 157 #[.int .i64 5] W fun r w' => r = .returned (.tuple #[.agg #[.int .i64 0, .int .i64 0, .int .i64 0, .string ⟨#[]⟩, .bool false, .int .i64 0, .int .i64 0, .int .i64 0, .bool false, .bool false, .string ⟨#[]⟩, .int .i64 0], .int .i64 0, .int .i64 5]) ∧ Below W.heap.size W w') := fun W => wrong_any 5 W
      have g8 : ¬ (k : Int) < 15 := by omega
      clear HP hk2 h8
      go_wp2_with (go_at_call 157; refine (HW.out _).mono ?_; rintro e w2 ⟨rfl, hb_w2⟩; obtain ⟨c_w2, f_w2⟩ := bcell hb_w2)
      rw [HF.out]
      refine bodyPost_ret (v := .tuple #[.agg #[.int .i64 0, .int .i64 0, .int .i64 0, .string ⟨#[]⟩, .bool false, .int .i64 0, .int .i64 0, .int .i64 0, .bool false, .bool false, .string ⟨#[]⟩, .int .i64 0], .int .i64 0, .int .i64 5]) (by simp [results, Tryz.results131, go_sem, *]) rfl ⟨rfl, ?_⟩
      repeat' (first | with_reducible (first | exact Below.refl _ _ | refine Below.setCell ?_ ?_ _ | refine Below.alloc ?_ ?_ _ | refine below_drewN ?_ _ | refine Below.drew ?_ | refine Below.trans ?_ (Below.mono (by assumption) ?_) | exact Nat.le_refl _ | refine Nat.le_trans ?_ (Below.size (by assumption)) | refine zzA ?_ | refine zzB ?_ | refine zzC ?_ | refine zzD ?_) | (simp; done) | (simp; omega) | omega)
    · have g8 : (k : Int) < 15 := by omega
      have hk := HA.out k (by omega)
      have HT : Hid ((⟨(signL k).toArray⟩ : ByteArray).data.toList = signL k) := rfl
      have HZ : Hid ((⟨(signL k).toArray⟩ : ByteArray).size = (signL k).length) := by show (signL k).toArray.size = _; simp
      have HB : Hid (signL k = signL k ∧ (⟨(signL k).toArray⟩ : ByteArray) = ⟨(signL k).toArray⟩) := ⟨rfl, rfl⟩
      generalize hT : (⟨(signL k).toArray⟩ : ByteArray) = T at hk HT HZ
      have HTT := hide hT
      have hi := run_sign arr k g8 T hk
      have HP' := hide (HP.out T)
      rw [HT.out] at HP'
      have HQ : Hid (∃ q, 15 - k = q + 1) := ⟨14 - k, by omega⟩
      have hk3 : k < 15 := by omega
      clear hT hk ha HB HP h8 hk2
      cases hpf : Lib.hasPrefix s.data.toList (signL k)
      · rw [hpf] at HP'
        have HM : Hid (pick signL s.data.toList 0 15 = pick signL s.data.toList (k + 1) (15 - (k + 1))) := by
          obtain ⟨q, hq⟩ := HQ.out
          show _ = _; rw [HK.out, hq, pick_miss hpf, show q = 15 - (k + 1) by omega]
        clear hpf
        go_wp2_with (go_at_call 160; refine (HP'.out _).mono ?_; rintro e wz ⟨rfl, hz⟩; subst wz)
        go_roundw
        case rel => exact ⟨k + 1, by omega, by go_num, HM.out, hB⟩
        case measure => simp [intOf]; omega
      · rw [hpf] at HP'
        have HM : Hid (pick signL s.data.toList 0 15 = some k) := by
          obtain ⟨q, hq⟩ := HQ.out
          show _ = _; rw [HK.out, hq, pick_hit hpf]
        clear hpf
        go_wp2_with (go_at_call 160; refine (HP'.out _).mono ?_; rintro e wz ⟨rfl, hz⟩; subst wz)
        rw [HM.out]
        refine bodyPost_ret (v := .tuple #[.agg #[.int .i64 4, .int .i64 0, .int .i64 0, .string ⟨#[]⟩, .bool false, .int .i64 0, .int .i64 0, .int .i64 0, .bool false, .bool false, .string T, .int .i64 0], .int .i64 (T.size : Int), .int .i64 0]) (by simp [results, Tryz.results131, go_sem, *]) rfl ⟨by rw [HZ.out, ← HTT.out]; rfl, ?_⟩
        repeat' (first | with_reducible (first | exact Below.refl _ _ | refine Below.setCell ?_ ?_ _ | refine Below.alloc ?_ ?_ _ | refine below_drewN ?_ _ | refine Below.drew ?_ | refine Below.trans ?_ (Below.mono (by assumption) ?_) | exact Nat.le_refl _ | refine Nat.le_trans ?_ (Below.size (by assumption)) | refine zzA ?_ | refine zzB ?_ | refine zzC ?_ | refine zzD ?_) | (simp; done) | (simp; omega) | omega)
end Go.Proofs.YtiaoaifoecmemaaGreatDoor
