/-
  The contracts of lex's wrong, valued and number.
-/
import Derived.Test.YtiaoaifoecmemaaGreatDoorRLxA
set_option maxRecDepth 100000
set_option maxHeartbeats 4000000
namespace Go.Proofs.YtiaoaifoecmemaaGreatDoor
open Go.RowKit
theorem bcell {W w1 : World} (hb : Below W.heap.size W w1) : (∀ b o, b < W.heap.size → w1.cell? ⟨b, o, none⟩ = W.cell? ⟨b, o, none⟩) ∧ (∀ b o, b < W.heap.size → w1.frozen? ⟨b, o, none⟩ = W.frozen? ⟨b, o, none⟩) :=
 ⟨fun b o h => hb.cell (p := ⟨b, o, none⟩) h, fun b o h => hb.frozen (p := ⟨b, o, none⟩) h⟩
theorem bcelln {n : Nat} {W w1 : World} (hb : Below n W w1) : (∀ b o, b < n → w1.cell? ⟨b, o, none⟩ = W.cell? ⟨b, o, none⟩) ∧ (∀ b o, b < n → w1.frozen? ⟨b, o, none⟩ = W.frozen? ⟨b, o, none⟩) :=
 ⟨fun b o h => hb.cell (p := ⟨b, o, none⟩) h, fun b o h => hb.frozen (p := ⟨b, o, none⟩) h⟩
theorem str_take' (s : ByteArray) (k : Nat) : (s.extract 0 k).data.toList = s.data.toList.take k := by simp
theorem str_drop' (s : ByteArray) (k : Nat) : (s.extract k s.size).data.toList = s.data.toList.drop k := by
 simp; rw [List.take_of_length_le (by simp)]
theorem ext_size (s : ByteArray) (a b : Nat) : (s.extract a b).size ≤ s.size := by rw [ByteArray.size_extract]; omega
theorem wrong_any (e : Int) (w : World) :
  Calls Tryz.prog 157 #[.int .i64 e] w fun r w' => r = .returned (.tuple #[.agg #[.int .i64 0, .int .i64 0, .int .i64 0, .string ⟨#[]⟩, .bool false, .int .i64 0, .int .i64 0, .int .i64 0, .bool false, .bool false, .string ⟨#[]⟩, .int .i64 0], .int .i64 0, .int .i64 e]) ∧ Below w.heap.size w w' := by
 go_enter Tryz.func157, Tryz.ntmps157
 go_wp2
 refine bodyPost_ret (v := .tuple #[.agg #[.int .i64 0, .int .i64 0, .int .i64 0, .string ⟨#[]⟩, .bool false, .int .i64 0, .int .i64 0, .int .i64 0, .bool false, .bool false, .string ⟨#[]⟩, .int .i64 0], .int .i64 0, .int .i64 e]) (by simp [results, Tryz.results157, go_sem]) rfl ⟨rfl, ?_⟩
 repeat' (first | with_reducible (first | exact Below.refl _ _ | refine Below.setCell ?_ ?_ _ | refine Below.alloc ?_ ?_ _ | refine below_drewN ?_ _ | refine Below.drew ?_ | refine Below.trans ?_ (Below.mono (by assumption) ?_) | exact Nat.le_refl _ | refine Nat.le_trans ?_ (Below.size (by assumption)) | refine zzA ?_ | refine zzB ?_ | refine zzC ?_ | refine zzD ?_) | (simp; done) | (simp; omega) | omega)
theorem valued_any (k n : Int) (s : ByteArray) (b : Bool) (c : Int) (m : Int) (w : World) :
  Calls Tryz.prog 158 #[.agg #[.int .i64 k, .int .i64 n, .string s, .bool b, .int .i64 c], .int .i64 m] w fun r w' => r = .returned (.tuple #[.agg #[.int .i64 1, .int .i64 k, .int .i64 n, .string s, .bool b, .int .i64 c, .int .i64 0, .int .i64 0, .bool false, .bool false, .string ⟨#[]⟩, .int .i64 0], .int .i64 m, .int .i64 0]) ∧ Below w.heap.size w w' := by
 go_enter Tryz.func158, Tryz.ntmps158
 go_wp2
 refine bodyPost_ret (v := .tuple #[.agg #[.int .i64 1, .int .i64 k, .int .i64 n, .string s, .bool b, .int .i64 c, .int .i64 0, .int .i64 0, .bool false, .bool false, .string ⟨#[]⟩, .int .i64 0], .int .i64 m, .int .i64 0]) (by simp [results, Tryz.results158, go_sem]) rfl ⟨rfl, ?_⟩
 repeat' (first | with_reducible (first | exact Below.refl _ _ | refine Below.setCell ?_ ?_ _ | refine Below.alloc ?_ ?_ _ | refine below_drewN ?_ _ | refine Below.drew ?_ | refine Below.trans ?_ (Below.mono (by assumption) ?_) | exact Nat.le_refl _ | refine Nat.le_trans ?_ (Below.size (by assumption)) | refine zzA ?_ | refine zzB ?_ | refine zzC ?_ | refine zzD ?_) | (simp; done) | (simp; omega) | omega)
theorem lxnum_any (s : ByteArray) (w : World) (hc : CellOk w) (hs : s.size ≤ maxLen) :
    Calls Tryz.prog 126 #[.string s] w fun e w' => e = .returned (.tuple #[tokV (numberT s.data.toList).1, .int .i64 ((numberT s.data.toList).2.1 : Int), .int .i64 (numberT s.data.toList).2.2]) ∧ Below w.heap.size w w' := by
  have hl := run_le numB s.data.toList
  have hl' : s.data.toList.length = s.size := by simp
  have HR : Hid (∀ W : World, Calls Tryz.prog 97 #[.string s, .func (.func 155) #[] #[]] W fun e w' => e = .returned (.int .i64 (runN numB s.data.toList : Int)) ∧ w' = W) := fun W => row_num s W hs
  have HP : Hid (∀ W : World, CellOk W → Calls Tryz.prog 156 #[.string (s.extract 0 (runN numB s.data.toList))] W fun e w' => e = .returned (.tuple #[.int .i64 (parseR (s.data.toList.take (runN numB s.data.toList))).1, .int .i64 (parseR (s.data.toList.take (runN numB s.data.toList))).2]) ∧ Below W.heap.size W w') := fun W hW => by
    have := parse_at (s.extract 0 (runN numB s.data.toList)) W hW (Nat.le_trans (ext_size _ _ _) hs)
    rw [str_take'] at this
    exact this
  have HC := hide hc
  unfold maxLen at hs
  unfold numberT
  generalize parseR (s.data.toList.take (runN numB s.data.toList)) = r at *
  generalize runN numB s.data.toList = n at *
  obtain ⟨v, z⟩ := r
  have hn : n ≤ s.size := by omega
  clear hl hl' hc
  simp only at *
  by_cases hz : z = 0
  · subst hz
    rw [if_pos rfl]
    have HV : Hid (∀ W : World, Calls Tryz.prog 158 #[.agg #[.int .i64 1, .int .i64 v, .string ⟨#[]⟩, .bool false, .int .i64 0], .int .i64 (n : Int)] W fun r w' => r = .returned (.tuple #[.agg #[.int .i64 1, .int .i64 1, .int .i64 v, .string ⟨#[]⟩, .bool false, .int .i64 0, .int .i64 0, .int .i64 0, .bool false, .bool false, .string ⟨#[]⟩, .int .i64 0], .int .i64 (n : Int), .int .i64 0]) ∧ Below W.heap.size W w') := fun W => valued_any 1 v ⟨#[]⟩ false 0 n W
    go_enter Tryz.func126, Tryz.ntmps126
    go_wp2_with (first | (go_at_call 97; refine (HR.out _).mono ?_; rintro e wz ⟨rfl, hz⟩; subst wz) | (go_at_call 156; refine (HP.out _ (cellOk_below HC.out ((Below.refl _ _).alloc (Nat.le_refl _) _))).mono ?_; rintro e w1 ⟨rfl, hb_w1⟩; obtain ⟨c_w1, f_w1⟩ := bcell hb_w1; have z_w1 : w.heap.size < w1.heap.size := by have := hb_w1.size; simp at this; omega) | (go_at_call 158; refine (HV.out _).mono ?_; rintro e w2 ⟨rfl, hb_w2⟩; obtain ⟨c_w2, f_w2⟩ := bcell hb_w2))
    refine bodyPost_ret (v := .tuple #[.agg #[.int .i64 1, .int .i64 1, .int .i64 v, .string ⟨#[]⟩, .bool false, .int .i64 0, .int .i64 0, .int .i64 0, .bool false, .bool false, .string ⟨#[]⟩, .int .i64 0], .int .i64 (n : Int), .int .i64 0]) (by simp [results, Tryz.results126, go_sem, *]) rfl ⟨rfl, ?_⟩
    repeat' (first | with_reducible (first | exact Below.refl _ _ | refine Below.setCell ?_ ?_ _ | refine Below.alloc ?_ ?_ _ | refine below_drewN ?_ _ | refine Below.drew ?_ | refine Below.trans ?_ (Below.mono (by assumption) ?_) | exact Nat.le_refl _ | refine Nat.le_trans ?_ (Below.size (by assumption)) | refine zzA ?_ | refine zzB ?_ | refine zzC ?_ | refine zzD ?_) | (simp; done) | (simp; omega) | omega)
  · rw [if_neg hz]
    have ez : (z == 0) = false := by simpa using hz
    have HW : Hid (∀ W : World, Calls Tryz.prog 157 #[.int .i64 z] W fun r w' => r = .returned (.tuple #[.agg #[.int .i64 0, .int .i64 0, .int .i64 0, .string ⟨#[]⟩, .bool false, .int .i64 0, .int .i64 0, .int .i64 0, .bool false, .bool false, .string ⟨#[]⟩, .int .i64 0], .int .i64 0, .int .i64 z]) ∧ Below W.heap.size W w') := fun W => wrong_any z W
    clear hz
    go_enter Tryz.func126, Tryz.ntmps126
    go_wp2_with (first | (go_at_call 97; refine (HR.out _).mono ?_; rintro e wz ⟨rfl, hz⟩; subst wz) | (go_at_call 156; refine (HP.out _ (cellOk_below HC.out ((Below.refl _ _).alloc (Nat.le_refl _) _))).mono ?_; rintro e w1 ⟨rfl, hb_w1⟩; obtain ⟨c_w1, f_w1⟩ := bcell hb_w1; have z_w1 : w.heap.size < w1.heap.size := by have := hb_w1.size; simp at this; omega) | (go_at_call 157; refine (HW.out _).mono ?_; rintro e w2 ⟨rfl, hb_w2⟩; obtain ⟨c_w2, f_w2⟩ := bcell hb_w2))
    refine bodyPost_ret (v := .tuple #[.agg #[.int .i64 0, .int .i64 0, .int .i64 0, .string ⟨#[]⟩, .bool false, .int .i64 0, .int .i64 0, .int .i64 0, .bool false, .bool false, .string ⟨#[]⟩, .int .i64 0], .int .i64 0, .int .i64 z]) (by simp [results, Tryz.results126, go_sem, *]) rfl ⟨rfl, ?_⟩
    repeat' (first | with_reducible (first | exact Below.refl _ _ | refine Below.setCell ?_ ?_ _ | refine Below.alloc ?_ ?_ _ | refine below_drewN ?_ _ | refine Below.drew ?_ | refine Below.trans ?_ (Below.mono (by assumption) ?_) | exact Nat.le_refl _ | refine Nat.le_trans ?_ (Below.size (by assumption)) | refine zzA ?_ | refine zzB ?_ | refine zzC ?_ | refine zzD ?_) | (simp; done) | (simp; omega) | omega)
end Go.Proofs.YtiaoaifoecmemaaGreatDoor
