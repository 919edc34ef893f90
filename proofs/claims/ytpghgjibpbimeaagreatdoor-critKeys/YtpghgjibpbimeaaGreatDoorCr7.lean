/-
  The contract of crit's Of.
-/
import Derived.Test.YtpghgjibpbimeaaGreatDoorCr6
namespace Go.Proofs.YtpghgjibpbimeaaGreatDoor
open Go.RowKit
set_option linter.unusedSimpArgs false

theorem bcell {W w1 : World} (hb : Below W.heap.size W w1) : (∀ b o, b < W.heap.size → w1.cell? ⟨b, o, none⟩ = W.cell? ⟨b, o, none⟩) ∧ (∀ b o, b < W.heap.size → w1.frozen? ⟨b, o, none⟩ = W.frozen? ⟨b, o, none⟩) :=
  ⟨fun b o h => hb.cell (p := ⟨b, o, none⟩) h, fun b o h => hb.frozen (p := ⟨b, o, none⟩) h⟩
theorem ahead_pre {l t : List UInt8} (h : csigns.find? (fun t => Lib.hasPrefix l t) = some t) : t.length ≤ l.length ∧ 1 ≤ t.length := by
  have h1 := List.find?_some h
  have h2 := ahead_mem h
  constructor
  · unfold Lib.hasPrefix at h1
    exact (List.isPrefixOf_iff_prefix.1 h1).length_le
  · simp [csigns] at h2
    rcases h2 with rfl | rfl | rfl | rfl | rfl | rfl <;> decide
theorem ahead_le (l : List UInt8) : (aheadR l).length ≤ l.length := by
  cases h : csigns.find? (fun t => Lib.hasPrefix l t) with
  | none => rw [ahead_none h]; simp
  | some t => rw [ahead_some h]; exact (ahead_pre h).1
/-- The criterion that a value means: its sign, its value, and why there is none. -/
def restR (l : List UInt8) : Val × Int := readR (l.drop (aheadR l).length)
def signR' (l : List UInt8) : List UInt8 := if aheadR l = [] then [61] else aheadR l
def ofR (k n : Int) (s : ByteArray) (b : Bool) (c : Int) : List UInt8 × Val × Int :=
  if rightB k n s b c then
    (if k = 2 then (if (restR s.data.toList).2 = 0 then (signR' s.data.toList, (restR s.data.toList).1, 0) else ([], ⟨0, 0, [], false, 0⟩, 2)) else ([61], ⟨k, n, s.data.toList, b, c⟩, 0))
  else ([], ⟨0, 0, [], false, 0⟩, 2)
def critV (g : List UInt8) (v : Val) : Value := .agg #[.string ⟨g.toArray⟩, .int .i64 v.k, .int .i64 v.n, .string ⟨v.s.toArray⟩, .bool v.b, .int .i64 v.c]
set_option maxHeartbeats 2000000 in
theorem Of_any (k n : Int) (s : ByteArray) (b : Bool) (c : Int) (w : World) (h1 : CSignsOk w) (h2 : CellOk w) (h3 : NamesOk w) (hz : s.size ≤ maxLen) :
    Calls Tryz.prog 34 #[.agg #[.int .i64 k, .int .i64 n, .string s, .bool b, .int .i64 c]] w fun e w' => e = .returned (.tuple #[critV (ofR k n s b c).1 (ofR k n s b c).2.1, .int .i64 (ofR k n s b c).2.2]) ∧ Below w.heap.size w w' := by
  have HV : Hid (∀ W : World, Calls Tryz.prog 24 #[.agg #[.int .i64 k, .int .i64 n, .string s, .bool b, .int .i64 c]] W fun e w' => e = .returned (.int .i64 (checkV k n s b c)) ∧ Below W.heap.size W w') := fun W => checkV_any k n s b c W hz
  unfold ofR critV
  unfold checkV at HV
  cases er : rightB k n s b c
  · rw [er] at HV
    simp only [Bool.false_eq_true, if_false] at HV ⊢
    clear er hz h1 h2 h3
    go_enter Tryz.func34, Tryz.ntmps34
    go_wp2_with (first | (go_at_call 24; refine (HV.out _).mono ?_; rintro e w1 ⟨rfl, hb_w1⟩; obtain ⟨c_w1, f_w1⟩ := bcell hb_w1; have z_w1 := hb_w1.size; simp at z_w1; have y_w1 : w.heap.size < w1.heap.size := (by omega); have x_w1 : w.heap.size + 1 < w1.heap.size := (by omega)))
    refine bodyPost_ret (v := .tuple #[.agg #[.string ⟨#[]⟩, .int .i64 0, .int .i64 0, .string ⟨#[]⟩, .bool false, .int .i64 0], .int .i64 2]) (by simp [results, Tryz.results34, go_sem, *]) rfl ⟨rfl, ?_⟩
    repeat' (first | with_reducible exact Below.refl _ _ | with_reducible refine Below.setCell ?_ ?_ _ | with_reducible refine Below.alloc ?_ ?_ _ | with_reducible refine below_drewN ?_ _ | with_reducible refine Below.drew ?_ | with_reducible refine Below.trans ?_ (Below.mono (by assumption) ?_) | with_reducible exact Nat.le_refl _ | with_reducible refine Nat.le_trans ?_ (Below.size (by assumption)) | with_reducible refine Nat.le_trans ?_ (size_alloc _ _) | with_reducible refine Nat.le_trans ?_ (size_set _ _ _) | with_reducible refine Nat.le_trans ?_ (size_drewN _ _) | with_reducible refine Nat.le_trans ?_ (size_drew _) | (simp; done) | (simp; omega) | omega)
  rw [er] at HV
  simp only [if_true] at HV ⊢
  by_cases hk : k = 2
  · subst hk
    have z1 := right_size er
    have HS : Hid (∀ W : World, Below w.heap.size w W → Calls Tryz.prog 37 #[.string s] W fun e w' => e = .returned (.string ⟨(aheadR s.data.toList).toArray⟩) ∧ Below W.heap.size W w') := fun W hW => signAhead_any s W (csigns_below h1 hW)
    have hl := ahead_le s.data.toList
    have hls : s.data.toList.length = s.size := Array.length_toList
    have HR : Hid (∀ W : World, Below w.heap.size w W → Calls Tryz.prog 47 #[.string (s.extract (aheadR s.data.toList).length s.size)] W fun e w' => e = .returned (.tuple #[.agg #[.int .i64 (restR s.data.toList).1.k, .int .i64 (restR s.data.toList).1.n, .string ⟨(restR s.data.toList).1.s.toArray⟩, .bool (restR s.data.toList).1.b, .int .i64 (restR s.data.toList).1.c], .int .i64 (restR s.data.toList).2]) ∧ Below W.heap.size W w') := fun W hW => by
      have := readV_any (s.extract (aheadR s.data.toList).length s.size) W (cellOk_below h2 hW) (names_below h3 hW) (by rw [ByteArray.size_extract]; omega)
      rw [show (s.extract (aheadR s.data.toList).length s.size).data.toList = s.data.toList.drop (aheadR s.data.toList).length by simp; rw [List.take_of_length_le (by simp)]] at this
      exact this
    obtain ⟨T, hT⟩ : ∃ T : ByteArray, (⟨(aheadR s.data.toList).toArray⟩ : ByteArray) = T := ⟨_, rfl⟩
    have hT1 : T.size = (aheadR s.data.toList).length := by rw [← hT]; show (aheadR s.data.toList).toArray.size = _; simp
    have hT2 : T.data.toList = aheadR s.data.toList := by rw [← hT]
    have HX : Hid ((⟨(signR' s.data.toList).toArray⟩ : ByteArray) = if T.data.toList = [] then ⟨#[61]⟩ else T) := by
      show _ = _
      rw [hT2]
      unfold signR'
      by_cases h : aheadR s.data.toList = []
      · rw [if_pos h, if_pos h]
      · rw [if_neg h, if_neg h, hT]
    rw [hT] at HS
    rw [← hT1] at HR hl
    rw [hls] at hl
    rw [if_pos rfl]
    obtain ⟨X, hX⟩ : ∃ X, (⟨(signR' s.data.toList).toArray⟩ : ByteArray) = X := ⟨_, rfl⟩
    rw [hX] at HX
    have HXe := hide hX
    clear hX
    generalize restR s.data.toList = R at *
    obtain ⟨⟨rk, rn, rs, rb, rc⟩, re⟩ := R
    simp only at HR ⊢
    clear h1 h2 h3 er hls hT hT1 hT2
    have i1 : (0 : Int) ≤ (T.size : Int) := by omega
    have i2 : (T.size : Int) ≤ (s.size : Int) := by omega
    have hq : T.toList = T.data.toList := by rw [ByteArray.toList_eq]
    by_cases hr : re = 0
    · subst hr
      rw [if_pos rfl]
      simp only
      by_cases hA : T.data.toList = []
      · rw [if_pos hA] at HX
        have HX2 : X = ⟨#[61]⟩ := HX.out
        have t1 : (T.toList == []) = true := by rw [hq, hA]; rfl
        have t2 : T.data = #[] := by simpa using hA
        clear hq hA HX
        go_enter Tryz.func34, Tryz.ntmps34
        go_wp2_with (first | (go_at_call 24; refine (HV.out _).mono ?_; rintro e w1 ⟨rfl, hb_w1⟩; obtain ⟨c_w1, f_w1⟩ := bcell hb_w1; have z_w1 := hb_w1.size; simp at z_w1; have y_w1 : w.heap.size < w1.heap.size := (by omega); have x_w1 : w.heap.size + 1 < w1.heap.size := (by omega)) | (go_at_call 37; refine (HS.out _ (by repeat' (first | with_reducible exact Below.refl _ _ | with_reducible refine Below.setCell ?_ ?_ _ | with_reducible refine Below.alloc ?_ ?_ _ | with_reducible refine below_drewN ?_ _ | with_reducible refine Below.drew ?_ | with_reducible refine Below.trans ?_ (Below.mono (by assumption) ?_) | with_reducible exact Nat.le_refl _ | with_reducible refine Nat.le_trans ?_ (Below.size (by assumption)) | with_reducible refine Nat.le_trans ?_ (size_alloc _ _) | with_reducible refine Nat.le_trans ?_ (size_set _ _ _) | with_reducible refine Nat.le_trans ?_ (size_drewN _ _) | with_reducible refine Nat.le_trans ?_ (size_drew _) | (simp; done) | (simp; omega) | omega))).mono ?_; rintro e w2 ⟨rfl, hb_w2⟩; obtain ⟨c_w2, f_w2⟩ := bcell hb_w2; have z_w2 := hb_w2.size; (try simp at z_w2); have y_w2 : w.heap.size < w2.heap.size := (by omega); have x_w2 : w.heap.size + 1 < w2.heap.size := (by omega)) | (go_at_call 47; refine (HR.out _ (by repeat' (first | with_reducible exact Below.refl _ _ | with_reducible refine Below.setCell ?_ ?_ _ | with_reducible refine Below.alloc ?_ ?_ _ | with_reducible refine below_drewN ?_ _ | with_reducible refine Below.drew ?_ | with_reducible refine Below.trans ?_ (Below.mono (by assumption) ?_) | with_reducible exact Nat.le_refl _ | with_reducible refine Nat.le_trans ?_ (Below.size (by assumption)) | with_reducible refine Nat.le_trans ?_ (size_alloc _ _) | with_reducible refine Nat.le_trans ?_ (size_set _ _ _) | with_reducible refine Nat.le_trans ?_ (size_drewN _ _) | with_reducible refine Nat.le_trans ?_ (size_drew _) | (simp; done) | (simp; omega) | omega))).mono ?_; rintro e w3 ⟨rfl, hb_w3⟩; obtain ⟨c_w3, f_w3⟩ := bcell hb_w3; have z_w3 := hb_w3.size; (try simp at z_w3); have y_w3 : w.heap.size < w3.heap.size := (by omega); have x_w3 : w.heap.size + 1 < w3.heap.size := (by omega)))
        refine bodyPost_ret (v := .tuple #[.agg #[.string X, .int .i64 rk, .int .i64 rn, .string ⟨rs.toArray⟩, .bool rb, .int .i64 rc], .int .i64 0]) (by simp [results, Tryz.results34, go_sem, *]) rfl ⟨by rw [HXe.out], ?_⟩
        repeat' (first | with_reducible exact Below.refl _ _ | with_reducible refine Below.setCell ?_ ?_ _ | with_reducible refine Below.alloc ?_ ?_ _ | with_reducible refine below_drewN ?_ _ | with_reducible refine Below.drew ?_ | with_reducible refine Below.trans ?_ (Below.mono (by assumption) ?_) | with_reducible exact Nat.le_refl _ | with_reducible refine Nat.le_trans ?_ (Below.size (by assumption)) | with_reducible refine Nat.le_trans ?_ (size_alloc _ _) | with_reducible refine Nat.le_trans ?_ (size_set _ _ _) | with_reducible refine Nat.le_trans ?_ (size_drewN _ _) | with_reducible refine Nat.le_trans ?_ (size_drew _) | (simp; done) | (simp; omega) | omega)
      · rw [if_neg hA] at HX
        have HX2 : X = T := HX.out
        have t1 : (T.toList == []) = false := by rw [hq]; simpa using hA
        have t2 : ¬ T.data = #[] := by simpa using hA
        clear hq hA HX
        subst HX2
        go_enter Tryz.func34, Tryz.ntmps34
        go_wp2_with (first | (go_at_call 24; refine (HV.out _).mono ?_; rintro e w1 ⟨rfl, hb_w1⟩; obtain ⟨c_w1, f_w1⟩ := bcell hb_w1; have z_w1 := hb_w1.size; simp at z_w1; have y_w1 : w.heap.size < w1.heap.size := (by omega); have x_w1 : w.heap.size + 1 < w1.heap.size := (by omega)) | (go_at_call 37; refine (HS.out _ (by repeat' (first | with_reducible exact Below.refl _ _ | with_reducible refine Below.setCell ?_ ?_ _ | with_reducible refine Below.alloc ?_ ?_ _ | with_reducible refine below_drewN ?_ _ | with_reducible refine Below.drew ?_ | with_reducible refine Below.trans ?_ (Below.mono (by assumption) ?_) | with_reducible exact Nat.le_refl _ | with_reducible refine Nat.le_trans ?_ (Below.size (by assumption)) | with_reducible refine Nat.le_trans ?_ (size_alloc _ _) | with_reducible refine Nat.le_trans ?_ (size_set _ _ _) | with_reducible refine Nat.le_trans ?_ (size_drewN _ _) | with_reducible refine Nat.le_trans ?_ (size_drew _) | (simp; done) | (simp; omega) | omega))).mono ?_; rintro e w2 ⟨rfl, hb_w2⟩; obtain ⟨c_w2, f_w2⟩ := bcell hb_w2; have z_w2 := hb_w2.size; (try simp at z_w2); have y_w2 : w.heap.size < w2.heap.size := (by omega); have x_w2 : w.heap.size + 1 < w2.heap.size := (by omega)) | (go_at_call 47; refine (HR.out _ (by repeat' (first | with_reducible exact Below.refl _ _ | with_reducible refine Below.setCell ?_ ?_ _ | with_reducible refine Below.alloc ?_ ?_ _ | with_reducible refine below_drewN ?_ _ | with_reducible refine Below.drew ?_ | with_reducible refine Below.trans ?_ (Below.mono (by assumption) ?_) | with_reducible exact Nat.le_refl _ | with_reducible refine Nat.le_trans ?_ (Below.size (by assumption)) | with_reducible refine Nat.le_trans ?_ (size_alloc _ _) | with_reducible refine Nat.le_trans ?_ (size_set _ _ _) | with_reducible refine Nat.le_trans ?_ (size_drewN _ _) | with_reducible refine Nat.le_trans ?_ (size_drew _) | (simp; done) | (simp; omega) | omega))).mono ?_; rintro e w3 ⟨rfl, hb_w3⟩; obtain ⟨c_w3, f_w3⟩ := bcell hb_w3; have z_w3 := hb_w3.size; (try simp at z_w3); have y_w3 : w.heap.size < w3.heap.size := (by omega); have x_w3 : w.heap.size + 1 < w3.heap.size := (by omega)))
        refine bodyPost_ret (v := .tuple #[.agg #[.string X, .int .i64 rk, .int .i64 rn, .string ⟨rs.toArray⟩, .bool rb, .int .i64 rc], .int .i64 0]) (by simp [results, Tryz.results34, go_sem, *]) rfl ⟨by rw [HXe.out], ?_⟩
        repeat' (first | with_reducible exact Below.refl _ _ | with_reducible refine Below.setCell ?_ ?_ _ | with_reducible refine Below.alloc ?_ ?_ _ | with_reducible refine below_drewN ?_ _ | with_reducible refine Below.drew ?_ | with_reducible refine Below.trans ?_ (Below.mono (by assumption) ?_) | with_reducible exact Nat.le_refl _ | with_reducible refine Nat.le_trans ?_ (Below.size (by assumption)) | with_reducible refine Nat.le_trans ?_ (size_alloc _ _) | with_reducible refine Nat.le_trans ?_ (size_set _ _ _) | with_reducible refine Nat.le_trans ?_ (size_drewN _ _) | with_reducible refine Nat.le_trans ?_ (size_drew _) | (simp; done) | (simp; omega) | omega)
    · rw [if_neg hr]
      have t1 : (re == 0) = false := by simp [hr]
      have t2 : (re != 0) = true := by simp [hr]
      clear hr
      go_enter Tryz.func34, Tryz.ntmps34
      go_wp2_with (first | (go_at_call 24; refine (HV.out _).mono ?_; rintro e w1 ⟨rfl, hb_w1⟩; obtain ⟨c_w1, f_w1⟩ := bcell hb_w1; have z_w1 := hb_w1.size; simp at z_w1; have y_w1 : w.heap.size < w1.heap.size := (by omega); have x_w1 : w.heap.size + 1 < w1.heap.size := (by omega)) | (go_at_call 37; refine (HS.out _ (by repeat' (first | with_reducible exact Below.refl _ _ | with_reducible refine Below.setCell ?_ ?_ _ | with_reducible refine Below.alloc ?_ ?_ _ | with_reducible refine below_drewN ?_ _ | with_reducible refine Below.drew ?_ | with_reducible refine Below.trans ?_ (Below.mono (by assumption) ?_) | with_reducible exact Nat.le_refl _ | with_reducible refine Nat.le_trans ?_ (Below.size (by assumption)) | with_reducible refine Nat.le_trans ?_ (size_alloc _ _) | with_reducible refine Nat.le_trans ?_ (size_set _ _ _) | with_reducible refine Nat.le_trans ?_ (size_drewN _ _) | with_reducible refine Nat.le_trans ?_ (size_drew _) | (simp; done) | (simp; omega) | omega))).mono ?_; rintro e w2 ⟨rfl, hb_w2⟩; obtain ⟨c_w2, f_w2⟩ := bcell hb_w2; have z_w2 := hb_w2.size; (try simp at z_w2); have y_w2 : w.heap.size < w2.heap.size := (by omega); have x_w2 : w.heap.size + 1 < w2.heap.size := (by omega)) | (go_at_call 47; refine (HR.out _ (by repeat' (first | with_reducible exact Below.refl _ _ | with_reducible refine Below.setCell ?_ ?_ _ | with_reducible refine Below.alloc ?_ ?_ _ | with_reducible refine below_drewN ?_ _ | with_reducible refine Below.drew ?_ | with_reducible refine Below.trans ?_ (Below.mono (by assumption) ?_) | with_reducible exact Nat.le_refl _ | with_reducible refine Nat.le_trans ?_ (Below.size (by assumption)) | with_reducible refine Nat.le_trans ?_ (size_alloc _ _) | with_reducible refine Nat.le_trans ?_ (size_set _ _ _) | with_reducible refine Nat.le_trans ?_ (size_drewN _ _) | with_reducible refine Nat.le_trans ?_ (size_drew _) | (simp; done) | (simp; omega) | omega))).mono ?_; rintro e w3 ⟨rfl, hb_w3⟩; obtain ⟨c_w3, f_w3⟩ := bcell hb_w3; have z_w3 := hb_w3.size; (try simp at z_w3); have y_w3 : w.heap.size < w3.heap.size := (by omega); have x_w3 : w.heap.size + 1 < w3.heap.size := (by omega)))
      refine bodyPost_ret (v := .tuple #[.agg #[.string ⟨#[]⟩, .int .i64 0, .int .i64 0, .string ⟨#[]⟩, .bool false, .int .i64 0], .int .i64 2]) (by simp [results, Tryz.results34, go_sem, *]) rfl ⟨rfl, ?_⟩
      repeat' (first | with_reducible exact Below.refl _ _ | with_reducible refine Below.setCell ?_ ?_ _ | with_reducible refine Below.alloc ?_ ?_ _ | with_reducible refine below_drewN ?_ _ | with_reducible refine Below.drew ?_ | with_reducible refine Below.trans ?_ (Below.mono (by assumption) ?_) | with_reducible exact Nat.le_refl _ | with_reducible refine Nat.le_trans ?_ (Below.size (by assumption)) | with_reducible refine Nat.le_trans ?_ (size_alloc _ _) | with_reducible refine Nat.le_trans ?_ (size_set _ _ _) | with_reducible refine Nat.le_trans ?_ (size_drewN _ _) | with_reducible refine Nat.le_trans ?_ (size_drew _) | (simp; done) | (simp; omega) | omega)
  · rw [if_neg hk]
    have t1 : (k == 2) = false := by simp [hk]
    have t2 : (k != 2) = true := by simp [hk]

    clear er hz h1 h2 h3 hk
    go_enter Tryz.func34, Tryz.ntmps34
    go_wp2_with (first | (go_at_call 24; refine (HV.out _).mono ?_; rintro e w1 ⟨rfl, hb_w1⟩; obtain ⟨c_w1, f_w1⟩ := bcell hb_w1; have z_w1 := hb_w1.size; simp at z_w1; have y_w1 : w.heap.size < w1.heap.size := (by omega); have x_w1 : w.heap.size + 1 < w1.heap.size := (by omega)))
    refine bodyPost_ret (v := .tuple #[.agg #[.string ⟨#[61]⟩, .int .i64 k, .int .i64 n, .string s, .bool b, .int .i64 c], .int .i64 0]) (by simp [results, Tryz.results34, go_sem, *]) rfl ⟨by rw [ba_eta], ?_⟩
    repeat' (first | with_reducible exact Below.refl _ _ | with_reducible refine Below.setCell ?_ ?_ _ | with_reducible refine Below.alloc ?_ ?_ _ | with_reducible refine below_drewN ?_ _ | with_reducible refine Below.drew ?_ | with_reducible refine Below.trans ?_ (Below.mono (by assumption) ?_) | with_reducible exact Nat.le_refl _ | with_reducible refine Nat.le_trans ?_ (Below.size (by assumption)) | with_reducible refine Nat.le_trans ?_ (size_alloc _ _) | with_reducible refine Nat.le_trans ?_ (size_set _ _ _) | with_reducible refine Nat.le_trans ?_ (size_drewN _ _) | with_reducible refine Nat.le_trans ?_ (size_drew _) | (simp; done) | (simp; omega) | omega)
end Go.Proofs.YtpghgjibpbimeaaGreatDoor
