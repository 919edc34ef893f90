/-
  The answer's Of.
-/
import Derived.Test.YtpghgjibpbimeaaDoorRf6
namespace Go.Proofs.YtpghgjibpbimeaaDoor
open Go.RowKit
set_option linter.unusedSimpArgs false

theorem take_ext (s : ByteArray) (k : Nat) : (s.extract 0 k).data.toList = s.data.toList.take k := by simp
/-- How the count grows by the rounds. -/
def cntK13 (l : List UInt8) (k : Nat) : Nat := if k = 1 then 0 else if k = 2 then cnt1 l else cnt2 l
set_option maxRecDepth 100000 in
set_option maxHeartbeats 4000000 in
theorem rOf_any (k n : Int) (s : ByteArray) (b : Bool) (c : Int) (w : World) (hz : s.size ≤ maxLen) :
    Calls Tryd.prog 9 #[.agg #[.int .i64 k, .int .i64 n, .string s, .bool b, .int .i64 c]] w fun e w' => e = .returned (.tuple #[critV (ofR k n s b c).1 (ofR k n s b c).2.1, .int .i64 (ofR k n s b c).2.2]) ∧ Below w.heap.size w w' := by
  have HV : Hid (∀ W : World, Calls Tryd.prog 22 #[.agg #[.int .i64 k, .int .i64 n, .string s, .bool b, .int .i64 c]] W fun e w' => e = .returned (.bool (rightB k n s b c)) ∧ Below W.heap.size W w') := fun W => rright_any k n s b c W hz
  unfold ofR critV
  cases er : rightB k n s b c
  · rw [er] at HV
    simp only [Bool.false_eq_true, if_false]
    clear er hz
    go_enter Tryd.func9, Tryd.ntmps9
    go_wp2_with (first | (go_at_call 22; refine (HV.out _).mono ?_; rintro e w1 ⟨rfl, hb_w1⟩; obtain ⟨c_w1, f_w1⟩ := bcell hb_w1; have z_w1 := hb_w1.size; (try simp at z_w1); have y_w1 : w.heap.size < w1.heap.size := (by omega); have x_w1 : w.heap.size + 1 < w1.heap.size := (by omega)))
    refine bodyPost_ret (v := .tuple #[.agg #[.string ⟨#[]⟩, .int .i64 0, .int .i64 0, .string ⟨#[]⟩, .bool false, .int .i64 0], .int .i64 2]) (by simp [results, Tryd.results9, go_sem, *]) rfl ⟨rfl, ?_⟩
    repeat' (first | with_reducible exact Below.refl _ _ | with_reducible refine Below.setCell ?_ ?_ _ | with_reducible refine Below.alloc ?_ ?_ _ | with_reducible refine below_drewN ?_ _ | with_reducible refine Below.drew ?_ | with_reducible refine Below.trans ?_ (Below.mono (by assumption) ?_) | with_reducible exact Nat.le_refl _ | with_reducible refine Nat.le_trans ?_ (Below.size (by assumption)) | with_reducible refine Nat.le_trans ?_ (size_alloc _ _) | with_reducible refine Nat.le_trans ?_ (size_set _ _ _) | with_reducible refine Nat.le_trans ?_ (size_drewN _ _) | with_reducible refine Nat.le_trans ?_ (size_drew _) | (simp; done) | (simp; omega) | omega)
  rw [er] at HV
  simp only [if_true]
  by_cases hk : k = 2
  · subst hk
    have z1 := right_size er
    have hls : s.data.toList.length = s.size := Array.length_toList
    obtain ⟨q1, q2, q3⟩ := ahead_cnt s.data.toList
    rw [hls] at q2
    rw [if_pos rfl]
    have hlen : (aheadR s.data.toList).length = cnt2 s.data.toList := by rw [q1, List.length_take, hls]; omega
    have HG : Hid (∀ (g : ByteArray) (W : World), Calls Tryd.prog 23 #[.string g] W fun e w' => e = .returned (.bool (csignB g.data.toList)) ∧ Below W.heap.size W w') := fun g W => rsign_any g W
    have HR : Hid (∀ W : World, Calls Tryd.prog 24 #[.string (s.extract (cnt2 s.data.toList) s.size)] W fun e w' => e = .returned (.tuple #[.agg #[.int .i64 (restR s.data.toList).1.k, .int .i64 (restR s.data.toList).1.n, .string ⟨(restR s.data.toList).1.s.toArray⟩, .bool (restR s.data.toList).1.b, .int .i64 (restR s.data.toList).1.c], .int .i64 (restR s.data.toList).2]) ∧ Below W.heap.size W w') := fun W => by
      have := rreadV_any (s.extract (cnt2 s.data.toList) s.size) W (by rw [ByteArray.size_extract]; omega)
      rw [show (s.extract (cnt2 s.data.toList) s.size).data.toList = s.data.toList.drop (aheadR s.data.toList).length by rw [hlen]; simp; rw [List.take_of_length_le (by simp)]] at this
      exact this
    have HX : Hid ((⟨(signR' s.data.toList).toArray⟩ : ByteArray) = if cnt2 s.data.toList = 0 then ⟨#[61]⟩ else s.extract 0 (cnt2 s.data.toList)) := by
      show _ = _
      unfold signR'
      by_cases h : cnt2 s.data.toList = 0
      · rw [if_pos h, if_pos (by rw [q1, h]; rfl)]
      · rw [if_neg h, if_neg (by intro e; rw [e] at hlen; exact h hlen.symm), q1, ← take_ext, ba_eta]
    obtain ⟨X, hX⟩ : ∃ X, (⟨(signR' s.data.toList).toArray⟩ : ByteArray) = X := ⟨_, rfl⟩
    rw [hX] at HX
    have HXe := hide hX
    generalize restR s.data.toList = R at *
    obtain ⟨⟨rk, rn, rs, rb, rc⟩, re⟩ := R
    simp only at HR ⊢
    have HC1 : Hid (cnt1 s.data.toList = if 1 ≤ s.size ∧ csignB (s.extract 0 1).data.toList = true then 1 else 0) := by show _ = _; rw [take_ext, ← hls]; rfl
    have HC2 : Hid (cnt2 s.data.toList = if 2 ≤ s.size ∧ csignB (s.extract 0 2).data.toList = true then 2 else cnt1 s.data.toList) := by show _ = _; rw [take_ext, ← hls]; rfl
    generalize cnt2 s.data.toList = N at *
    generalize cnt1 s.data.toList = M at *
    clear hX q1 hlen er hls hz
    go_enter Tryd.func9, Tryd.ntmps9
    go_wp2_with (first | (go_at_call 22; refine (HV.out _).mono ?_; rintro e w1 ⟨rfl, hb_w1⟩; obtain ⟨c_w1, f_w1⟩ := bcell hb_w1; have z_w1 := hb_w1.size; (try simp at z_w1); have y_w1 : w.heap.size < w1.heap.size := (by omega); have x_w1 : w.heap.size + 1 < w1.heap.size := (by omega)))
    go_loopw [4, 5] (fun nv kv wr => ∃ (i m : Nat), 1 ≤ i ∧ i ≤ 3 ∧ kv = .int .i64 i ∧ nv = .int .i64 m ∧ (i = 1 → m = 0) ∧ (i = 2 → m = M) ∧ (i = 3 → m = N) ∧ Below w1.heap.size w1 wr) (fun _ kv _ => 4 - (intOf kv).toNat)
    case atStart => exact ⟨1, 0, by omega, by omega, rfl, rfl, fun _ => rfl, fun h => by omega, fun h => by omega, Below.refl _ _⟩
    case round =>
      obtain ⟨i, m, h1, h3, rfl, rfl, m1, m2, m3, hb_wr⟩ := hrel
      obtain ⟨c_wr, f_wr⟩ := bcell hb_wr
      have z_wr := hb_wr.size
      have y_wr : w.heap.size < wr.heap.size := by omega
      have x_wr : w.heap.size + 1 < wr.heap.size := by omega
      have hcase : i = 1 ∨ i = 2 ∨ i = 3 := by omega
      rcases hcase with rfl | rfl | rfl
      · obtain rfl := m1 rfl
        clear m1 m2 m3 HR HX HC2 q2 q3
        by_cases hs : 1 ≤ s.size
        · have g1 : (1 : Int) ≤ (s.size : Int) := by omega
          cases hg : csignB (s.extract 0 1).data.toList
          · have HM : Hid (M = 0) := by show _ = _; rw [HC1.out, hg]; simp
            have HG1 := hide (HG.out (s.extract 0 1))
            rw [hg] at HG1
            clear HC1 hg
            have HBr := hide hb_wr
            go_wp2_with (first | (go_at_call 23; refine (HG1.out _).mono ?_; rintro e w2 ⟨rfl, hb_w2⟩; have HB2 := hide hb_w2; clear hb_w2))
            go_roundw
            case rel => exact ⟨2, 0, by omega, by omega, by go_num, by first | rfl | go_num, fun h => by omega, fun _ => HM.out.symm, fun h => by omega, by first | exact HBr.out | exact upR HBr.out HB2.out⟩
            case measure => simp [intOf]
          · have HM : Hid (M = 1) := by show _ = _; rw [HC1.out, hg]; simp [hs]
            have HG1 := hide (HG.out (s.extract 0 1))
            rw [hg] at HG1
            clear HC1 hg
            have HBr := hide hb_wr
            go_wp2_with (first | (go_at_call 23; refine (HG1.out _).mono ?_; rintro e w2 ⟨rfl, hb_w2⟩; have HB2 := hide hb_w2; clear hb_w2))
            go_roundw
            case rel => exact ⟨2, 1, by omega, by omega, by go_num, by first | rfl | go_num, fun h => by omega, fun _ => HM.out.symm, fun h => by omega, by first | exact HBr.out | exact upR HBr.out HB2.out⟩
            case measure => simp [intOf]
        · have g1 : ¬ (1 : Int) ≤ (s.size : Int) := by omega
          have HM : Hid (M = 0) := by show _ = _; rw [HC1.out]; simp [hs]
          clear HC1
          have HBr := hide hb_wr
          go_wp2_with (first | (go_at_call 23; refine (HG1.out _).mono ?_; rintro e w2 ⟨rfl, hb_w2⟩; have HB2 := hide hb_w2; clear hb_w2))
          go_roundw
          case rel => exact ⟨2, 0, by omega, by omega, by go_num, by first | rfl | go_num, fun h => by omega, fun _ => HM.out.symm, fun h => by omega, by first | exact HBr.out | exact upR HBr.out HB2.out⟩
          case measure => simp [intOf]
      · obtain rfl := m2 rfl
        clear m1 m2 m3 HR HX HC1 q2 q3
        by_cases hs : 2 ≤ s.size
        · have g1 : (2 : Int) ≤ (s.size : Int) := by omega
          cases hg : csignB (s.extract 0 2).data.toList
          · have HM : Hid (N = m) := by show _ = _; rw [HC2.out, hg]; simp
            have HG1 := hide (HG.out (s.extract 0 2))
            rw [hg] at HG1
            clear HC2 hg
            have HBr := hide hb_wr
            go_wp2_with (first | (go_at_call 23; refine (HG1.out _).mono ?_; rintro e w2 ⟨rfl, hb_w2⟩; have HB2 := hide hb_w2; clear hb_w2))
            go_roundw
            case rel => exact ⟨3, m, by omega, by omega, by go_num, by first | rfl | go_num, fun h => by omega, fun h => by omega, fun _ => HM.out.symm, by first | exact HBr.out | exact upR HBr.out HB2.out⟩
            case measure => simp [intOf]
          · have HM : Hid (N = 2) := by show _ = _; rw [HC2.out, hg]; simp [hs]
            have HG1 := hide (HG.out (s.extract 0 2))
            rw [hg] at HG1
            clear HC2 hg
            have HBr := hide hb_wr
            go_wp2_with (first | (go_at_call 23; refine (HG1.out _).mono ?_; rintro e w2 ⟨rfl, hb_w2⟩; have HB2 := hide hb_w2; clear hb_w2))
            go_roundw
            case rel => exact ⟨3, 2, by omega, by omega, by go_num, by first | rfl | go_num, fun h => by omega, fun h => by omega, fun _ => HM.out.symm, by first | exact HBr.out | exact upR HBr.out HB2.out⟩
            case measure => simp [intOf]
        · have g1 : ¬ (2 : Int) ≤ (s.size : Int) := by omega
          have HM : Hid (N = m) := by show _ = _; rw [HC2.out]; simp [hs]
          clear HC2
          have HBr := hide hb_wr
          go_wp2_with (first | (go_at_call 23; refine (HG1.out _).mono ?_; rintro e w2 ⟨rfl, hb_w2⟩; have HB2 := hide hb_w2; clear hb_w2))
          go_roundw
          case rel => exact ⟨3, m, by omega, by omega, by go_num, by first | rfl | go_num, fun h => by omega, fun h => by omega, fun _ => HM.out.symm, by first | exact HBr.out | exact upR HBr.out HB2.out⟩
          case measure => simp [intOf]
      · obtain rfl := m3 rfl
        clear m1 m2 m3 HC1 HC2
        have i2 : (m : Int) ≤ (s.size : Int) := by omega
        have i1 : (0 : Int) ≤ (m : Int) := by omega
        by_cases hr : re = 0
        · subst hr
          by_cases hN : m = 0
          · have i3 : ¬ (0 : Int) < (m : Int) := by omega
            have HX2 : Hid (X = ⟨#[61]⟩) := by have := HX.out; rwa [if_pos hN] at this
            clear HX hN
            go_wp2_with (first | (go_at_call 24; refine (HR.out _).mono ?_; rintro e w3 ⟨rfl, hb_w3⟩; obtain ⟨c_w3, f_w3⟩ := bcell hb_w3; have z_w3 := hb_w3.size; (try simp at z_w3); have y_w3 : w.heap.size < w3.heap.size := (by omega); have x_w3 : w.heap.size + 1 < w3.heap.size := (by omega)))
            refine bodyPost_ret (v := .tuple #[.agg #[.string ⟨#[61]⟩, .int .i64 rk, .int .i64 rn, .string ⟨rs.toArray⟩, .bool rb, .int .i64 rc], .int .i64 0]) (by simp [results, Tryd.results9, go_sem, *]) rfl ⟨by rw [HXe.out, HX2.out], ?_⟩
            repeat' (first | with_reducible exact Below.refl _ _ | with_reducible refine Below.setCell ?_ ?_ _ | with_reducible refine Below.alloc ?_ ?_ _ | with_reducible refine below_drewN ?_ _ | with_reducible refine Below.drew ?_ | with_reducible refine Below.trans ?_ (Below.mono (by assumption) ?_) | with_reducible exact Nat.le_refl _ | with_reducible refine Nat.le_trans ?_ (Below.size (by assumption)) | with_reducible refine Nat.le_trans ?_ (size_alloc _ _) | with_reducible refine Nat.le_trans ?_ (size_set _ _ _) | with_reducible refine Nat.le_trans ?_ (size_drewN _ _) | with_reducible refine Nat.le_trans ?_ (size_drew _) | (simp; done) | (simp; omega) | omega)
          · have i3 : (0 : Int) < (m : Int) := by omega
            have HX2 : Hid (X = s.extract 0 m) := by have := HX.out; rwa [if_neg hN] at this
            clear HX hN
            go_wp2_with (first | (go_at_call 24; refine (HR.out _).mono ?_; rintro e w3 ⟨rfl, hb_w3⟩; obtain ⟨c_w3, f_w3⟩ := bcell hb_w3; have z_w3 := hb_w3.size; (try simp at z_w3); have y_w3 : w.heap.size < w3.heap.size := (by omega); have x_w3 : w.heap.size + 1 < w3.heap.size := (by omega)))
            refine bodyPost_ret (v := .tuple #[.agg #[.string (s.extract 0 m), .int .i64 rk, .int .i64 rn, .string ⟨rs.toArray⟩, .bool rb, .int .i64 rc], .int .i64 0]) (by simp [results, Tryd.results9, go_sem, *]) rfl ⟨by rw [HXe.out, HX2.out], ?_⟩
            repeat' (first | with_reducible exact Below.refl _ _ | with_reducible refine Below.setCell ?_ ?_ _ | with_reducible refine Below.alloc ?_ ?_ _ | with_reducible refine below_drewN ?_ _ | with_reducible refine Below.drew ?_ | with_reducible refine Below.trans ?_ (Below.mono (by assumption) ?_) | with_reducible exact Nat.le_refl _ | with_reducible refine Nat.le_trans ?_ (Below.size (by assumption)) | with_reducible refine Nat.le_trans ?_ (size_alloc _ _) | with_reducible refine Nat.le_trans ?_ (size_set _ _ _) | with_reducible refine Nat.le_trans ?_ (size_drewN _ _) | with_reducible refine Nat.le_trans ?_ (size_drew _) | (simp; done) | (simp; omega) | omega)
        · have HNr := hide hr
          have t1 : (re == 0) = false := by simp [hr]
          have t2 : (re != 0) = true := by simp [hr]
          clear hr HX
          by_cases hN : m = 0
          · have i3 : ¬ (0 : Int) < (m : Int) := by omega
            clear hN
            go_wp2_with (first | (go_at_call 24; refine (HR.out _).mono ?_; rintro e w3 ⟨rfl, hb_w3⟩; obtain ⟨c_w3, f_w3⟩ := bcell hb_w3; have z_w3 := hb_w3.size; (try simp at z_w3); have y_w3 : w.heap.size < w3.heap.size := (by omega); have x_w3 : w.heap.size + 1 < w3.heap.size := (by omega)))
            refine bodyPost_ret (v := .tuple #[.agg #[.string ⟨#[]⟩, .int .i64 0, .int .i64 0, .string ⟨#[]⟩, .bool false, .int .i64 0], .int .i64 2]) (by simp [results, Tryd.results9, go_sem, *]) rfl ⟨rfl, ?_⟩
            repeat' (first | with_reducible exact Below.refl _ _ | with_reducible refine Below.setCell ?_ ?_ _ | with_reducible refine Below.alloc ?_ ?_ _ | with_reducible refine below_drewN ?_ _ | with_reducible refine Below.drew ?_ | with_reducible refine Below.trans ?_ (Below.mono (by assumption) ?_) | with_reducible exact Nat.le_refl _ | with_reducible refine Nat.le_trans ?_ (Below.size (by assumption)) | with_reducible refine Nat.le_trans ?_ (size_alloc _ _) | with_reducible refine Nat.le_trans ?_ (size_set _ _ _) | with_reducible refine Nat.le_trans ?_ (size_drewN _ _) | with_reducible refine Nat.le_trans ?_ (size_drew _) | (simp; done) | (simp; omega) | omega)
          · have i3 : (0 : Int) < (m : Int) := by omega
            go_wp2_with (first | (go_at_call 24; refine (HR.out _).mono ?_; rintro e w3 ⟨rfl, hb_w3⟩; obtain ⟨c_w3, f_w3⟩ := bcell hb_w3; have z_w3 := hb_w3.size; (try simp at z_w3); have y_w3 : w.heap.size < w3.heap.size := (by omega); have x_w3 : w.heap.size + 1 < w3.heap.size := (by omega)))
            refine bodyPost_ret (v := .tuple #[.agg #[.string ⟨#[]⟩, .int .i64 0, .int .i64 0, .string ⟨#[]⟩, .bool false, .int .i64 0], .int .i64 2]) (by simp [results, Tryd.results9, go_sem, *]) rfl ⟨rfl, ?_⟩
            repeat' (first | with_reducible exact Below.refl _ _ | with_reducible refine Below.setCell ?_ ?_ _ | with_reducible refine Below.alloc ?_ ?_ _ | with_reducible refine below_drewN ?_ _ | with_reducible refine Below.drew ?_ | with_reducible refine Below.trans ?_ (Below.mono (by assumption) ?_) | with_reducible exact Nat.le_refl _ | with_reducible refine Nat.le_trans ?_ (Below.size (by assumption)) | with_reducible refine Nat.le_trans ?_ (size_alloc _ _) | with_reducible refine Nat.le_trans ?_ (size_set _ _ _) | with_reducible refine Nat.le_trans ?_ (size_drewN _ _) | with_reducible refine Nat.le_trans ?_ (size_drew _) | (simp; done) | (simp; omega) | omega)
  · rw [if_neg hk]
    have t1 : (k == 2) = false := by simp [hk]
    have t2 : (k != 2) = true := by simp [hk]
    clear er hz hk
    go_enter Tryd.func9, Tryd.ntmps9
    go_wp2_with (first | (go_at_call 22; refine (HV.out _).mono ?_; rintro e w1 ⟨rfl, hb_w1⟩; obtain ⟨c_w1, f_w1⟩ := bcell hb_w1; have z_w1 := hb_w1.size; (try simp at z_w1); have y_w1 : w.heap.size < w1.heap.size := (by omega); have x_w1 : w.heap.size + 1 < w1.heap.size := (by omega)))
    refine bodyPost_ret (v := .tuple #[.agg #[.string ⟨#[61]⟩, .int .i64 k, .int .i64 n, .string s, .bool b, .int .i64 c], .int .i64 0]) (by simp [results, Tryd.results9, go_sem, *]) rfl ⟨by rw [ba_eta], ?_⟩
    repeat' (first | with_reducible exact Below.refl _ _ | with_reducible refine Below.setCell ?_ ?_ _ | with_reducible refine Below.alloc ?_ ?_ _ | with_reducible refine below_drewN ?_ _ | with_reducible refine Below.drew ?_ | with_reducible refine Below.trans ?_ (Below.mono (by assumption) ?_) | with_reducible exact Nat.le_refl _ | with_reducible refine Nat.le_trans ?_ (Below.size (by assumption)) | with_reducible refine Nat.le_trans ?_ (size_alloc _ _) | with_reducible refine Nat.le_trans ?_ (size_set _ _ _) | with_reducible refine Nat.le_trans ?_ (size_drewN _ _) | with_reducible refine Nat.le_trans ?_ (size_drew _) | (simp; done) | (simp; omega) | omega)
end Go.Proofs.YtpghgjibpbimeaaDoor
