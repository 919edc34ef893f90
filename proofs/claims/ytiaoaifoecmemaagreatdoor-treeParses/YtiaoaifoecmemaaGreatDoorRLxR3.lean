/-
  The answer's fault and sign.
-/
import Derived.Test.YtiaoaifoecmemaaGreatDoorRLxR1
import Derived.Test.YtiaoaifoecmemaaGreatDoorRLxM1
set_option maxRecDepth 100000
set_option maxHeartbeats 4000000
namespace Go.Proofs.YtiaoaifoecmemaaGreatDoor
open Go.RowKit
theorem short_of {L : List (List UInt8)} (h : (L.all fun x => decide (x.length ≤ 10)) = true) (k : Nat) : (L.getD k []).length ≤ 10 := by
 rw [List.getD_eq_getElem?_getD]
 cases e : L[k]? with
 | none => simp
 | some x => simpa using List.all_eq_true.1 h x (List.mem_of_getElem? e)
theorem name_short (k : Nat) : (nameL k).length ≤ 10 := short_of (L := names) (by decide) k
theorem sign_short (k : Nat) : (rsignL k).length ≤ 10 := short_of (L := rsigns) (by decide) k
theorem strs_cell (W : World) (L : List (List UInt8)) (t : TypeId) (j : Nat) (h : j < L.length) : (W.alloc (.cells (L.map fun l => Value.string ⟨l.toArray⟩).toArray t)).cell? ⟨W.heap.size, j, none⟩ = some (.string ⟨(L.getD j []).toArray⟩) := by
 have := heap_alloc_new W (.cells (L.map fun l => Value.string ⟨l.toArray⟩).toArray t)
 simp only [World.cell?, this]
 simp [h]
theorem rfault_any (s : ByteArray) (a : Nat) (w : World) (hs : s.size ≤ 1024) (ha : a ≤ s.size) :
    Calls Tryz.prog 72 #[.string s, .int .i64 (a : Int)] w fun e w' => e = .returned (.tuple #[tokV (atX a (faultT (s.data.toList.drop a))).1, .int .i64 (atX a (faultT (s.data.toList.drop a))).2.1, .int .i64 (atX a (faultT (s.data.toList.drop a))).2.2]) ∧ Below w.heap.size w w' := by
  have HL : Hid (s.data.toList.length = s.size) := by show _ = _; simp
  have hT : faultT (s.data.toList.drop a) = faultOfT (pick nameL (s.data.toList.drop a) 1 (8 - 1)) := rfl
  rw [hT]
  clear hT
  go_enter Tryz.func72, Tryz.ntmps72
  go_wp2_with (go_at_call 88; refine (names_any _).mono ?_; rintro e wn ⟨rfl, hwn⟩; subst wn)
  have HC : Hid (∀ j, j < 8 → ((w.alloc (.cells #[.int .i64 0, .int .i64 0, .int .i64 0, .string ⟨#[]⟩, .bool false, .int .i64 0, .int .i64 0, .int .i64 0, .bool false, .bool false, .string ⟨#[]⟩, .int .i64 0] 66)).alloc (.cells (names.map fun l => Value.string ⟨l.toArray⟩).toArray 9)).cell? ⟨w.heap.size + 1, j, none⟩ = some (.string ⟨(nameL j).toArray⟩)) := fun j hj => by have := strs_cell (w.alloc (.cells #[.int .i64 0, .int .i64 0, .int .i64 0, .string ⟨#[]⟩, .bool false, .int .i64 0, .int .i64 0, .int .i64 0, .bool false, .bool false, .string ⟨#[]⟩, .int .i64 0] 66)) names 9 j hj; rw [World.size_alloc] at this; exact this
  go_loopw [8] (fun iv wr => ∃ k : Nat, 1 ≤ k ∧ k ≤ 8 ∧ iv = .int .i64 k ∧ pick nameL (s.data.toList.drop a) 1 (8 - 1) = pick nameL (s.data.toList.drop a) k (8 - k) ∧ Below (w.heap.size + 2) ((w.alloc (.cells #[.int .i64 0, .int .i64 0, .int .i64 0, .string ⟨#[]⟩, .bool false, .int .i64 0, .int .i64 0, .int .i64 0, .bool false, .bool false, .string ⟨#[]⟩, .int .i64 0] 66)).alloc (.cells (names.map fun l => Value.string ⟨l.toArray⟩).toArray 9)) wr) (fun iv _ => 8 - (intOf iv).toNat)
  case atStart => exact ⟨1, by omega, by omega, rfl, rfl, Below.refl _ _⟩
  case round =>
    obtain ⟨k, hk1, hk2, rfl, hp, hB⟩ := hrel
    have HK := hide hp
    clear hp
    have z_r : w.heap.size + 1 < wr.heap.size := by have := hB.size; simp at this; omega
    have z_r0 : w.heap.size < wr.heap.size := by omega
    have hBw : Below w.heap.size w wr := (((Below.refl _ _).alloc (Nat.le_refl _) _).alloc (by simp) _).trans (hB.mono (by omega))
    have HCr : Hid (∀ j, j < 8 → wr.cell? ⟨w.heap.size + 1, j, none⟩ = some (.string ⟨(nameL j).toArray⟩)) := fun j hj => by rw [hB.cell (p := ⟨w.heap.size + 1, j, none⟩) (by simp)]; exact HC.out j hj
    have B12 : Below (w.heap.size + 1) (w.alloc (.cells #[.int .i64 0, .int .i64 0, .int .i64 0, .string ⟨#[]⟩, .bool false, .int .i64 0, .int .i64 0, .int .i64 0, .bool false, .bool false, .string ⟨#[]⟩, .int .i64 0] 66)) wr := ((Below.refl _ _).alloc (by simp) _).trans (hB.mono (by omega))
    obtain ⟨c_r, f_r⟩ := bcelln B12
    by_cases hN : k = 8
    · have HF : Hid (pick nameL (s.data.toList.drop a) 1 (8 - 1) = none) := by show _ = _; rw [HK.out, hN]; simp [pick]
      have g8 : ¬ (k : Int) < 8 := by omega
      clear HC HCr
      go_wp2
      rw [HF.out]
      refine bodyPost_ret (v := .tuple #[.agg #[.int .i64 0, .int .i64 0, .int .i64 0, .string ⟨#[]⟩, .bool false, .int .i64 0, .int .i64 0, .int .i64 0, .bool false, .bool false, .string ⟨#[]⟩, .int .i64 0], .int .i64 0, .int .i64 5]) (by simp [results, Tryz.results72, go_sem, *]) rfl ⟨rfl, ?_⟩
      repeat' (first | with_reducible (first | exact Below.refl _ _ | refine Below.setCell ?_ ?_ _ | refine Below.alloc ?_ ?_ _ | refine below_drewN ?_ _ | refine Below.drew ?_ | refine Below.trans ?_ (Below.mono (by assumption) ?_) | exact Nat.le_refl _ | refine Nat.le_trans ?_ (Below.size (by assumption)) | refine zzA ?_ | refine zzB ?_ | refine zzC ?_ | refine zzD ?_) | (simp; done) | (simp; omega) | omega)
    · have g8 : (k : Int) < 8 := by omega
      have g0 : (0 : Int) ≤ (k : Int) := by omega
      have hk3 : k < 8 := by omega
      have hc := HCr.out k hk3
      have HT : Hid ((⟨(nameL k).toArray⟩ : ByteArray).data.toList = nameL k) := rfl
      have HZ : Hid ((⟨(nameL k).toArray⟩ : ByteArray).size = (nameL k).length) := by show (nameL k).toArray.size = _; simp
      generalize hTT : (⟨(nameL k).toArray⟩ : ByteArray) = T at hc HT HZ
      have HTT := hide hTT
      have HQ : Hid (∃ q, 8 - k = q + 1) := ⟨8 - 1 - k, by omega⟩
      have hps : ∀ b : Bool, Lib.hasPrefix (s.data.toList.drop a) (nameL k) = b → (b = true ↔ (nameL k) <+: s.data.toList.drop a) := fun b hb => by
        rw [← hb]; unfold Lib.hasPrefix; exact List.isPrefixOf_iff_prefix
      have hTs : T.size ≤ 10 := by rw [HZ.out]; exact name_short k
      clear HC HCr hTT
      by_cases hlen : a + T.size ≤ s.size
      · have g5 : (T.size : Int) ≤ (s.size : Int) - (a : Int) := by omega
        have hx : (s.extract a (a + T.size)).data.toList = (s.data.toList.drop a).take T.size := ext_mid s a T.size
        cases hpf : Lib.hasPrefix (s.data.toList.drop a) (nameL k)
        · have t1 : ((s.extract a (a + T.size)).toList == T.toList) = false := by
            rw [ByteArray.toList_eq, ByteArray.toList_eq, hx, HT.out, beq_eq_false_iff_ne]
            intro e
            have h3 := (hps false hpf).2 (by rw [← e]; exact List.take_prefix _ _)
            cases h3
          have HM : Hid (pick nameL (s.data.toList.drop a) 1 (8 - 1) = pick nameL (s.data.toList.drop a) (k + 1) (8 - (k + 1))) := by
            obtain ⟨q, hq⟩ := HQ.out
            show _ = _; rw [HK.out, hq, pick_miss hpf, show q = 8 - (k + 1) by omega]
          clear hpf hps hx
          go_wp2
          go_quiet (fail)
          go_wp2
          go_roundw
          case rel => exact ⟨k + 1, by omega, by omega, by go_num, HM.out, hB.trans (by repeat' (first | with_reducible (first | exact Below.refl _ _ | refine Below.setCell ?_ ?_ _ | refine Below.alloc ?_ ?_ _ | refine below_drewN ?_ _ | refine Below.drew ?_ | refine Below.trans ?_ (Below.mono (by assumption) ?_) | exact Nat.le_refl _ | refine Nat.le_trans ?_ (Below.size (by assumption)) | refine zzA ?_ | refine zzB ?_ | refine zzC ?_ | refine zzD ?_) | (simp; done) | (simp; omega) | omega))⟩
          case measure => simp [intOf]; omega
        · have t1 : ((s.extract a (a + T.size)).toList == T.toList) = true := by
            rw [ByteArray.toList_eq, ByteArray.toList_eq, hx, HT.out, beq_iff_eq, HZ.out]
            exact (List.prefix_iff_eq_take.1 ((hps true hpf).1 rfl)).symm
          have HM : Hid (pick nameL (s.data.toList.drop a) 1 (8 - 1) = some k) := by
            obtain ⟨q, hq⟩ := HQ.out
            show _ = _; rw [HK.out, hq, pick_hit hpf]
          clear hpf hps hx
          go_wp2
          go_quiet (fail)
          go_wp2
          have c_n : ∀ b o, b < w.heap.size + 1 → (wr.drewN nq).cell? ⟨b, o, none⟩ = (w.alloc (.cells #[.int .i64 0, .int .i64 0, .int .i64 0, .string ⟨#[]⟩, .bool false, .int .i64 0, .int .i64 0, .int .i64 0, .bool false, .bool false, .string ⟨#[]⟩, .int .i64 0] 66)).cell? ⟨b, o, none⟩ := c_r
          go_region
          go_wp2
          rw [HM.out]
          refine bodyPost_ret (v := .tuple #[.agg #[.int .i64 1, .int .i64 4, .int .i64 0, .string ⟨#[]⟩, .bool false, .int .i64 (k : Int), .int .i64 0, .int .i64 0, .bool false, .bool false, .string ⟨#[]⟩, .int .i64 (a : Int)], .int .i64 ((a : Int) + (T.size : Int)), .int .i64 0]) (by simp [results, Tryz.results72, go_sem, *]) rfl ⟨by rw [HZ.out]; show _ = Ending.returned (.tuple #[tokV (atX a ((valTok 4 0 [] false k, (nameL k).length, 0))).1, .int .i64 (atX a ((valTok 4 0 [] false k, (nameL k).length, 0))).2.1, .int .i64 (atX a ((valTok 4 0 [] false k, (nameL k).length, 0))).2.2]); rw [atX_yes a _ (by simp [valTok])]; rfl, ?_⟩
          repeat' (first | with_reducible (first | exact Below.refl _ _ | refine Below.setCell ?_ ?_ _ | refine Below.alloc ?_ ?_ _ | refine below_drewN ?_ _ | refine Below.drew ?_ | refine Below.trans ?_ (Below.mono (by assumption) ?_) | exact Nat.le_refl _ | refine Nat.le_trans ?_ (Below.size (by assumption)) | refine zzA ?_ | refine zzB ?_ | refine zzC ?_ | refine zzD ?_) | (simp; done) | (simp; omega) | omega)
      · have g5 : ¬ (T.size : Int) ≤ (s.size : Int) - (a : Int) := by omega
        have g6 : decide ((T.size : Int) ≤ (s.size : Int) - (a : Int)) = false := by simpa using g5
        have hpf : Lib.hasPrefix (s.data.toList.drop a) (nameL k) = false := by
          cases hb : Lib.hasPrefix (s.data.toList.drop a) (nameL k)
          · rfl
          · have h3 := ((hps true hb).1 rfl).length_le
            rw [List.length_drop, HL.out, ← HZ.out] at h3
            omega
        have HM : Hid (pick nameL (s.data.toList.drop a) 1 (8 - 1) = pick nameL (s.data.toList.drop a) (k + 1) (8 - (k + 1))) := by
          obtain ⟨q, hq⟩ := HQ.out
          show _ = _; rw [HK.out, hq, pick_miss hpf, show q = 8 - (k + 1) by omega]
        clear hpf hps
        go_wp2
        go_quiet (fail)
        go_wp2
        go_roundw
        case rel => exact ⟨k + 1, by omega, by omega, by go_num, HM.out, hB.trans (by repeat' (first | with_reducible (first | exact Below.refl _ _ | refine Below.setCell ?_ ?_ _ | refine Below.alloc ?_ ?_ _ | refine below_drewN ?_ _ | refine Below.drew ?_ | refine Below.trans ?_ (Below.mono (by assumption) ?_) | exact Nat.le_refl _ | refine Nat.le_trans ?_ (Below.size (by assumption)) | refine zzA ?_ | refine zzB ?_ | refine zzC ?_ | refine zzD ?_) | (simp; done) | (simp; omega) | omega))⟩
        case measure => simp [intOf]; omega
theorem rsign_any (s : ByteArray) (a : Nat) (w : World) (hs : s.size ≤ 1024) (ha : a ≤ s.size) :
    Calls Tryz.prog 75 #[.string s, .int .i64 (a : Int)] w fun e w' => e = .returned (.tuple #[tokV (atX a (signT (s.data.toList.drop a))).1, .int .i64 (atX a (signT (s.data.toList.drop a))).2.1, .int .i64 (atX a (signT (s.data.toList.drop a))).2.2]) ∧ Below w.heap.size w w' := by
  have HL : Hid (s.data.toList.length = s.size) := by show _ = _; simp
  have hT : signT (s.data.toList.drop a) = signOfT ((pick rsignL (s.data.toList.drop a) 0 (15 - 0)).map rsignL) := by unfold signT; rw [← signs_same]
  rw [hT]
  clear hT
  go_enter Tryz.func75, Tryz.ntmps75
  go_wp2
  have HC : Hid (∀ j, j < 15 → ((w.alloc (.cells #[.int .i64 0, .int .i64 0, .int .i64 0, .string ⟨#[]⟩, .bool false, .int .i64 0, .int .i64 0, .int .i64 0, .bool false, .bool false, .string ⟨#[]⟩, .int .i64 0] 66)).alloc (.cells (rsigns.map fun l => Value.string ⟨l.toArray⟩).toArray 9)).cell? ⟨w.heap.size + 1, j, none⟩ = some (.string ⟨(rsignL j).toArray⟩)) := fun j hj => by have := strs_cell (w.alloc (.cells #[.int .i64 0, .int .i64 0, .int .i64 0, .string ⟨#[]⟩, .bool false, .int .i64 0, .int .i64 0, .int .i64 0, .bool false, .bool false, .string ⟨#[]⟩, .int .i64 0] 66)) rsigns 9 j hj; rw [World.size_alloc] at this; exact this
  go_loopw [8] (fun iv wr => ∃ k : Nat, 0 ≤ k ∧ k ≤ 15 ∧ iv = .int .i64 k ∧ pick rsignL (s.data.toList.drop a) 0 (15 - 0) = pick rsignL (s.data.toList.drop a) k (15 - k) ∧ Below (w.heap.size + 2) ((w.alloc (.cells #[.int .i64 0, .int .i64 0, .int .i64 0, .string ⟨#[]⟩, .bool false, .int .i64 0, .int .i64 0, .int .i64 0, .bool false, .bool false, .string ⟨#[]⟩, .int .i64 0] 66)).alloc (.cells (rsigns.map fun l => Value.string ⟨l.toArray⟩).toArray 9)) wr) (fun iv _ => 15 - (intOf iv).toNat)
  case atStart => exact ⟨0, by omega, by omega, rfl, rfl, Below.refl _ _⟩
  case round =>
    obtain ⟨k, hk1, hk2, rfl, hp, hB⟩ := hrel
    have HK := hide hp
    clear hp
    have z_r : w.heap.size + 1 < wr.heap.size := by have := hB.size; simp at this; omega
    have z_r0 : w.heap.size < wr.heap.size := by omega
    have hBw : Below w.heap.size w wr := (((Below.refl _ _).alloc (Nat.le_refl _) _).alloc (by simp) _).trans (hB.mono (by omega))
    have HCr : Hid (∀ j, j < 15 → wr.cell? ⟨w.heap.size + 1, j, none⟩ = some (.string ⟨(rsignL j).toArray⟩)) := fun j hj => by rw [hB.cell (p := ⟨w.heap.size + 1, j, none⟩) (by simp)]; exact HC.out j hj
    have B12 : Below (w.heap.size + 1) (w.alloc (.cells #[.int .i64 0, .int .i64 0, .int .i64 0, .string ⟨#[]⟩, .bool false, .int .i64 0, .int .i64 0, .int .i64 0, .bool false, .bool false, .string ⟨#[]⟩, .int .i64 0] 66)) wr := ((Below.refl _ _).alloc (by simp) _).trans (hB.mono (by omega))
    obtain ⟨c_r, f_r⟩ := bcelln B12
    by_cases hN : k = 15
    · have HF : Hid (pick rsignL (s.data.toList.drop a) 0 (15 - 0) = none) := by show _ = _; rw [HK.out, hN]; simp [pick]
      have g8 : ¬ (k : Int) < 15 := by omega
      clear HC HCr
      go_wp2
      rw [HF.out]
      refine bodyPost_ret (v := .tuple #[.agg #[.int .i64 0, .int .i64 0, .int .i64 0, .string ⟨#[]⟩, .bool false, .int .i64 0, .int .i64 0, .int .i64 0, .bool false, .bool false, .string ⟨#[]⟩, .int .i64 0], .int .i64 0, .int .i64 5]) (by simp [results, Tryz.results75, go_sem, *]) rfl ⟨rfl, ?_⟩
      repeat' (first | with_reducible (first | exact Below.refl _ _ | refine Below.setCell ?_ ?_ _ | refine Below.alloc ?_ ?_ _ | refine below_drewN ?_ _ | refine Below.drew ?_ | refine Below.trans ?_ (Below.mono (by assumption) ?_) | exact Nat.le_refl _ | refine Nat.le_trans ?_ (Below.size (by assumption)) | refine zzA ?_ | refine zzB ?_ | refine zzC ?_ | refine zzD ?_) | (simp; done) | (simp; omega) | omega)
    · have g8 : (k : Int) < 15 := by omega
      have g0 : (0 : Int) ≤ (k : Int) := by omega
      have hk3 : k < 15 := by omega
      have hc := HCr.out k hk3
      have HT : Hid ((⟨(rsignL k).toArray⟩ : ByteArray).data.toList = rsignL k) := rfl
      have HZ : Hid ((⟨(rsignL k).toArray⟩ : ByteArray).size = (rsignL k).length) := by show (rsignL k).toArray.size = _; simp
      generalize hTT : (⟨(rsignL k).toArray⟩ : ByteArray) = T at hc HT HZ
      have HTT := hide hTT
      have HQ : Hid (∃ q, 15 - k = q + 1) := ⟨15 - 1 - k, by omega⟩
      have hps : ∀ b : Bool, Lib.hasPrefix (s.data.toList.drop a) (rsignL k) = b → (b = true ↔ (rsignL k) <+: s.data.toList.drop a) := fun b hb => by
        rw [← hb]; unfold Lib.hasPrefix; exact List.isPrefixOf_iff_prefix
      have hTs : T.size ≤ 10 := by rw [HZ.out]; exact sign_short k
      clear HC HCr hTT
      by_cases hlen : a + T.size ≤ s.size
      · have g5 : (T.size : Int) ≤ (s.size : Int) - (a : Int) := by omega
        have hx : (s.extract a (a + T.size)).data.toList = (s.data.toList.drop a).take T.size := ext_mid s a T.size
        cases hpf : Lib.hasPrefix (s.data.toList.drop a) (rsignL k)
        · have t1 : ((s.extract a (a + T.size)).toList == T.toList) = false := by
            rw [ByteArray.toList_eq, ByteArray.toList_eq, hx, HT.out, beq_eq_false_iff_ne]
            intro e
            have h3 := (hps false hpf).2 (by rw [← e]; exact List.take_prefix _ _)
            cases h3
          have HM : Hid (pick rsignL (s.data.toList.drop a) 0 (15 - 0) = pick rsignL (s.data.toList.drop a) (k + 1) (15 - (k + 1))) := by
            obtain ⟨q, hq⟩ := HQ.out
            show _ = _; rw [HK.out, hq, pick_miss hpf, show q = 15 - (k + 1) by omega]
          clear hpf hps hx
          go_wp2
          go_quiet (fail)
          go_wp2
          go_roundw
          case rel => exact ⟨k + 1, by omega, by omega, by go_num, HM.out, hB.trans (by repeat' (first | with_reducible (first | exact Below.refl _ _ | refine Below.setCell ?_ ?_ _ | refine Below.alloc ?_ ?_ _ | refine below_drewN ?_ _ | refine Below.drew ?_ | refine Below.trans ?_ (Below.mono (by assumption) ?_) | exact Nat.le_refl _ | refine Nat.le_trans ?_ (Below.size (by assumption)) | refine zzA ?_ | refine zzB ?_ | refine zzC ?_ | refine zzD ?_) | (simp; done) | (simp; omega) | omega))⟩
          case measure => simp [intOf]; omega
        · have t1 : ((s.extract a (a + T.size)).toList == T.toList) = true := by
            rw [ByteArray.toList_eq, ByteArray.toList_eq, hx, HT.out, beq_iff_eq, HZ.out]
            exact (List.prefix_iff_eq_take.1 ((hps true hpf).1 rfl)).symm
          have HM : Hid (pick rsignL (s.data.toList.drop a) 0 (15 - 0) = some k) := by
            obtain ⟨q, hq⟩ := HQ.out
            show _ = _; rw [HK.out, hq, pick_hit hpf]
          clear hpf hps hx
          go_wp2
          go_quiet (fail)
          go_wp2
          have c_n : ∀ b o, b < w.heap.size + 1 → (wr.drewN nq).cell? ⟨b, o, none⟩ = (w.alloc (.cells #[.int .i64 0, .int .i64 0, .int .i64 0, .string ⟨#[]⟩, .bool false, .int .i64 0, .int .i64 0, .int .i64 0, .bool false, .bool false, .string ⟨#[]⟩, .int .i64 0] 66)).cell? ⟨b, o, none⟩ := c_r
          go_region
          go_wp2
          rw [HM.out]
          refine bodyPost_ret (v := .tuple #[.agg #[.int .i64 4, .int .i64 0, .int .i64 0, .string ⟨#[]⟩, .bool false, .int .i64 0, .int .i64 0, .int .i64 0, .bool false, .bool false, .string T, .int .i64 (a : Int)], .int .i64 ((a : Int) + (T.size : Int)), .int .i64 0]) (by simp [results, Tryz.results75, go_sem, *]) rfl ⟨by rw [HZ.out]; show _ = Ending.returned (.tuple #[tokV (atX a ((opTok (rsignL k), (rsignL k).length, 0))).1, .int .i64 (atX a ((opTok (rsignL k), (rsignL k).length, 0))).2.1, .int .i64 (atX a ((opTok (rsignL k), (rsignL k).length, 0))).2.2]); rw [atX_yes a _ (by simp [opTok]), ← HTT.out]; rfl, ?_⟩
          repeat' (first | with_reducible (first | exact Below.refl _ _ | refine Below.setCell ?_ ?_ _ | refine Below.alloc ?_ ?_ _ | refine below_drewN ?_ _ | refine Below.drew ?_ | refine Below.trans ?_ (Below.mono (by assumption) ?_) | exact Nat.le_refl _ | refine Nat.le_trans ?_ (Below.size (by assumption)) | refine zzA ?_ | refine zzB ?_ | refine zzC ?_ | refine zzD ?_) | (simp; done) | (simp; omega) | omega)
      · have g5 : ¬ (T.size : Int) ≤ (s.size : Int) - (a : Int) := by omega
        have g6 : decide ((T.size : Int) ≤ (s.size : Int) - (a : Int)) = false := by simpa using g5
        have hpf : Lib.hasPrefix (s.data.toList.drop a) (rsignL k) = false := by
          cases hb : Lib.hasPrefix (s.data.toList.drop a) (rsignL k)
          · rfl
          · have h3 := ((hps true hb).1 rfl).length_le
            rw [List.length_drop, HL.out, ← HZ.out] at h3
            omega
        have HM : Hid (pick rsignL (s.data.toList.drop a) 0 (15 - 0) = pick rsignL (s.data.toList.drop a) (k + 1) (15 - (k + 1))) := by
          obtain ⟨q, hq⟩ := HQ.out
          show _ = _; rw [HK.out, hq, pick_miss hpf, show q = 15 - (k + 1) by omega]
        clear hpf hps
        go_wp2
        go_quiet (fail)
        go_wp2
        go_roundw
        case rel => exact ⟨k + 1, by omega, by omega, by go_num, HM.out, hB.trans (by repeat' (first | with_reducible (first | exact Below.refl _ _ | refine Below.setCell ?_ ?_ _ | refine Below.alloc ?_ ?_ _ | refine below_drewN ?_ _ | refine Below.drew ?_ | refine Below.trans ?_ (Below.mono (by assumption) ?_) | exact Nat.le_refl _ | refine Nat.le_trans ?_ (Below.size (by assumption)) | refine zzA ?_ | refine zzB ?_ | refine zzC ?_ | refine zzD ?_) | (simp; done) | (simp; omega) | omega))⟩
        case measure => simp [intOf]; omega
end Go.Proofs.YtiaoaifoecmemaaGreatDoor
