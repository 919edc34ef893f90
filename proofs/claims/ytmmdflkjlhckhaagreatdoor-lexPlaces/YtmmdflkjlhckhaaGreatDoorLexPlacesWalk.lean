/-
  LexPlaces: tokens rise, each begins with a byte that is no blank, and the text from a token on tells it and those behind.
-/
import Derived.Test.YtmmdflkjlhckhaaGreatDoorLxM4
import Derived.Deep.RegionHeld3
namespace Go.Proofs.YtmmdflkjlhckhaaGreatDoor
open Go.RowKit Go.Shelf

/-- What is told of each token but the end. -/
theorem scan_place {s : ByteArray} {ts : List Tok} {z : Int} (h : scanR s.data.toList = (ts, z, 0)) {i : Nat} (hi : i + 1 < ts.length) :
    ∃ (q : Nat) (x y : Tok), q < s.size ∧ ts[i]? = some x ∧ ts[i + 1]? = some y ∧ x.pos = (q : Int) ∧ x.kind ≠ 0 ∧ x.pos < y.pos ∧ (∀ hq : q < s.size, s[q].toNat ≠ 32) ∧ (scanR (s.data.toList.drop q)).2.2 = 0 ∧ bareT (scanR (s.data.toList.drop q)).1 = bareT (ts.drop i) := by
  obtain ⟨hl, hc, e⟩ := scan_zero (l := s.data.toList) (by rw [h])
  have hlen : s.data.toList.length = s.size := by simp
  have ets : ts = (allG s.data.toList).map (fun x => x.1) := by rw [h] at e; simpa using congrArg Prod.fst e
  rw [ets, List.length_map] at hi
  obtain ⟨q, x, y, hq, hx, hy, e1, e2, e3, e4, e5⟩ := run_place i (s.data.toList.length + 1) 0 s.data.toList (by omega) hi
  have hg : (allG (s.data.toList.drop q)).map bareX = ((allG s.data.toList).drop i).map bareX := e5 _ (by omega)
  have hcl : ∀ x ∈ allG (s.data.toList.drop q), x.2 = 0 := bare_clean hg.symm (fun y hy => hc y (List.mem_of_mem_drop hy))
  have hs := scan_of (l := s.data.toList.drop q) (by rw [List.length_drop]; omega) hcl
  refine ⟨q, x.1, y.1, by omega, ?_, ?_, by rw [e1]; simp, e2, e3, fun hq' => ?_, by rw [hs], ?_⟩
  · rw [ets, List.getElem?_map]
    show Option.map _ (runG _ _ _)[i]? = _
    rw [hx]; rfl
  · rw [ets, List.getElem?_map]
    show Option.map _ (runG _ _ _)[i + 1]? = _
    rw [hy]; rfl
  · have h0 := e4 hq
    have e0 : s[q] = s.data.toList[q]'hq := by rw [ByteArray.getElem_eq_getElem_data, Array.getElem_toList]
    rw [← e0] at h0
    unfold blankB at h0
    simpa using h0
  · rw [hs, ets, ← List.map_drop, bareT_map, bareT_map]
    exact dropLast_bare hg
theorem scan_end {s : ByteArray} {ts : List Tok} {z : Int} (h : scanR s.data.toList = (ts, z, 0)) : ts ≠ [] ∧ ts.length ≤ 1025 ∧ ts[ts.length - 1]? = some (zt.put (s.size : Int)) := by
  obtain ⟨hl, hc, e⟩ := scan_zero (l := s.data.toList) (by rw [h])
  have hlen : s.data.toList.length = s.size := by simp
  have ets : ts = (allG s.data.toList).map (fun x => x.1) := by rw [h] at e; simpa using congrArg Prod.fst e
  have hne : allG s.data.toList ≠ [] := run_ne (by omega)
  have hle := all_len s.data.toList
  refine ⟨by rw [ets]; simpa using hne, by rw [ets, List.length_map]; omega, ?_⟩
  have := run_end s.data.toList.length (s.data.toList.length + 1) 0 s.data.toList (Nat.le_refl _) (by omega) hc
  rw [List.getLast?_eq_getElem?] at this
  rw [ets, List.length_map, List.getElem?_map]
  show Option.map _ (runG _ _ _)[_]? = _
  rw [show (allG s.data.toList).length - 1 = (runG (s.data.toList.length + 1) 0 s.data.toList).length - 1 from rfl, this]
  simp
set_option maxRecDepth 100000 in
set_option maxHeartbeats 4000000 in
theorem places_bad (s : ByteArray) (w : World) (he : EnvL w) (hs : s.size ≤ maxLen) (h : (scanR s.data.toList).2.2 ≠ 0) :
    Calls Tryz.prog 6 #[.string s] w fun e w' => e = .returned (.bool true) ∧ Below w.heap.size w w' := by
  have HV : Hid (∀ W : World, EnvL W → Calls Tryz.prog 11 #[] W fun e w' => e = .returned (.bool true) ∧ Below W.heap.size W w') := fun W hW => lives_any W hW
  have HA : Hid (∀ W : World, EnvL W → Calls Tryz.prog 8 #[.string s] W fun e w' => ∃ p c, e = .returned (.tuple #[.slice p 0 c, .int .i64 (scanR s.data.toList).2.1, .int .i64 (scanR s.data.toList).2.2]) ∧ Below W.heap.size W w') := fun W hW => (scan_any s W hW hs).mono (by
    rintro e w' ⟨v, rfl, hr, hb⟩
    rw [scan_bad h] at hr
    obtain ⟨p, c, rfl⟩ : ∃ p cap, v = .slice p 0 cap := by
      unfold RowT at hr
      rcases hr.2 with ⟨h, _⟩ | ⟨g, cap, cur, h1, _⟩
      · exact ⟨_, _, h⟩
      · exact ⟨_, _, h1⟩
    exact ⟨p, c, rfl, hb⟩)
  generalize (scanR s.data.toList).2.1 = za at *
  generalize (scanR s.data.toList).2.2 = ea at *
  have e1 : (ea == 0) = false := by simpa using h
  have HE := hide he
  clear he h hs
  go_enter Tryz.func6, Tryz.ntmps6
  go_wp2_with fail
  refine (HA.out _ HE.out).mono ?_
  rintro e w1 ⟨p, c, rfl, hb1⟩
  go_wp2_with (go_at_call 11; refine (HV.out _ (HE.out.below hb1)).mono ?_; rintro e wl ⟨rfl, hbl⟩)
  go_ret
  exact ⟨rfl, hb1.trans (hbl.mono hb1.size)⟩
set_option maxRecDepth 100000 in
set_option maxHeartbeats 4000000 in
theorem places_good (s : ByteArray) (w : World) (he : EnvL w) (hs : s.size ≤ 1024) (m : Nat) (ts : List Tok) (z : Int) (h : scanR s.data.toList = (ts, z, 0)) (hm : ts.length = m + 1) :
    Calls Tryz.prog 6 #[.string s] w fun e w' => e = .returned (.bool true) ∧ Below w.heap.size w w' := by
  have HV : Hid (∀ W : World, EnvL W → Calls Tryz.prog 11 #[] W fun e w' => e = .returned (.bool true) ∧ Below W.heap.size W w') := fun W hW => lives_any W hW
  have HA : Hid (∀ W : World, EnvL W → Calls Tryz.prog 8 #[.string s] W fun e w' => ∃ g c, e = .returned (.tuple #[.slice (some ⟨g, 0, none⟩) (m + 1) c, .int .i64 z, .int .i64 0]) ∧ g < w'.heap.size ∧ m + 1 ≤ c ∧ c ≤ maxLen ∧ RowT W.heap.size w' (.slice (some ⟨g, 0, none⟩) (m + 1) c) ts ∧ Below W.heap.size W w') := fun W hW => (scan_any s W hW (by unfold maxLen; omega)).mono (by
    rintro e w' ⟨v, rfl, hr, hb⟩
    rw [h] at hr ⊢
    have hr' := hr
    unfold RowT at hr
    rw [hm] at hr
    rcases hr.2 with ⟨_, h⟩ | ⟨g, cap, cur, rfl, _, h3, h4, h5, _⟩
    · cases h
    · exact ⟨g, cap, rfl, (Array.getElem?_eq_some_iff.1 h3).1, h4, h5, hr', hb⟩)
  have HP : Hid (∀ i, i < m → ∃ (q : Nat) (x y : Tok), q < s.size ∧ ts[i]? = some x ∧ ts[i + 1]? = some y ∧ x.pos = (q : Int) ∧ x.kind ≠ 0 ∧ x.pos < y.pos ∧ (∀ hq : q < s.size, s[q].toNat ≠ 32) ∧ (scanR (s.data.toList.drop q)).2.2 = 0 ∧ bareT (scanR (s.data.toList.drop q)).1 = bareT (ts.drop i)) := fun i hi => scan_place h (by omega)
  obtain ⟨_, hm2, hend⟩ := scan_end h
  have hm3 : m ≤ 1024 := by omega
  rw [hm] at hend
  have HN := hide hend
  have HM := hide hm
  have HE := hide he
  clear he h hend hm hm2
  go_enter Tryz.func6, Tryz.ntmps6
  go_wp2_with fail
  refine (HA.out _ HE.out).mono ?_
  rintro e w1 ⟨g, c, rfl, hg, hc1, hc2, hr, hb1⟩
  unfold maxLen at hc2
  have d0 : w1.cell? ⟨g, m * 12, none⟩ = some (.int .i64 0) := (row_cell hr m _ HN.out 0 (by omega) (m * 12) (by omega)).trans rfl
  have d11 : w1.cell? ⟨g, m * 12 + 11, none⟩ = some (.int .i64 (s.size : Int)) := (row_cell hr m _ HN.out 11 (by omega) (m * 12 + 11) (by omega)).trans rfl
  have HR := hide hr
  clear hr
  go_wp2
  clear d0 d11
  go_loopw [6] (fun iv wr => ∃ k : Nat, k ≤ m ∧ k ≤ 30 ∧ iv = .int .i64 k ∧ Below w1.heap.size w1 wr) (fun iv _ => m - (intOf iv).toNat)
  case atStart => exact ⟨0, Nat.zero_le _, by omega, rfl, Below.refl _ _⟩
  case round =>
    obtain ⟨k, hk, hk30, rfl, hB⟩ := hrel
    have hBw : Below w.heap.size w wr := hb1.trans (hB.mono hb1.size)
    by_cases hlt : k < m
    · have g1 : (k : Int) + 1 < (m : Int) + 1 := by omega
      obtain ⟨q, x, y, hq, hx, hy, e1, e2, e3, e4, e5, e6⟩ := HP.out k hlt
      have hrow := HR.out.below hB
      have a0 : wr.cell? ⟨g, k * 12, none⟩ = some (.int .i64 x.kind) := (row_cell hrow k _ hx 0 (by omega) (k * 12) (by omega)).trans rfl
      have a11 : wr.cell? ⟨g, k * 12 + 11, none⟩ = some (.int .i64 (q : Int)) := (row_cell hrow k _ hx 11 (by omega) (k * 12 + 11) (by omega)).trans (by rw [← e1]; rfl)
      have b11 : wr.cell? ⟨g, (k + 1) * 12 + 11, none⟩ = some (.int .i64 y.pos) := (row_cell hrow (k + 1) _ hy 11 (by omega) ((k + 1) * 12 + 11) (by omega)).trans rfl
      have f1 : (q : Int) < y.pos := by rw [← e1]; exact e3
      have f2 : (x.kind == 0) = false := by simpa using e2
      have f3 : ((s[q].toNat : Int) == 32) = false := by rw [beq_eq_false_iff_ne]; have := e4 hq; omega
      have HS : Hid (∀ W : World, EnvL W → Calls Tryz.prog 8 #[.string (s.extract q s.size)] W fun e w' => ∃ v, e = .returned (.tuple #[v, .int .i64 (scanR (s.data.toList.drop q)).2.1, .int .i64 0]) ∧ RowT W.heap.size w' v (scanR (s.data.toList.drop q)).1 ∧ Below W.heap.size W w') := fun W hW => by
        have := scan_any (s.extract q s.size) W hW (by have := ext_size s q s.size; unfold maxLen; omega)
        rw [str_drop', e5] at this
        exact this
      have ls : (scanR (s.data.toList.drop q)).1.length ≤ 2000 := by
        have h3 := scan_zero e5
        rw [h3.2.2, List.length_map]; have := all_len (s.data.toList.drop q); have := h3.1; omega
      have h6 := hide e6
      generalize (scanR (s.data.toList.drop q)).2.1 = zs at *
      generalize (scanR (s.data.toList.drop q)).1 = tq at *
      generalize x.kind = xk at *
      generalize y.pos = yp at *
      clear e1 e2 e3 e4 e5 e6 hx hy
      by_cases h30 : k = 30
      · have g30 : (30 : Int) ≤ (k : Int) := by omega
        clear h30
        go_wp2_with (go_at_call 11; refine (HV.out _ (HE.out.below hBw)).mono ?_; rintro e wl ⟨rfl, hbl⟩)
        go_ret
        exact ⟨rfl, hBw.trans (hbl.mono hBw.size)⟩
      · have g30 : ¬ (30 : Int) ≤ (k : Int) := by omega
        clear h30
        go_wp2_with fail
        refine (HS.out _ (HE.out.below hBw)).mono ?_
        rintro e w2 ⟨vq, rfl, rq, hb2⟩
        have HQ : Hid (∀ W : World, Below w2.heap.size w2 W → Calls Tryz.prog 13 #[vq] W fun e w' => ∃ v', e = .returned v' ∧ (∀ W', Below w'.heap.size w' W' → Rd W' v' (bareT tq)) ∧ Below W.heap.size W w') := fun W hW => (bare_any vq tq W (rq.rd.below hW) ls).mono (by
          rintro e w' ⟨v', rfl, h1, h2⟩
          exact ⟨v', rfl, fun W' hW' => h1.rd.below hW', h2⟩)
        have HL : Hid (∀ W : World, Below w2.heap.size w2 W → Calls Tryz.prog 13 #[.slice (some ⟨g, k * 12, none⟩) (m + 1 - k) (c - k)] W fun e w' => ∃ v', e = .returned v' ∧ (∀ W', Below w'.heap.size w' W' → Rd W' v' (bareT tq)) ∧ Below W.heap.size W w') := fun W hW => by
          have hd := (hrow.rd.drop k (by have := HM.out; omega)).below (hb2.trans (hW.mono hb2.size))
          rw [HM.out, show 0 + 12 * k = k * 12 by omega] at hd
          refine (bare_any _ (ts.drop k) W hd (by rw [List.length_drop]; have := HM.out; omega)).mono ?_
          rintro e w' ⟨v', rfl, h1, h2⟩
          rw [h6.out]
          exact ⟨v', rfl, fun W' hW' => h1.rd.below hW', h2⟩
        have k1 : k ≤ m + 1 := by omega
        have k2 : k < c := by omega
        have k3 : 0 < c - k := by omega
        have k4 : ¬ c - k = 0 := by omega
        have HROW := hide hrow
        clear rq hrow a0 a11 b11
        go_wp2
        go_region_with (first
          | (go_at_call_of 13 vq; refine (HQ.out _ ?_).mono ?_; (focus (repeat' (first | with_reducible exact Below.refl _ _ | with_reducible refine Below.setCell ?_ ?_ _ | with_reducible refine Below.alloc ?_ ?_ _ | with_reducible refine below_drewN ?_ _ | with_reducible refine Below.drew ?_ | with_reducible refine Below.trans ?_ (Below.mono (by assumption) ?_) | with_reducible exact Nat.le_refl _ | with_reducible refine Nat.le_trans ?_ (Below.size (by assumption)) | with_reducible refine Nat.le_trans ?_ (size_alloc _ _) | with_reducible refine Nat.le_trans ?_ (size_set _ _ _) | with_reducible refine Nat.le_trans ?_ (size_drewN _ _) | with_reducible refine Nat.le_trans ?_ (size_drew _) | (simp; done) | (simp; omega) | omega))); rintro e wa ⟨va, rfl, ra, hba⟩)
          | (go_at_call 13; refine (HL.out _ ?_).mono ?_; (focus (repeat' (first | with_reducible exact Below.refl _ _ | with_reducible refine Below.setCell ?_ ?_ _ | with_reducible refine Below.alloc ?_ ?_ _ | with_reducible refine below_drewN ?_ _ | with_reducible refine Below.drew ?_ | with_reducible refine Below.trans ?_ (Below.mono (by assumption) ?_) | with_reducible exact Nat.le_refl _ | with_reducible refine Nat.le_trans ?_ (Below.size (by assumption)) | with_reducible refine Nat.le_trans ?_ (size_alloc _ _) | with_reducible refine Nat.le_trans ?_ (size_set _ _ _) | with_reducible refine Nat.le_trans ?_ (size_drewN _ _) | with_reducible refine Nat.le_trans ?_ (size_drew _) | (simp; done) | (simp; omega) | omega))); rintro e wb ⟨vb, rfl, rb, hbb⟩)
          | (go_at_call 12; refine (same_any _ _ (bareT tq) _ (ra _ ?_) (rb _ ?_)).mono ?_; (focus (repeat' (first | with_reducible exact Below.refl _ _ | with_reducible refine Below.setCell ?_ ?_ _ | with_reducible refine Below.alloc ?_ ?_ _ | with_reducible refine below_drewN ?_ _ | with_reducible refine Below.drew ?_ | with_reducible refine Below.trans ?_ (Below.mono (by assumption) ?_) | with_reducible exact Nat.le_refl _ | with_reducible refine Nat.le_trans ?_ (Below.size (by assumption)) | with_reducible refine Nat.le_trans ?_ (size_alloc _ _) | with_reducible refine Nat.le_trans ?_ (size_set _ _ _) | with_reducible refine Nat.le_trans ?_ (size_drewN _ _) | with_reducible refine Nat.le_trans ?_ (size_drew _) | (simp; done) | (simp; omega) | omega))); (focus (repeat' (first | with_reducible exact Below.refl _ _ | with_reducible refine Below.setCell ?_ ?_ _ | with_reducible refine Below.alloc ?_ ?_ _ | with_reducible refine below_drewN ?_ _ | with_reducible refine Below.drew ?_ | with_reducible refine Below.trans ?_ (Below.mono (by assumption) ?_) | with_reducible exact Nat.le_refl _ | with_reducible refine Nat.le_trans ?_ (Below.size (by assumption)) | with_reducible refine Nat.le_trans ?_ (size_alloc _ _) | with_reducible refine Nat.le_trans ?_ (size_set _ _ _) | with_reducible refine Nat.le_trans ?_ (size_drewN _ _) | with_reducible refine Nat.le_trans ?_ (size_drew _) | (simp; done) | (simp; omega) | omega))); rintro e wc ⟨rfl, hbc⟩))
        all_goals
          go_wp2
          go_roundw
          case rel =>
            refine ⟨_, _, _, _, _, _, _, _, _, _, _, _, _, _, _, _, _, _, _, _, _, _, _, _, _, _, _, _, _, _, _, _, _, _, _, _, _, _, _, _, _, _, _, _, _, _, _, _, _, _, _, _, _, _, _, _, _, _, _, _, _, _, _, _, _, _, _, _, _, _, _, _, _, _, _, _, _, ?_, rfl⟩
            clear hBw
            have z1 := hB.size
            have z2 := hb2.size
            have z3 : w2.drew.heap.size = w2.heap.size := by first | rfl | simp
            exact ⟨k + 1, by omega, by omega, by go_num, by repeat' (first | with_reducible exact Below.refl _ _ | with_reducible refine Below.setCell ?_ ?_ _ | with_reducible refine Below.alloc ?_ ?_ _ | with_reducible refine below_drewN ?_ _ | with_reducible refine Below.drew ?_ | with_reducible refine Below.trans ?_ (Below.mono (by assumption) ?_) | with_reducible exact Nat.le_refl _ | with_reducible refine Nat.le_trans ?_ (Below.size (by assumption)) | with_reducible refine Nat.le_trans ?_ (size_alloc _ _) | with_reducible refine Nat.le_trans ?_ (size_set _ _ _) | with_reducible refine Nat.le_trans ?_ (size_drewN _ _) | with_reducible refine Nat.le_trans ?_ (size_drew _) | (simp; done) | (simp; omega) | omega)⟩
          case measure => simp [intOf]; omega
    · have g1 : ¬ (k : Int) + 1 < (m : Int) + 1 := by omega
      go_wp2_with (go_at_call 11; refine (HV.out _ (HE.out.below hBw)).mono ?_; rintro e wl ⟨rfl, hbl⟩)
      go_ret
      exact ⟨rfl, hBw.trans (hbl.mono hBw.size)⟩
theorem lexPlaces_walk (s : ByteArray) (w : World) (he : EnvL w) (hs : s.size ≤ maxLen) :
    Calls Tryz.prog 6 #[.string s] w fun e w' => e = .returned (.bool true) ∧ Below w.heap.size w w' := by
  by_cases h : (scanR s.data.toList).2.2 = 0
  · have hl : s.data.toList.length = s.size := by simp
    have h1 := (scan_zero h).1
    obtain ⟨ts, z, e⟩ : ∃ ts z, scanR s.data.toList = (ts, z, 0) := ⟨_, _, by rw [← h]⟩
    have h2 := (scan_end e).1
    exact places_good s w he (by omega) (ts.length - 1) ts z e (by have := List.length_pos_iff.2 h2; omega)
  · exact places_bad s w he hs h
end Go.Proofs.YtmmdflkjlhckhaaGreatDoor
