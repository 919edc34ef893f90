/-
  The answer's Check and Plain.
-/
import Derived.Test.YtmjjdcfobdcdpaaGreatDoorRc9
namespace Go.Proofs.YtmjjdcfobdcdpaaGreatDoor
open Go.RowKit
set_option linter.unusedSimpArgs false

theorem readT_cases {n₀ : Nat} {w : World} {S : List UInt8} {e : Ending} {W : World} (h : ReadT n₀ w S e W) :
    (secsOpt S = none ∧ e = .returned (.tuple #[.slice none 0 0, .int .i64 (checkR S)]) ∧ checkR S ≠ 0) ∨
    (∃ (ss : List (List Pc)) (g cap : Nat) (G : List (Value × List Pc)) (C : Array Value), secsOpt S = some ss ∧ checkR S = 0 ∧ e = .returned (.tuple #[.slice (some ⟨g, 0, none⟩) G.length cap, .int .i64 0]) ∧ RR n₀ W g cap G C ∧ G.map Prod.snd = ss.map (·.map kkP)) := by
  unfold ReadT at h
  unfold secsOpt checkR
  by_cases hl : 60 < S.length
  · rw [if_pos hl] at h
    exact .inl ⟨by rw [if_pos hl], by rw [if_pos hl]; exact h, by rw [if_pos hl]; decide⟩
  · rw [if_neg hl] at h
    rw [if_neg hl, if_neg hl]
    cases hr : readR S with
    | none =>
      rw [hr] at h
      exact .inl ⟨rfl, h, by decide⟩
    | some ss =>
      rw [hr] at h
      obtain ⟨g, cap, G, C, h1, h2, h3⟩ := h
      exact .inr ⟨ss, g, cap, G, C, rfl, rfl, h1, h2, h3⟩
set_option maxHeartbeats 2000000 in
theorem rCheck_any (S : List UInt8) (w : World) :
    Calls Tryz.prog 10 #[.string ⟨S.toArray⟩] w fun e w' => e = .returned (.int .i64 (checkR S)) ∧ Below w.heap.size w w' := by
  have HR := hide ((rRead_any S w).mono fun e w' h => (⟨readT_cases h.1, h.2⟩ : _ ∧ _))
  go_enter Tryz.func10, Tryz.ntmps10
  go_wp2_with (go_at_call 24; refine HR.out.mono ?_; rintro e w1 ⟨⟨ho, rfl, hc⟩ | ⟨ss, g, cap, G, C, ho, hc, rfl, hr, hg⟩, hb1⟩)
  · go_ret
    exact ⟨rfl, hb1⟩
  · go_ret
    rw [hc]
    exact ⟨rfl, hb1⟩
set_option maxRecDepth 100000 in
set_option maxHeartbeats 4000000 in
theorem rPlain_any (S : List UInt8) (w : World) :
    Calls Tryz.prog 12 #[.string ⟨S.toArray⟩] w fun e w' => e = .returned (.bool (plainR S)) ∧ Below w.heap.size w w' := by
  unfold plainR
  cases ho : secsOpt S with
  | none =>
    have HR : Hid (Calls Tryz.prog 24 #[.string ⟨S.toArray⟩] w fun e w' => (e = .returned (.tuple #[.slice none 0 0, .int .i64 (checkR S)]) ∧ checkR S ≠ 0) ∧ Below w.heap.size w w') := hide ((rRead_any S w).mono fun e w' h => by
      rcases readT_cases h.1 with ⟨_, h2, h3⟩ | ⟨ss, g, cap, G, C, h1, _⟩
      · exact ⟨⟨h2, h3⟩, h.2⟩
      · rw [ho] at h1; cases h1)
    simp only
    go_enter Tryz.func12, Tryz.ntmps12
    go_wp2_with (go_at_call 24; refine HR.out.mono ?_; rintro e w1 ⟨⟨rfl, hc⟩, hb1⟩; (have hz1 : (checkR S == 0) = false := (by rw [beq_eq_false_iff_ne]; exact hc)); (have hz2 : (checkR S != 0) = true := (by rw [bne, hz1]; rfl)))
    go_ret
    exact ⟨rfl, hb1⟩
  | some ss =>
    have HR : Hid (Calls Tryz.prog 24 #[.string ⟨S.toArray⟩] w fun e w' => (∃ (g cap : Nat) (G : List (Value × List Pc)) (C : Array Value), e = .returned (.tuple #[.slice (some ⟨g, 0, none⟩) G.length cap, .int .i64 0]) ∧ RR w.heap.size w' g cap G C ∧ G.map Prod.snd = ss.map (·.map kkP)) ∧ Below w.heap.size w w') := hide ((rRead_any S w).mono fun e w' h => by
      rcases readT_cases h.1 with ⟨h1, _⟩ | ⟨ss', g, cap, G, C, h1, _, h3, h4, h5⟩
      · rw [ho] at h1; cases h1
      · rw [ho] at h1; cases h1
        exact ⟨⟨g, cap, G, C, h3, h4, h5⟩, h.2⟩)
    obtain ⟨hsane, hss1, hss3⟩ := sane_of ho
    have hrdp : ∀ ps ∈ ss, (∀ q ∈ ps, q.k ≤ 5) ∧ (∀ q ∈ ps, q.k ≠ 5) ∧ ps.length ≤ 1000 ∧ rightS ps = true := by
      intro ps hps
      have ho2 := ho
      unfold secsOpt at ho2
      split at ho2
      · cases ho2
      · unfold readR at ho2
        split at ho2
        · cases ho2
        · rename_i xs hxs
          split at ho2
          · cases ho2
            have hrd := rd_of_pieces S.length S [] xs (Nat.le_refl _) Rd.none hxs
            rw [List.nil_append] at hrd
            exact ⟨fun q hq => rd_kinds hrd q (secsR_mem _ xs (Nat.le_refl _) ps hps q hq), secs_no5 _ xs (Nat.le_refl _) ps hps, by have := (hsane ps hps).len; omega, (hsane ps hps).right⟩
          · cases ho2
    have HD := hide hrdp
    obtain ⟨R, hR⟩ : ∃ R, (!ss.any notWordsB) = R := ⟨_, rfl⟩
    simp only [hR]
    have HRv := hide hR
    clear hrdp hsane ho hR
    go_enter Tryz.func12, Tryz.ntmps12
    go_wp2_with (go_at_call 24; refine HR.out.mono ?_; rintro e w1 ⟨⟨g, cap, G, C, rfl, hrr, hG⟩, hb1⟩; have HRR := hide hrr; have HSc := hide hG; have HB := hide hb1; (have hGl : G.length = ss.length := (by have h3 := congrArg List.length hG; simpa using h3)); clear hrr hG hb1 HR)
    have hG3 : (G.length : Int) ≤ 3 := by omega
    go_loopw [5] (fun iv wx => ∃ i : Nat, i ≤ G.length ∧ iv = .int .i64 i ∧ Hid (∀ ps ∈ ss.take i, notWordsB ps = false) ∧ Hid (Below w1.heap.size w1 wx)) (fun iv _ => G.length - (intOf iv).toNat)
    case atStart => exact ⟨0, Nat.zero_le _, rfl, by intro ps hps; simp at hps, Below.refl _ _⟩
    case round =>
      obtain ⟨i, hi, rfl, HA, HBx⟩ := hrel
      by_cases hli : i < G.length
      · have gi : (i : Int) < (G.length : Int) := by omega
        have gi0 : (0 : Int) ≤ (i : Int) := by omega
        have hlis : i < ss.length := by omega
        have gis : (i : Int) < (ss.length : Int) := by omega
        have hk := HRR.out.keep (KC.of_below HBx.out)
        have hGe := List.getElem?_eq_getElem hli
        have hcell := hk.cells i _ hGe
        have hpcs := pcs_of' (hk.rows i _ hGe)
        have hsec : G[i].2 = ss[i].map kkP := by
          have := congrArg (fun l => l[i]?) HSc.out
          simp only [List.getElem?_map, hGe, List.getElem?_eq_getElem hlis, Option.map_some] at this
          exact Option.some.inj this
        rw [hsec] at hpcs
        obtain ⟨d1, d2, d3, d4⟩ := HD.out _ (List.getElem_mem hlis)
        have hrk := rKind_any G[i].1 (ss[i].map kkP) _ hpcs (fun q hq => by
          obtain ⟨p, hp, rfl⟩ := List.mem_map.1 hq
          exact kk_lt (d1 p hp) (d2 p hp)) (by simp; omega)
        rw [rkind_is d1, d4] at hrk
        simp only [if_true] at hrk
        have hk4 : kindS ss[i] ≤ 4 := by unfold kindS; (repeat' split) <;> omega
        have HB2 := hide (HB.out.trans (HBx.out.mono HB.out.size))
        by_cases hz : kindS ss[i] = 0
        · have hzz : kk (kindS ss[i]) = 0 := by rw [hz]; rfl
          rw [hzz] at hrk
          have HKd := hide hrk
          have HA2 : Hid (∀ ps ∈ ss.take (i + 1), notWordsB ps = false) := by
            intro ps hps
            rw [List.take_succ_eq_append_getElem hlis] at hps
            rcases List.mem_append.1 hps with h | h
            · exact HA.out ps h
            · rw [List.mem_singleton] at h; rw [h]; unfold notWordsB; rw [hz]; rfl
          clear hrk hpcs hk hsec d1 d2 d3 d4
          go_wp2_with (go_at_call 28; refine (HKd.out).mono ?_; rintro e w2 ⟨rfl, hb2⟩; have HB3 := hide (up HBx.out hb2); clear hb2)
          go_roundw
          case rel => exact ⟨i + 1, hli, by go_num, HA2, HB3⟩
          case measure => simp [intOf] <;> omega
        · have hkk : kk (kindS ss[i]) ≠ 0 := fun q => hz ((kk_inj (a := kindS ss[i]) (b := 0) (by omega) (by omega)).1 q)
          obtain ⟨KV, hKV⟩ : ∃ KV, kk (kindS ss[i]) = KV := ⟨_, rfl⟩
          rw [hKV] at hrk hkk
          have HKd := hide hrk
          have z1 : ((KV : Int) == 0) = false := by rw [beq_eq_false_iff_ne]; omega
          have z2 : ((KV : Int) != 0) = true := by rw [bne, z1]; rfl
          have z3 : ¬ (KV : Int) = 0 := by omega
          have HF : Hid (R = false) := by
            show _ = _
            rw [← HRv.out, List.any_eq_true.2 ⟨ss[i], List.getElem_mem hlis, by unfold notWordsB; simpa using hz⟩]; rfl
          clear hrk hpcs hk hsec d1 d2 d3 d4 hKV
          go_wp2_with (go_at_call 28; refine (HKd.out).mono ?_; rintro e w2 ⟨rfl, hb2⟩)
          go_ret
          rw [HF.out]
          exact ⟨rfl, up HB2.out hb2⟩
      · have gi : ¬ (i : Int) < (G.length : Int) := by omega
        have gis : ¬ (i : Int) < (ss.length : Int) := by omega
        have HB2 := hide (HB.out.trans (HBx.out.mono HB.out.size))
        have e : ss.take i = ss := List.take_of_length_le (by omega)
        have hall := HA.out
        rw [e] at hall
        have HF : Hid (R = true) := by
          show _ = _
          rw [← HRv.out]
          have : ss.any notWordsB = false := by rw [List.any_eq_false]; intro ps hps; rw [hall ps hps]; decide
          rw [this]; rfl
        clear hall
        go_wp2
        go_ret
        rw [HF.out]
        exact ⟨rfl, HB2.out⟩
end Go.Proofs.YtmjjdcfobdcdpaaGreatDoor
